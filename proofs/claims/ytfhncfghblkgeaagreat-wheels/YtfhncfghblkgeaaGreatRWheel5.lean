/-
  The reference's timers: Advance.
-/
import Derived.Test.YtfhncfghblkgeaaGreatRWheel4
import Derived.Test.YtfhncfghblkgeaaGreatWBase
namespace Go.Proofs.YtfhncfghblkgeaaGreat
open Go.RowKit
/-- What Advance leaves: the list that came out, which is fresh, and the timers. -/
def advAns (w w' : World) (B R : Nat) (v : Value) (now : Int) (out : Value) (o L : List (Int × Int)) : Prop :=
  w'.ownsRow w.heap.size 131 2 out o.length (flatT o) ∧ ∃ v', rwAt w' B R now v' L ∧ Same (fun b => b = R) w w' ∧ (∀ k, v'.ownBlock = some k → v.ownBlock = some k ∨ w.heap.size ≤ k) ∧ (∀ k, out.ownBlock = some k → v'.ownBlock ≠ some k)

theorem own_ne {w : World} {B n R : Nat} {v : Value} {xs : List Value} {C : Array Value} (h : w.ownsRow B 131 2 v n xs) (hR : w.heap[R]? = some (.cells C 151 (0, 0))) : v.ownBlock ≠ some R := by
  intro e
  rcases h.2 with ⟨rfl, _⟩ | ⟨g, c, cur, rfl, _, hh, _⟩
  · simp [Value.ownBlock] at e
  · simp [Value.ownBlock] at e
    subst e
    rw [hR] at hh
    simp at hh

/-- A round of Advance: a timer goes to the list, and is taken out. -/
theorem adv_round {w wr w2 w3 w4 : World} {B R : Nat} {v0 v' out out' : Value} {to : Int} {o L : List (Int × Int)} {L' : List (Int × Int)} {p : Int × Int} {O : Obj} (hB : B ≤ w.heap.size) (h : advAns w wr B R v0 to out o L) (hb2 : Below wr.heap.size wr w2)
    (hown3 : w3.ownsRow w.heap.size 131 2 out' (o.length + 1) (flatT o ++ [.int .i64 p.1, .int .i64 p.2])) (hg : (w2.alloc O).grownBy w3 out.ownBlock) (hat : out'.ownBlock = out.ownBlock ∨ out'.ownBlock = some (w2.alloc O).heap.size)
    (hown4 : w4.ownsRow w3.heap.size 131 2 v' L'.length (flatT L')) (hb4 : Below w3.heap.size w3 w4) :
    advAns w (w4.setCell ⟨R, 1, none⟩ v') B R v0 to out' (o ++ [p]) L' := by
  obtain ⟨ho, v1, hr, hs, hv, hd⟩ := h
  have hRr : R < wr.heap.size := (Array.getElem?_eq_some_iff.1 hr.1).1
  have hsz2 := hb2.size
  have hsz3 : w2.heap.size + 1 ≤ w3.heap.size := by have := hg.size; simpa using this
  have hsz4 := hb4.size
  have hszr := hs.size
  have hRo : out.ownBlock ≠ some R := by
    intro e
    rcases ho.2 with ⟨rfl, _⟩ | ⟨g, c, cur, rfl, _, hh, _⟩
    · simp [Value.ownBlock] at e
    · simp [Value.ownBlock] at e
      subst e
      rw [hr.1] at hh
      simp at hh
  have hkeep : ∀ k, k < wr.heap.size → out.ownBlock ≠ some k → w4.heap[k]? = wr.heap[k]? := fun k hk hn =>
    (hb4.block k (by omega)).trans ((hg.block k (by simp; omega) (fun e => hn e.symm)).trans ((Below.heap_alloc w2 O k (by omega)).trans (hb2.block k hk)))
  have hR4 : w4.heap[R]? = some (.cells #[.int .i64 to, v1] 151 (0, 0)) := (hkeep R hRr hRo).trans hr.1
  have hv' := World.ownsRow.lt hown4
  have hout' := World.ownsRow.lt hown3
  have hne' : ∀ k, out'.ownBlock = some k → k ≠ R := by
    intro k hk e
    rcases hat with e' | e'
    · exact hRo (e'.symm.trans (e ▸ hk))
    · rw [hk] at e'; simp at e'; omega
  refine ⟨?_, v', ⟨?_, ?_⟩, ?_, ?_, ?_⟩
  · rw [flatT_snoc, List.length_append, List.length_singleton]
    have h4 := ownsRow_below hown3 hb4 (Nat.le_refl _)
    refine ⟨h4.1, h4.2.imp id ?_⟩
    rintro ⟨g, cap, cur, hv, hb, hh, hr⟩
    refine ⟨g, cap, cur, hv, hb, ?_, hr⟩
    rw [Below.heap_setCell _ ⟨R, 1, none⟩ _ _ (by show g ≠ R; exact hne' g (by rw [hv]; rfl))]
    exact hh
  · rw [Joins.block_setCell hR4]; rfl
  · refine ⟨hown4.1, hown4.2.imp id ?_⟩
    rintro ⟨g, cap, cur, hv, hg', hh, hr⟩
    refine ⟨g, cap, cur, hv, by omega, ?_, hr⟩
    rw [Below.heap_setCell _ ⟨R, 1, none⟩ _ _ (by show g ≠ R; omega)]
    exact hh
  · refine ⟨hb4.os.trans (hg.os.trans (hb2.os.trans hs.os)), hb4.tape.trans (hg.tape.trans (hb2.tape.trans hs.tape)), hb4.output.trans (hg.output.trans (hb2.output.trans hs.output)), ?_, fun k hk hn => ?_⟩
    · have : w.heap.size ≤ w4.heap.size := by omega
      simpa [World.setCell] using this
    · rw [Below.heap_setCell _ ⟨R, 1, none⟩ _ _ hn, hkeep k (by omega) (fun e => by have := (World.ownsRow.lt ho k e).1; omega)]
      exact hs.block k hk hn
  · intro k hk
    have := (hv' k hk).1
    exact .inr (by omega)
  · intro k hk hk'
    have h1 := (hv' k hk').1
    have h2 := (hout' k hk).2
    omega

set_option maxRecDepth 100000 in
set_option maxHeartbeats 2000000 in
theorem radvance_any (B R : Nat) (now : Int) (v : Value) (L : List (Int × Int)) (to : Int) (w : World) (h : rwAt w B R now v L) (hB : B ≤ w.heap.size) (hl : L.length * 16 + 16 ≤ 140737488351232) :
    Calls Tryz.prog 120 #[.pointer (some ⟨R, 0, none⟩), .int .i64 to] w fun e w' => ∃ out, e = .returned (.tuple #[out, .int .i64 (advE now to)]) ∧ advAns w w' B R v (advT now to) out (advO now to L) (advL now to L) := by
  obtain ⟨i0, hi, hz0, hz1, hz2⟩ := info_parts Tryz.infoDue
  have HR : Hid (rwAt w B R now v L) := h
  obtain ⟨k0, k1⟩ := rw_cells h.1
  have kf := row_free h.1 0
  have hRw : R < w.heap.size := (Array.getElem?_eq_some_iff.1 h.1).1
  by_cases ht : to < now
  · have HE : Hid (advE now to = 3 ∧ advO now to L = [] ∧ advL now to L = L ∧ advT now to = now) := by simp [Hid, advE, advO, advL, advT, ht]
    clear h
    go_enter Tryz.func120, Tryz.ntmps120
    go_wp2
    go_ret2
    obtain ⟨e1, e2, e3, e4⟩ := HE.out
    rw [e1, e2, e3, e4]
    exact ⟨.slice none 0 0, rfl, World.ownsRow_nil _ _ _ _, v, HR.out, ⟨rfl, rfl, rfl, Nat.le_refl _, fun _ _ _ => rfl⟩, fun _ hk => .inl hk, fun k hk => by simp [Value.ownBlock] at hk⟩
  · have HE : Hid (advE now to = 0 ∧ advO now to L = (adv to L).1 ∧ advL now to L = (adv to L).2 ∧ advT now to = to) := by simp [Hid, advE, advO, advL, advT, ht]
    have ht' : decide (to < now) = false := by simpa using ht
    clear h
    go_enter Tryz.func120, Tryz.ntmps120
    go_wp2_with fail
    go_loopw [6] (fun out wr => ∃ o L', Hid (advAns w wr B R v to out o L') ∧ o.length + L'.length = L.length ∧ Hid (o ++ (adv to L').1 = (adv to L).1 ∧ (adv to L').2 = (adv to L).2)) (fun out _ => L.length - lenOf out)
    case atStart =>
      refine ⟨[], L, ⟨World.ownsRow_nil _ _ _ _, v, ⟨?_, ?_⟩, ?_, fun _ hk => .inl hk, fun k hk => by simp [Value.ownBlock] at hk⟩, by simp, by simp, rfl⟩
      · rw [Joins.block_setCell HR.out.1]; rfl
      · refine ⟨HR.out.2.1, HR.out.2.2.imp id ?_⟩
        rintro ⟨g, cap, cur, hv, hg, hh, hr⟩
        refine ⟨g, cap, cur, hv, hg, ?_, hr⟩
        rw [Below.heap_setCell _ ⟨R, 0, none⟩ _ _ (fun e => rw_ne HR.out (by rw [hv]; simp [Value.ownBlock]; exact e))]
        exact hh
      · refine ⟨rfl, rfl, rfl, by simp [World.setCell], fun k hk hn => ?_⟩
        rw [Below.heap_setCell _ ⟨R, 0, none⟩ _ _ hn]
    case round =>
      obtain ⟨o, L', hA, hlen, hsp⟩ := hrel
      obtain ⟨ho, v1, hr, hs, hv, hd⟩ := hA.out
      obtain ⟨q0, q1⟩ := rw_cells hr.1
      have hRr : R < wr.heap.size := (Array.getElem?_eq_some_iff.1 hr.1).1
      have HX : Hid (Calls Tryz.prog 118 #[.pointer (some ⟨R, 0, none⟩)] wr fun e w' => e = .returned (.int .i64 (leastTo L' L'.length)) ∧ Below wr.heap.size wr w') := rleast_any R v1 L' wr q1 (duesAt_of hr.2) (by omega)
      have hlb := leastTo_lt L' L'.length
      have HFIN : Hid (∀ w2, Below wr.heap.size wr w2 → adv to L' = ([], L') → advAns w w2 B R v (advT now to) u6 (advO now to L) (advL now to L)) := by
        intro w2 b2 he
        obtain ⟨e1, e2, e3, e4⟩ := HE.out
        rw [e2, e3, e4, ← hsp.out.1, ← hsp.out.2, he]
        simp only [List.append_nil]
        exact ⟨ownsRow_below ho b2 (Nat.le_refl _), v1, ⟨(b2.block R hRr).trans hr.1, ownsRow_below hr.2 b2 (Nat.le_refl _)⟩, ⟨b2.os.trans hs.os, b2.tape.trans hs.tape, b2.output.trans hs.output, Nat.le_trans hs.size b2.size, fun k hk hn => (b2.block k (Nat.lt_of_lt_of_le hk hs.size)).trans (hs.block k hk hn)⟩, hv, hd⟩
      obtain ⟨oa, oc, rfl⟩ := own_slice ho
      by_cases hx : leastTo L' L'.length < 0
      · have HST : Hid (adv to L' = ([], L')) := adv_stop (.inl hx)
        generalize leastTo L' L'.length = x at HX hx
        clear ho hr hs hv hd hlb
        go_wp2_with (go_at_call 118; refine HX.out.mono ?_; rintro e w2 ⟨rfl, b2⟩)
        go_wp2
        go_ret2
        exact ⟨_, by rw [HE.out.1]; rfl, HFIN.out _ b2 HST.out⟩
      · obtain ⟨q, hq⟩ := Int.eq_ofNat_of_zero_le (show 0 ≤ leastTo L' L'.length by omega)
        have hql : q < L'.length := by omega
        have HQ : Hid (leastTo L' L'.length = q) := hq
        obtain ⟨a, c, rfl, hc⟩ := duesAt_of hr.2
        obtain ⟨g, rfl, hgw, hcell⟩ := hc (by omega)
        obtain ⟨d0, d1⟩ := hcell q hql
        have hqi : (q : Int) < (L'.length : Int) := by omega
        have hqn : decide ((q : Int) < 0) = false := by simp
        have HGO : Hid ((L'.getD q (0, 0)).1 ≤ to → adv to L' = (L'.getD q (0, 0) :: (adv to (L'.eraseIdx q)).1, (adv to (L'.eraseIdx q)).2)) := fun h => adv_go hq hql h
        have HST : Hid (to < (L'.getD q (0, 0)).1 → adv to L' = ([], L')) := fun h => adv_stop (.inr (by rw [hq, Int.toNat_natCast]; exact h))
        rw [hq] at HX
        generalize L'.getD q (0, 0) = p at d0 d1 HGO HST
        obtain ⟨p0, p1⟩ := p
        simp only at d0 d1 HGO HST
        have HRR : Hid (rwAt wr B R to (.slice (some ⟨g, 0, none⟩) L'.length c) L') := hr
        have HO : Hid (wr.ownsRow w.heap.size 131 2 (.slice oa o.length oc) o.length (flatT o)) := ho
        have HD : Hid (∀ k, Value.ownBlock (.slice oa o.length oc) = some k → Value.ownBlock (.slice (some ⟨g, 0, none⟩) L'.length c) ≠ some k) := hd
        have hsz := hs.size
        clear ho hr hs hv hd hlb hc hcell hx hq
        by_cases hto : to < p0
        · go_wp2_with (go_at_call 118; refine HX.out.mono ?_; rintro e w2 ⟨rfl, b2⟩
                       have e1 := (b2.cell (p := ⟨R, 1, none⟩) hRr).trans q1
                       have e2 := (b2.cell (p := ⟨g, q * 2, none⟩) hgw).trans d0)
          go_wp2
          go_ret2
          exact ⟨_, by rw [HE.out.1]; rfl, HFIN.out _ b2 (HST.out hto)⟩
        · have hto' : decide (to < p0) = false := by simpa using hto
          go_wp2_with (first | (go_at_call 118; refine HX.out.mono ?_; rintro e w2 ⟨rfl, b2⟩
                                have e1 := (b2.cell (p := ⟨R, 1, none⟩) hRr).trans q1
                                have e2 := (b2.cell (p := ⟨g, q * 2, none⟩) hgw).trans d0
                                have e3 := (b2.cell (p := ⟨g, q * 2 + 1, none⟩) hgw).trans d1)
                             | (at_builtin; refine wpList_append_own_at _ rfl _ _ 129 rfl w.heap.size 131 i0 (.agg #[.int .i64 0, .int .i64 0]) 2 16 Tryz.underlying129 hi hz0 hz1 hz2 rfl (by decide) _ _ _ rfl ((ownsRow_below HO.out b2 (Nat.le_refl _)).alloc _) ⟨w2.heap.size, 0, none⟩ 1 1 [.int .i64 p0, .int .i64 p1] rfl rfl ?c1 ?c2 ?c3 ?c4 ?c5 ?_))
          case c1 => exact two_new
          case c2 => intro u hu; simp at hu; rcases hu with rfl | rfl <;> rfl
          case c3 => unfold maxLen; omega
          case c4 => omega
          case c5 => have := b2.size; simp; omega
          intro out' w3 hown3 hgrow _ hat
          have hk3 : ∀ k, k < wr.heap.size → Value.ownBlock (.slice oa o.length oc) ≠ some k → w3.heap[k]? = wr.heap[k]? := fun k hk hn => (hgrow.block k (by have := b2.size; simp; omega) (fun e => hn e.symm)).trans ((Below.heap_alloc w2 _ k (by have := b2.size; omega)).trans (b2.block k hk))
          have hRo : Value.ownBlock (.slice oa o.length oc) ≠ some R := own_ne HO.out HRR.out.1
          have hr3 : rwAt w3 B R to (.slice (some ⟨g, 0, none⟩) L'.length c) L' := by
            refine ⟨(hk3 R hRr hRo).trans HRR.out.1, HRR.out.2.1, HRR.out.2.2.imp id ?_⟩
            rintro ⟨g', cap, cur, hv, hg, hh, hr⟩
            refine ⟨g', cap, cur, hv, hg, ?_, hr⟩
            rw [hk3 g' (Array.getElem?_eq_some_iff.1 hh).1 (fun e => HD.out g' e (by rw [hv]; rfl))]
            exact hh
          have f1 := (rw_cells hr3.1).2
          have hR3 : R < w3.heap.size := (Array.getElem?_eq_some_iff.1 hr3.1).1
          have HW : Hid (Calls Tryz.prog 116 #[.pointer (some ⟨R, 0, none⟩), .int .i64 q] w3 fun e w' => ∃ v', e = .returned v' ∧ w'.ownsRow w3.heap.size 131 2 v' (L'.eraseIdx q).length (flatT (L'.eraseIdx q)) ∧ Below w3.heap.size w3 w') := rwithout_any R _ L' q w3 f1 (duesAt_of hr3.2) (by omega)
          have HR3 : Hid (w3.heap[R]? = some (.cells #[.int .i64 to, .slice (some ⟨g, 0, none⟩) L'.length c] 151 (0, 0))) := hr3.1
          have HA : Hid (∀ v' w4, w4.ownsRow w3.heap.size 131 2 v' (L'.eraseIdx q).length (flatT (L'.eraseIdx q)) → Below w3.heap.size w3 w4 → advAns w (w4.setCell ⟨R, 1, none⟩ v') B R v to out' (o ++ [(p0, p1)]) (L'.eraseIdx q)) := fun v' w4 h4 hb4 => adv_round hB hA.out b2 hown3 hgrow (by simpa using hat) h4 hb4
          obtain ⟨oa', oc', rfl⟩ := own_slice hown3
          clear hown3 hgrow hat hk3 hRo hr3 b2 e1 e2 e3
          go_wp2_with (go_at_call 116; refine HW.out.mono ?_; rintro e w4 ⟨v', rfl, ho4, hb4⟩
                       have HA4 := HA.out v' w4 ho4 hb4
                       obtain ⟨va, vc, rfl⟩ := own_slice ho4
                       have hR4 : w4.heap[R]? = some (.cells #[.int .i64 to, .slice (some ⟨g, 0, none⟩) L'.length c] 151 (0, 0)) := (hb4.block R hR3).trans HR3.out
                       have g1 := (rw_cells hR4).2
                       have gf := row_free hR4 1
                       have HA5 : Hid (advAns w (w4.setCell ⟨R, 1, none⟩ (.slice va (L'.eraseIdx q).length vc)) B R v to (.slice oa' (o.length + 1) oc') (o ++ [(p0, p1)]) (L'.eraseIdx q)) := HA4
                       clear HA4 hR4 ho4 hb4)
          have hle : (L'.eraseIdx q).length = L'.length - 1 := List.length_eraseIdx_of_lt hql
          go_roundw
          case rel =>
            refine ⟨o ++ [(p0, p1)], L'.eraseIdx q, HA5, by simp; omega, ?_⟩
            have hg := HGO.out hto
            have h1 := hsp.out
            rw [hg] at h1
            simp only at h1
            exact ⟨by rw [← h1.1]; simp, h1.2⟩
          case measure => simp [lenOf]; omega

end Go.Proofs.YtfhncfghblkgeaaGreat
