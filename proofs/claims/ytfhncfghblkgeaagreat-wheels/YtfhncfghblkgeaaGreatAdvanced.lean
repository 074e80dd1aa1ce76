/-
  The walk: advanced, whatever the program's timers are.
-/
import Derived.Test.YtfhncfghblkgeaaGreatAdvanced0
import Derived.Test.YtfhncfghblkgeaaGreatWBase
namespace Go.Proofs.YtfhncfghblkgeaaGreat
open Go.RowKit

theorem Tryz.infoDues : (Tryz.prog.info? 129).map (fun i => (i.zero, i.size, i.bytes)) = some (some (.slice none 0 0), 1, 24) := by kernel_rfl

theorem drop_two {l : List Value} {j : Nat} (h : j * 2 + 1 < l.length) : ∃ y0 y1, l.drop (j * 2) = y0 :: y1 :: l.drop ((j + 1) * 2) := by
  refine ⟨l[j * 2], l[j * 2 + 1], ?_⟩
  rw [List.drop_eq_getElem_cons (by omega), List.drop_eq_getElem_cons (by omega), show (j + 1) * 2 = j * 2 + 1 + 1 by omega]

set_option maxRecDepth 100000 in
set_option maxHeartbeats 2000000 in
theorem advanced_any {PW : World → Nat → (Nat → Prop) → Int → List (Int × Int) → Prop} (T : Timers PW) (P B R x : Nat) (own : Nat → Prop) (c0 c1 c2 c3 vd v : Value) (Ld : List Value) (now to : Int) (L : List (Int × Int)) (w : World)
    (hw : w.heap[P]? = some (.cells #[c0, c1, c2, c3, vd] 67 (0, 0))) (hd : w.ownsRow (P + 1) 129 1 vd Ld.length Ld) (hp : PW w x own now L) (hr : rwAt w B R now v L) (hB : B ≤ w.heap.size) (hl : L.length * 16 + 16 ≤ 140737488351232) (hld : Ld.length * 64 ≤ 140737488351232)
    (n1 : ¬ own P) (n2 : ∀ k, vd.ownBlock = some k → ¬ own k) (n3 : ¬ own R) (n4 : ∀ k, v.ownBlock = some k → ¬ own k) :
    Calls Tryz.prog 82 #[.pointer (some ⟨P, 0, none⟩), .agg #[.pointer (some ⟨x, 0, none⟩), .pointer (some ⟨R, 0, none⟩)], .int .i64 to] w fun e w' => e = .returned (.bool true) ∧ advdAns PW w w' P B R x own c0 c1 c2 c3 vd v Ld (advT now to) (advL now to L) := by
  have hP : P < w.heap.size := (Array.getElem?_eq_some_iff.1 hw).1
  have hR : R < w.heap.size := (Array.getElem?_eq_some_iff.1 hr.1).1
  have HIN : Hid (w.heap[P]? = some (.cells #[c0, c1, c2, c3, vd] 67 (0, 0)) ∧ w.ownsRow (P + 1) 129 1 vd Ld.length Ld ∧ PW w x own now L ∧ rwAt w B R now v L ∧ ¬ own P ∧ (∀ k, vd.ownBlock = some k → ¬ own k) ∧ ¬ own R ∧ (∀ k, v.ownBlock = some k → ¬ own k)) := ⟨hw, hd, hp, hr, n1, n2, n3, n4⟩
  clear hw hd hp hr n1 n2 n3 n4
  go_enter Tryz.func82, Tryz.ntmps82
  go_wp2_with fail
  obtain ⟨hw, hd, hp, hr, n1, n2, n3, n4⟩ := HIN.out
  refine (T.advance to (T.keep hp (by simp) (fun k hk => Below.heap_alloc w _ k (T.lt hp k hk))) hl).mono ?_
  rintro e w1 ⟨out1, own1, rfl, ho1, hnil, hp1, hs1, hf1, hd1⟩
  have z1 : w.heap.size + 1 ≤ w1.heap.size := by have := hs1.size; simpa using this
  have t1 : w1.cell? ⟨w.heap.size, 1, none⟩ = some (.pointer (some ⟨R, 0, none⟩)) := (hs1.cell (by simp) (fun h => by have := T.lt hp _ h; omega)).trans (by simp [go_sem])
  have hr1 : rwAt w1 B R now v L := ⟨(hs1.block R (by simp; omega) n3).trans ((Below.heap_alloc w _ R hR).trans hr.1), owns_keep hr.2 (fun k hk => (hs1.block k (by have := (World.ownsRow.lt hr.2 k hk).2; simp; omega) (n4 k hk)).trans (Below.heap_alloc w _ k (World.ownsRow.lt hr.2 k hk).2))⟩
  have HB : Hid (∀ w2 out2, advAns w1 w2 B R v (advT now to) out2 (advO now to L) (advL now to L) → ∃ v', Both PW w w2 P B R x own c0 c1 c2 c3 vd v Ld (advT now to) (advL now to L) (advO now to L) out1 out2 own1 v') := fun w2 out2 hA => both T hw hd hr n1 n2 n3 n4 (by simpa using ho1) hp1 hs1 (by simpa using hf1) hd1 hA
  have HN : Hid (advE now to ≠ 0 → out1 = .slice none 0 0) := hnil
  have HRA : Hid (Calls Tryz.prog 120 #[.pointer (some ⟨R, 0, none⟩), .int .i64 to] w1 fun e w' => ∃ out, e = .returned (.tuple #[out, .int .i64 (advE now to)]) ∧ advAns w1 w' B R v (advT now to) out (advO now to L) (advL now to L)) := radvance_any B R now v L to w1 hr1 (by omega) hl
  clear hw hd hp hr n1 n2 n3 n4 ho1 hnil hp1 hs1 hf1 hd1 hr1
  go_wp2_with fail
  refine HRA.out.mono ?_
  rintro e w2 ⟨out2, rfl, hA⟩
  obtain ⟨v', hb⟩ := HB.out w2 out2 hA
  have HBO : Hid (Both PW w w2 P B R x own c0 c1 c2 c3 vd v Ld (advT now to) (advL now to L) (advO now to L) out1 out2 own1 v') := hb
  clear HB HRA hA hb t1
  generalize advO now to L = o at HBO
  generalize advE now to = er at HN
  obtain ⟨a1, m1, rfl⟩ := own_slice HBO.out.l1
  obtain ⟨a2, m2, rfl⟩ := own_slice HBO.out.l2
  have hP2 := HBO.out.world
  obtain ⟨_, _, _, _, p4⟩ := world_cells hP2
  have pf := row_free hP2 4
  have hown2 := HBO.out.dues
  obtain ⟨va, vc, rfl⟩ := own_slice hown2
  have hP2w : P < w2.heap.size := (Array.getElem?_eq_some_iff.1 hP2).1
  have N1 : Hid (¬ own P) := HIN.out.2.2.2.2.1
  have N2 : Hid (∀ k, Value.ownBlock (.slice va Ld.length vc) = some k → k < w.heap.size ∧ ¬ own k) := fun k hk => ⟨(World.ownsRow.lt HIN.out.2.1 k hk).2, HIN.out.2.2.2.2.2.1 k hk⟩
  have i1 := info_parts Tryz.infoDues
  obtain ⟨i0, hi, hz0, hz1, hz2⟩ := i1
  clear hP2
  rcases HBO.out.l1.2 with ⟨hv1, h0⟩ | ⟨g, m, cur, hv1, hg, hh, hom, hmm, hcs, hct⟩
  · simp at hv1
    obtain ⟨rfl, rfl, rfl⟩ := hv1
    have hq : ∀ w', (binOp .eql 129 (.slice none 0 0) (.slice none 0 0)).run Tryz.prog w' = .ok (.bool true) w' := fun w' => Lib.run_eql_slice_nil w' 129 131 none 0 0 0 0 Tryz.underlying129
    simp only [List.length_nil]
    go_wp2_with fail
    go_loopw [11, 12] (fun ok i wr => ok = .bool true ∧ i = .int .i64 0 ∧ wr = w2) (fun _ _ _ => 0)
    case atStart => exact ⟨rfl, rfl, rfl⟩
    case round =>
      obtain ⟨rfl, rfl, rfl⟩ := hrel
      go_wp2_with fail
      go_loopw [14] (fun i w2 => i = .int .i64 0 ∧ w2 = wr) (fun _ _ => 0)
      case atStart => exact ⟨rfl, rfl⟩
      case round =>
        obtain ⟨rfl, rfl⟩ := hrel
        go_wp2_with (at_builtin; refine wpList_append_own_at _ rfl _ _ 65 rfl (P + 1) 129 i0 (.slice none 0 0) 1 24 Tryz.underlying65 hi hz0 hz1 hz2 rfl (by decide) _ _ _ rfl (hown2.alloc _) ⟨wr.heap.size, 0, none⟩ 1 1 [.slice none 0 0] rfl rfl ?c1 ?c2 ?c3 ?c4 ?c5 ?_)
        case c1 => exact cell_one_new _ _ _
        case c2 => intro u hu; simp at hu; subst hu; rfl
        case c3 => unfold maxLen; omega
        case c4 => omega
        case c5 => simp; omega
        intro vd' w3 hown3 hgrow _ hat
        have hPn : some P ≠ Value.ownBlock (.slice va Ld.length vc) := fun e => by have := (World.ownsRow.lt hown2 P e.symm).1; omega
        have hP3 : w3.heap[P]? = some (.cells #[c0, c1, c2, c3, .slice va Ld.length vc] 67 (0, 0)) := (hgrow.block P (by simp; omega) hPn).trans ((Below.heap_alloc _ _ _ (by omega)).trans HBO.out.world)
        obtain ⟨_, _, _, _, p4'⟩ := world_cells hP3
        have pf' := row_free hP3 4
        have HA : Hid (advdAns PW w (w3.setCell ⟨P, 4, none⟩ vd') P B R x own c0 c1 c2 c3 (.slice va Ld.length vc) v Ld (advT now to) (advL now to L)) := advd_end T HBO.out hP N1.out N2.out (World.grownBy.refl _ _) (.inl rfl) rfl hown3 hgrow (by simpa using hat)
        obtain ⟨g3, cap3, rfl⟩ : ∃ g3 cap3, vd' = .slice (some ⟨g3, 0, none⟩) (Ld.length + 1) cap3 := by
          rcases hown3.2 with ⟨_, h0⟩ | ⟨g, cap, cur, hv, _⟩
          · omega
          · exact ⟨_, _, hv⟩
        clear hown3 hgrow hP3 hat
        go_wp2
        go_ret
        exact ⟨rfl, HA.out⟩
  · simp at hv1
    obtain ⟨rfl, rfl⟩ := hv1
    have he : er = 0 := by
      by_cases he : er = 0
      · exact he
      · have := HN.out he
        simp at this
    subst he
    have hq : ∀ w', (binOp .eql 129 (.slice (some ⟨g, 0, none⟩) o.length m1) (.slice none 0 0)).run Tryz.prog w' = .ok (.bool false) w' := fun w' => Lib.run_eql_slice_nil w' 129 131 (some ⟨g, 0, none⟩) o.length m1 0 0 Tryz.underlying129
    have hgw2 : g < w2.heap.size := (Array.getElem?_eq_some_iff.1 hh).1
    have hmm' : m1 ≤ 9223372036854775807 := by unfold maxLen at hmm; omega
    obtain ⟨a1', c1', hv1', hc1⟩ := duesAt_of HBO.out.l1
    obtain ⟨a2', c2', hv2', hc2⟩ := duesAt_of HBO.out.l2
    simp at hv1' hv2'
    obtain ⟨rfl, rfl⟩ := hv1'
    obtain ⟨rfl, rfl⟩ := hv2'
    have HC1 : Hid (0 < o.length → ∃ g', some (⟨g, 0, none⟩ : Addr) = some ⟨g', 0, none⟩ ∧ g' < w2.heap.size ∧ ∀ i, i < o.length → w2.cell? ⟨g', i * 2, none⟩ = some (.int .i64 (o.getD i (0, 0)).1) ∧ w2.cell? ⟨g', i * 2 + 1, none⟩ = some (.int .i64 (o.getD i (0, 0)).2)) := hc1
    have HC2 : Hid (0 < o.length → ∃ g', a2 = some ⟨g', 0, none⟩ ∧ g' < w2.heap.size ∧ ∀ i, i < o.length → w2.cell? ⟨g', i * 2, none⟩ = some (.int .i64 (o.getD i (0, 0)).1) ∧ w2.cell? ⟨g', i * 2 + 1, none⟩ = some (.int .i64 (o.getD i (0, 0)).2)) := hc2
    have HH : Hid (w2.heap[g]? = some (.cells cur 131 (0, 0))) := hh
    have HX : Hid (m1 ≤ maxLen ∧ cur.size = m1 * 2) := ⟨hmm, hcs⟩
    have HO2 : Hid (w2.ownsRow (P + 1) 129 1 (.slice va Ld.length vc) Ld.length Ld) := hown2
    have hpg : P < g := by omega
    have hol : (o.length : Int) ≤ 9223372036854775807 := by omega
    clear hc1 hc2 hh hct hcs hmm hown2
    go_wp2_with fail
    go_loopw [11, 12] (fun ok i wr => ∃ j : Nat, j ≤ o.length ∧ ok = .bool true ∧ i = .int .i64 j ∧ Below w2.heap.size w2 wr) (fun _ i _ => o.length - (intOf i).toNat)
    case atStart => exact ⟨0, Nat.zero_le _, rfl, rfl, Below.refl _ _⟩
    case round =>
      obtain ⟨j, hj, rfl, rfl, hbel⟩ := hrel
      by_cases hlt : j < o.length
      · obtain ⟨g1, hg1, _, hcell1⟩ := HC1.out (by omega)
        simp at hg1
        subst hg1
        obtain ⟨g2, rfl, hg2w, hcell2⟩ := HC2.out (by omega)
        have e0 := (hbel.cell (p := ⟨g, j * 2, none⟩) hgw2).trans (hcell1 j hlt).1
        have e1 := (hbel.cell (p := ⟨g, j * 2 + 1, none⟩) hgw2).trans (hcell1 j hlt).2
        have f0 := (hbel.cell (p := ⟨g2, j * 2, none⟩) hg2w).trans (hcell2 j hlt).1
        have f1 := (hbel.cell (p := ⟨g2, j * 2 + 1, none⟩) hg2w).trans (hcell2 j hlt).2
        generalize o.getD j (0, 0) = p at e0 e1 f0 f1
        obtain ⟨p0, p1⟩ := p
        simp only at e0 e1 f0 f1
        clear hcell1 hcell2 p4 pf
        go_wp2
        go_quiet (fail)
        go_wp2
        go_roundw
        case rel => exact ⟨j + 1, by omega, by simp, by go_num, below_drewN hbel⟩
        case measure => simp [intOf]; omega
      · have hje : j = o.length := by omega
        subst hje
        have HM0 : Hid (wr.heap[g]? = some (.cells cur 131 (0, 0))) := (hbel.block g hgw2).trans HH.out
        have HMK : Hid (∀ w' : World, Calls Tryz.prog 53 #[.int .i64 Ld.length] w' fun e w3 => e = .returned (.agg #[.int .i64 (mkD Ld.length), .int .i64 (mkD Ld.length)]) ∧ Below w'.heap.size w' w3) := fun w' => markDue_any Ld.length w' (by omega)
        have HG0 : Hid (w2.grownBy wr (some g)) := ⟨hbel.os, hbel.tape, hbel.output, hbel.size, fun k hk _ => hbel.block k hk⟩
        clear hbel p4 pf
        go_wp2_with fail
        go_loopw [14] (fun i wr => ∃ j : Nat, j ≤ m1 ∧ i = .int .i64 j ∧ Hid (wr.heap[g]? = some (.cells (flatT (List.replicate j (mkD Ld.length, mkD Ld.length)) ++ cur.toList.drop (j * 2)).toArray 131 (0, 0))) ∧ w2.grownBy wr (some g)) (fun i _ => m1 - (intOf i).toNat)
        case atStart => exact ⟨0, Nat.zero_le _, rfl, by simpa [Hid, flatT] using HM0.out, HG0.out⟩
        case round =>
          obtain ⟨j, hj, rfl, hrow, hgr⟩ := hrel
          have hPr : wr.heap[P]? = some (.cells #[c0, c1, c2, c3, .slice va Ld.length vc] 67 (0, 0)) := (hgr.block P hP2w (by simp; omega)).trans HBO.out.world
          obtain ⟨_, _, _, _, p4⟩ := world_cells hPr
          have hgwr : g < wr.heap.size := (Array.getElem?_eq_some_iff.1 hrow.out).1
          by_cases hlt : j < m1
          · have hA : (flatT (List.replicate j (mkD Ld.length, mkD Ld.length))).length = j * 2 := by rw [flatT_len]; simp
            obtain ⟨y0, y1, hz⟩ : ∃ y0 y1, cur.toList.drop (j * 2) = y0 :: y1 :: cur.toList.drop ((j + 1) * 2) := drop_two (by have := HX.out.2; simp; omega)
            rw [hz] at hrow
            have d0 : wr.cell? ⟨g, j * 2, none⟩ = some y0 := row_cell hrow.out hA
            have d1 : wr.cell? ⟨g, j * 2 + 1, none⟩ = some y1 := row_cell (A := flatT (List.replicate j (mkD Ld.length, mkD Ld.length)) ++ [y0]) (by rw [hrow.out, List.append_assoc]; rfl) (by simp [hA])
            have HR : Hid (∀ (w4 : World) (v0 v1 : Value), w4.heap[g]? = wr.heap[g]? → ((w4.setCell ⟨g, j * 2, none⟩ v0).setCell ⟨g, j * 2 + 1, none⟩ v1).heap[g]? = some (.cells (flatT (List.replicate j (mkD Ld.length, mkD Ld.length)) ++ v0 :: v1 :: cur.toList.drop ((j + 1) * 2)).toArray 131 (0, 0))) := fun w4 v0 v1 e => row_store2 (e.trans hrow.out) hA v0 v1
            have HROW : Hid (wr.heap[g]? = some (.cells (flatT (List.replicate j (mkD Ld.length, mkD Ld.length)) ++ y0 :: y1 :: cur.toList.drop ((j + 1) * 2)).toArray 131 (0, 0))) := hrow
            clear hrow hA hPr hz
            go_wp2_with (go_at_call 53; refine (HMK.out _).mono ?_; rintro e w4 ⟨rfl, b4⟩
                         have q0 := (b4.cell (p := ⟨g, j * 2, none⟩) hgwr).trans d0
                         have q1 := (b4.cell (p := ⟨g, j * 2 + 1, none⟩) hgwr).trans d1
                         have qf := row_free ((b4.block g hgwr).trans HROW.out)
                         have hb4 : Hid (w4.heap[g]? = wr.heap[g]?) := b4.block g hgwr)
            go_roundw
            case rel =>
              refine ⟨j + 1, by omega, by go_num, ?_, grownBy_setCell (grownBy_setCell (grownBy_trans hgr ⟨b4.os, b4.tape, b4.output, b4.size, fun k hk _ => b4.block k hk⟩))⟩
              have e : flatT (List.replicate (j + 1) (mkD Ld.length, mkD Ld.length)) ++ cur.toList.drop ((j + 1) * 2) = flatT (List.replicate j (mkD Ld.length, mkD Ld.length)) ++ .int .i64 (mkD Ld.length) :: .int .i64 (mkD Ld.length) :: cur.toList.drop ((j + 1) * 2) := by
                rw [List.replicate_succ', flatT_snoc, List.append_assoc]; rfl
              unfold Hid
              rw [e]
              exact HR.out _ _ _ hb4.out
            case measure => simp [intOf]; omega
          · have hje : j = m1 := by omega
            subst hje
            have hfin : Hid (wr.heap[g]? = some (.cells (flatT (List.replicate j (mkD Ld.length, mkD Ld.length))).toArray 131 (0, 0))) := by
              have := hrow.out
              rw [List.drop_eq_nil_of_le (by simp [HX.out.2]), List.append_nil] at this
              exact this
            have hgd : Value.ownBlock (.slice va Ld.length vc) ≠ some g := fun e => by
              have h1 := (N2.out g e).1
              omega
            have hownr : wr.ownsRow (P + 1) 129 1 (.slice va Ld.length vc) Ld.length Ld := HO2.out.kept hgr (.inr hgd)
            have pf := row_free hPr 4
            have hPwr : P < wr.heap.size := (Array.getElem?_eq_some_iff.1 hPr).1
            have HPR : Hid (wr.heap[P]? = some (.cells #[c0, c1, c2, c3, .slice va Ld.length vc] 67 (0, 0))) := hPr
            clear hrow hPr
            go_wp2_with (at_builtin; refine wpList_append_own_at _ rfl _ _ 65 rfl (P + 1) 129 i0 (.slice none 0 0) 1 24 Tryz.underlying65 hi hz0 hz1 hz2 rfl (by decide) _ _ _ rfl (hownr.alloc _) ⟨wr.heap.size, 0, none⟩ 1 1 [.slice (some ⟨g, 0, none⟩) j j] rfl rfl ?c1 ?c2 ?c3 ?c4 ?c5 ?_)
            case c1 => exact cell_one_new _ _ _
            case c2 => intro u hu; simp at hu; subst hu; rfl
            case c3 => unfold maxLen; omega
            case c4 => omega
            case c5 => simp; omega
            intro vd' w3 hown3 hgrow _ hat
            have hPn : some P ≠ Value.ownBlock (.slice va Ld.length vc) := fun e => by have := (World.ownsRow.lt hownr P e.symm).1; omega
            have hP3 : w3.heap[P]? = some (.cells #[c0, c1, c2, c3, .slice va Ld.length vc] 67 (0, 0)) := (hgrow.block P (by simp; omega) hPn).trans ((Below.heap_alloc _ _ _ (by omega)).trans HPR.out)
            obtain ⟨_, _, _, _, p4'⟩ := world_cells hP3
            have pf' := row_free hP3 4
            have HA : Hid (advdAns PW w (w3.setCell ⟨P, 4, none⟩ vd') P B R x own c0 c1 c2 c3 (.slice va Ld.length vc) v Ld (advT now to) (advL now to L)) := advd_end T HBO.out hP N1.out N2.out hgr (.inr ⟨g, j, rfl, HX.out.1, hpg, hfin.out⟩) rfl hown3 hgrow (by simpa using hat)
            obtain ⟨g3, cap3, rfl⟩ : ∃ g3 cap3, vd' = .slice (some ⟨g3, 0, none⟩) (Ld.length + 1) cap3 := by
              rcases hown3.2 with ⟨_, h0⟩ | ⟨g, cap, cur, hv, _⟩
              · omega
              · exact ⟨_, _, hv⟩
            clear hown3 hgrow hP3 hat
            go_wp2
            go_ret
            exact ⟨rfl, HA.out⟩

end Go.Proofs.YtfhncfghblkgeaaGreat
