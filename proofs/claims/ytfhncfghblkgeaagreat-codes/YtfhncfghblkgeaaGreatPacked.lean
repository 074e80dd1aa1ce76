/-
  The walk: packed.
-/
import Derived.Test.YtfhncfghblkgeaaGreatMarks
import Derived.Test.YtfhncfghblkgeaaGreatRUnp0
namespace Go.Proofs.YtfhncfghblkgeaaGreat
open Go.RowKit

theorem Tryz.infoBytes : (Tryz.prog.info? 92).map (fun i => (i.zero, i.size, i.bytes)) = some (some (.slice none 0 0), 1, 24) := by kernel_rfl

/-- What packed leaves: one list more, marked. -/
def packedAns (w w' : World) (P : Nat) (c0 c1 c2 vb c4 : Value) (L : List Value) : Prop :=
  ∃ v vb', w'.heap[P]? = some (.cells #[c0, c1, c2, vb', c4] 67 (0, 0)) ∧ w'.ownsRow (P + 1) 92 1 vb' (L ++ [v]).length (L ++ [v]) ∧ marked w' P L.length v ∧ Same (fun b => b = P ∨ vb.ownBlock = some b) w w'

/-- The last steps of packed: the list is appended, and stored. -/
theorem packed_end {w wr w3 : World} {P : Nat} {c0 c1 c2 vb vb' c4 v : Value} {L : List Value} {O : Obj} (hP : P < w.heap.size) (hsz : w.heap.size ≤ wr.heap.size) (hos : wr.os = w.os ∧ wr.tape = w.tape ∧ wr.output = w.output) (hkeep : ∀ k, k < w.heap.size → wr.heap[k]? = w.heap[k]?)
    (hw : w.heap[P]? = some (.cells #[c0, c1, c2, vb, c4] 67 (0, 0))) (hown : wr.ownsRow (P + 1) 92 1 vb L.length L) (hown3 : w3.ownsRow (P + 1) 92 1 vb' (L.length + 1) (L ++ [v])) (hg : (wr.alloc O).grownBy w3 vb.ownBlock) (hm : marked wr P L.length v) :
    packedAns w (w3.setCell ⟨P, 3, none⟩ vb') P c0 c1 c2 vb c4 L := by
  have hvb := World.ownsRow.lt hown
  have hkeep3 : ∀ k, k < wr.heap.size → vb.ownBlock ≠ some k → w3.heap[k]? = wr.heap[k]? := fun k hk hn => (hg.block k (by simp; omega) (fun e => hn e.symm)).trans (Below.heap_alloc wr O k hk)
  have hP3 : w3.heap[P]? = some (.cells #[c0, c1, c2, vb, c4] 67 (0, 0)) := (hkeep3 P (by omega) (fun e => by have := (hvb P e).1; omega)).trans ((hkeep P hP).trans hw)
  refine ⟨v, vb', ?_, ?_, ?_, ?_⟩
  · rw [Joins.block_setCell hP3]; rfl
  · have := ownsRow_setCell_below hown3 (a := ⟨P, 3, none⟩) (Nat.lt_succ_self P) vb'
    simpa using this
  · rcases hm with h | ⟨g, n, h, hn, hPg, hh⟩
    · exact .inl h
    · refine .inr ⟨g, n, h, hn, hPg, ?_⟩
      have hgw : g < wr.heap.size := (Array.getElem?_eq_some_iff.1 hh).1
      rw [Below.heap_setCell _ ⟨P, 3, none⟩ _ _ (by show g ≠ P; omega), hkeep3 g hgw (fun e => ?_)]
      · exact hh
      · rcases hown.2 with ⟨rfl, _⟩ | ⟨g', cap, cur, rfl, _, hh', _⟩
        · simp [Value.ownBlock] at e
        · simp [Value.ownBlock] at e
          subst e
          rw [hh] at hh'
          simp at hh'
  · have hsz3 : w.heap.size ≤ w3.heap.size := by have := hg.size; simp at this; omega
    refine ⟨hg.os.trans hos.1, hg.tape.trans hos.2.1, hg.output.trans hos.2.2, by simpa [World.setCell] using hsz3, fun k hk hn => ?_⟩
    rw [Below.heap_setCell _ ⟨P, 3, none⟩ _ _ (fun e => hn (.inl e)), hkeep3 k (by omega) (fun e => hn (.inr e)), hkeep k hk]

set_option maxRecDepth 100000 in
set_option maxHeartbeats 2000000 in
theorem packed_no (P : Nat) (c0 c1 c2 vb c4 : Value) (L : List Value) (k t c u o : Int) (w : World) (h : isB k t c u o = false) (hw : w.heap[P]? = some (.cells #[c0, c1, c2, vb, c4] 67 (0, 0))) (hown : w.ownsRow (P + 1) 92 1 vb L.length L) (hL : L.length * 64 ≤ 140737488351232) :
    Calls Tryz.prog 45 #[.pointer (some ⟨P, 0, none⟩), .agg #[.int .i64 k, .int .i64 t, .int .i64 c, .int .i64 u, .int .i64 o]] w fun e w' => e = .returned (.bool true) ∧ packedAns w w' P c0 c1 c2 vb c4 L := by
  obtain ⟨i0, hi, hz0, hz1, hz2⟩ := info_parts Tryz.infoBytes
  have HI : Hid (isB k t c u o = false) := h
  have hP : P < w.heap.size := (Array.getElem?_eq_some_iff.1 hw).1
  have HW : Hid (w.heap[P]? = some (.cells #[c0, c1, c2, vb, c4] 67 (0, 0))) := hw
  have HO : Hid (w.ownsRow (P + 1) 92 1 vb L.length L) := hown
  have hq : ∀ w', (binOp .eql 92 (.slice none 0 0) (.slice none 0 0)).run Tryz.prog w' = .ok (.bool true) w' := fun w' => Lib.run_eql_slice_nil w' 92 5 none 0 0 0 0 Tryz.underlying92
  have hcv : ∀ w' : World, (convert 92 9 (.slice none 0 0)).run Tryz.prog w' = .ok (.string ByteArray.empty) w' := fun w' => run_convert_bytes_nil w' 92 5 Tryz.underlying92 Tryz.underlying5 0 0 9 Tryz.underlying9
  clear h hw hown
  go_enter Tryz.func45, Tryz.ntmps45
  go_wp2_with fail
  refine (pack_no k t c u o _ HI.out).mono ?_
  rintro e w1 ⟨rfl, b1⟩
  have s1 : w.heap.size < w1.heap.size := by have := b1.size; simp at this; omega
  have k0 : w1.cell? ⟨w.heap.size, 0, none⟩ = some (.int .i64 k) := (b1.cell (p := ⟨w.heap.size, 0, none⟩) (by simp)).trans (by simp [go_sem])
  have k1 : w1.cell? ⟨w.heap.size, 1, none⟩ = some (.int .i64 t) := (b1.cell (p := ⟨w.heap.size, 1, none⟩) (by simp)).trans (by simp [go_sem])
  have k2 : w1.cell? ⟨w.heap.size, 2, none⟩ = some (.int .i64 c) := (b1.cell (p := ⟨w.heap.size, 2, none⟩) (by simp)).trans (by simp [go_sem])
  have k3 : w1.cell? ⟨w.heap.size, 3, none⟩ = some (.int .i64 u) := (b1.cell (p := ⟨w.heap.size, 3, none⟩) (by simp)).trans (by simp [go_sem])
  have k4 : w1.cell? ⟨w.heap.size, 4, none⟩ = some (.int .i64 o) := (b1.cell (p := ⟨w.heap.size, 4, none⟩) (by simp)).trans (by simp [go_sem])
  go_wp2_with fail
  refine (rpack_no k t c u o _ HI.out).mono ?_
  rintro e w2 ⟨rfl, b2⟩
  have w02 : Below w.heap.size w w2 := (((Below.refl _ _).alloc (Nat.le_refl _) _).trans (b1.mono (by simp))).trans (b2.mono (by omega))
  have hP2 : w2.heap[P]? = some (.cells #[c0, c1, c2, vb, c4] 67 (0, 0)) := (w02.block P hP).trans HW.out
  obtain ⟨_, _, _, p3, _⟩ := world_cells hP2
  have pf := row_free hP2 3
  have hpw2 : P < w2.heap.size := by have := w02.size; omega
  have hown2 := ownsRow_below HO.out w02 (Nat.le_refl _)
  obtain ⟨va, vc, rfl⟩ : ∃ va vc, vb = .slice va L.length vc := by
    rcases HO.out.2 with ⟨rfl, h0⟩ | ⟨g, cap, cur, rfl, _⟩
    · exact ⟨none, 0, by rw [h0]⟩
    · exact ⟨_, _, rfl⟩
  clear b1 b2 k0 k1 k2 k3 k4 hP2
  go_wp2_with fail
  go_loopw [11] (fun i wr => i = .int .i64 0 ∧ wr = w2) (fun _ _ => 0)
  case atStart => exact ⟨rfl, rfl⟩
  case round =>
    obtain ⟨rfl, rfl⟩ := hrel
    go_wp2_with (at_builtin; refine wpList_append_own _ rfl _ _ 64 rfl (P + 1) 92 i0 (.slice none 0 0) 1 24 Tryz.underlying64 hi hz0 hz1 hz2 rfl (by decide) _ _ _ rfl (hown2.alloc _) ⟨wr.heap.size, 0, none⟩ 1 1 [.slice none 0 0] rfl rfl ?c1 ?c2 ?c3 ?c4 ?c5 ?_)
    case c1 => exact cell_one_new _ _ _
    case c2 => intro u hu; simp at hu; subst hu; rfl
    case c3 => unfold maxLen; omega
    case c4 => omega
    case c5 => simp; omega
    intro v' w3 hown3 hgrow _
    obtain ⟨g3, cap3, rfl⟩ : ∃ g3 cap3, v' = .slice (some ⟨g3, 0, none⟩) (L.length + 1) cap3 := by
      rcases hown3.2 with ⟨_, h0⟩ | ⟨g, cap, cur, hv, _⟩
      · omega
      · exact ⟨_, _, hv⟩
    have hPn : some P ≠ Value.ownBlock (.slice va L.length vc) := fun e => by have := (World.ownsRow.lt hown2 P e.symm).1; omega
    have hP3 : w3.heap[P]? = some (.cells #[c0, c1, c2, .slice va L.length vc, c4] 67 (0, 0)) := (hgrow.block P (by simp; omega) hPn).trans ((Below.heap_alloc _ _ _ (by omega)).trans ((w02.block P hP).trans HW.out))
    obtain ⟨_, _, _, p3', _⟩ := world_cells hP3
    have pf' := row_free hP3 3
    have HA : Hid (packedAns w (w3.setCell ⟨P, 3, none⟩ (.slice (some ⟨g3, 0, none⟩) (L.length + 1) cap3)) P c0 c1 c2 (.slice va L.length vc) c4 L) := packed_end hP w02.size ⟨w02.os, w02.tape, w02.output⟩ w02.block HW.out hown2 hown3 hgrow (.inl rfl)
    clear hown3 hgrow hP3
    go_wp2
    go_ret
    exact ⟨rfl, HA.out⟩


set_option maxRecDepth 100000 in
set_option maxHeartbeats 2000000 in
theorem packed_yes (P : Nat) (c0 c1 c2 vb c4 : Value) (L : List Value) (k t c u o : Int) (w : World) (h : isB k t c u o = true) (hw : w.heap[P]? = some (.cells #[c0, c1, c2, vb, c4] 67 (0, 0))) (hown : w.ownsRow (P + 1) 92 1 vb L.length L) (hL : L.length * 64 ≤ 140737488351232) :
    Calls Tryz.prog 45 #[.pointer (some ⟨P, 0, none⟩), .agg #[.int .i64 k, .int .i64 t, .int .i64 c, .int .i64 u, .int .i64 o]] w fun e w' => e = .returned (.bool true) ∧ packedAns w w' P c0 c1 c2 vb c4 L := by
  obtain ⟨i0, hi, hz0, hz1, hz2⟩ := info_parts Tryz.infoBytes
  have HI : Hid (isB k t c u o = true) := h
  have hP : P < w.heap.size := (Array.getElem?_eq_some_iff.1 hw).1
  have HW : Hid (w.heap[P]? = some (.cells #[c0, c1, c2, vb, c4] 67 (0, 0))) := hw
  have HO : Hid (w.ownsRow (P + 1) 92 1 vb L.length L) := hown
  clear h hw hown
  go_enter Tryz.func45, Tryz.ntmps45
  go_wp2_with fail
  refine (pack_own k t c u o _ HI.out).mono ?_
  rintro e w1 ⟨v1, rfl, ho1, b1⟩
  have s1 : w.heap.size < w1.heap.size := by have := b1.size; simp at this; omega
  have k0 : w1.cell? ⟨w.heap.size, 0, none⟩ = some (.int .i64 k) := (b1.cell (p := ⟨w.heap.size, 0, none⟩) (by simp)).trans (by simp [go_sem])
  have k1 : w1.cell? ⟨w.heap.size, 1, none⟩ = some (.int .i64 t) := (b1.cell (p := ⟨w.heap.size, 1, none⟩) (by simp)).trans (by simp [go_sem])
  have k2 : w1.cell? ⟨w.heap.size, 2, none⟩ = some (.int .i64 c) := (b1.cell (p := ⟨w.heap.size, 2, none⟩) (by simp)).trans (by simp [go_sem])
  have k3 : w1.cell? ⟨w.heap.size, 3, none⟩ = some (.int .i64 u) := (b1.cell (p := ⟨w.heap.size, 3, none⟩) (by simp)).trans (by simp [go_sem])
  have k4 : w1.cell? ⟨w.heap.size, 4, none⟩ = some (.int .i64 o) := (b1.cell (p := ⟨w.heap.size, 4, none⟩) (by simp)).trans (by simp [go_sem])
  obtain ⟨g, cap, cur, rfl, hg1, hh1, hN, hm1, hcs, hct⟩ : ∃ g cap cur, v1 = .slice (some ⟨g, 0, none⟩) (frameB k (numsOf k t c u o)).length cap ∧ w.heap.size + 1 ≤ g ∧ w1.heap[g]? = some (.cells cur 5 (0, 0)) ∧ (frameB k (numsOf k t c u o)).length ≤ cap ∧ cap ≤ maxLen ∧ cur.size = cap ∧ cur.toList.take (frameB k (numsOf k t c u o)).length = (frameB k (numsOf k t c u o)).map (Value.int .u8) := by
    rcases ho1.2 with ⟨_, h0⟩ | ⟨g, cap, cur, hv, hb, hh, hn, hm, hc, ht⟩
    · have := frameB_pos k (numsOf k t c u o); omega
    · exact ⟨g, cap, cur, hv, by simpa using hb, hh, hn, hm, by simpa using hc, by simpa using ht⟩
  have hby := frame_byte HI.out
  obtain ⟨g1', cap1', hv1, hs1⟩ := bytesAt_slice (bytesAt_of ho1 (frameB_pos _ _)) hby
  simp at hv1
  obtain ⟨rfl, rfl⟩ := hv1
  have hgw1 : g < w1.heap.size := (Array.getElem?_eq_some_iff.1 hh1).1
  go_wp2_with fail
  refine (rpack_yes k t c u o _ HI.out).mono ?_
  rintro e w2 ⟨v2, rfl, hv2, b2⟩
  obtain ⟨g2, cap2, rfl, hs2⟩ := bytesAt_slice hv2 hby
  have e1 := conv_slice (sliceOf_below hs1 b2)
  have e2 := conv_slice hs2
  have q1 : ∀ (x : Addr) (l c : Nat) (w' : World), (binOp .eql 92 (.slice (some x) l c) (.slice none 0 0)).run Tryz.prog w' = .ok (.bool false) w' := fun x l c w' => Lib.run_eql_slice_nil w' 92 5 (some x) l c 0 0 Tryz.underlying92
  have w02 : Below w.heap.size w w2 := (((Below.refl _ _).alloc (Nat.le_refl _) _).trans (b1.mono (by simp))).trans (b2.mono (by omega))
  have HG2 : Hid (w2.heap[g]? = some (.cells cur 5 (0, 0))) := (b2.block g hgw1).trans hh1
  have hpw2 : P < w2.heap.size := by have := w02.size; omega
  have hown2 := ownsRow_below HO.out w02 (Nat.le_refl _)
  obtain ⟨va, vc, rfl⟩ : ∃ va vc, vb = .slice va L.length vc := by
    rcases HO.out.2 with ⟨rfl, h0⟩ | ⟨g, cap, cur, rfl, _⟩
    · exact ⟨none, 0, by rw [h0]⟩
    · exact ⟨_, _, rfl⟩
  have hP2 : Hid (w2.heap[P]? = some (.cells #[c0, c1, c2, .slice va L.length vc, c4] 67 (0, 0))) := (w02.block P hP).trans HW.out
  have HO2 : Hid (w2.ownsRow (P + 1) 92 1 (.slice va L.length vc) L.length L) := hown2
  have hgP : P < g := by omega
  have hmk : ∀ w' : World, Calls Tryz.prog 52 #[.int .i64 L.length] w' fun e w3 => e = .returned (.int .u8 (mkB L.length)) ∧ w' = w3 := fun w' => markByte_any L.length w' (by omega)
  have HMK : Hid (∀ w' : World, Calls Tryz.prog 52 #[.int .i64 L.length] w' fun e w3 => e = .returned (.int .u8 (mkB L.length)) ∧ w' = w3) := hmk
  have hcm : cap ≤ 9223372036854775807 := by unfold maxLen at hm1; omega
  clear b1 b2 k0 k1 k2 k3 k4 hs1 hs2 hv2 ho1 hown2 hmk hby hct
  go_wp2_with fail
  clear e1 e2 q1
  go_loopw [11] (fun i wr => ∃ j : Nat, j ≤ cap ∧ i = .int .i64 j ∧ Hid (wr.heap[g]? = some (.cells (List.replicate j (Value.int .u8 (mkB L.length)) ++ cur.toList.drop j).toArray 5 (0, 0))) ∧ w2.grownBy wr (some g)) (fun i _ => cap - (intOf i).toNat)
  case atStart => exact ⟨0, Nat.zero_le _, rfl, by simpa [Hid] using HG2.out, World.grownBy.refl _ _⟩
  case round =>
    obtain ⟨j, hj, rfl, hrow, hgr⟩ := hrel
    have hPr : wr.heap[P]? = some (.cells #[c0, c1, c2, .slice va L.length vc, c4] 67 (0, 0)) := (hgr.block P hpw2 (by simp; omega)).trans hP2.out
    obtain ⟨_, _, _, p3, _⟩ := world_cells hPr
    by_cases hlt : j < cap
    · have hA : (List.replicate j (Value.int .u8 (mkB L.length))).length = j := by simp
      obtain ⟨z, hz⟩ : ∃ z, cur.toList.drop j = z :: cur.toList.drop (j + 1) := ⟨_, List.drop_eq_getElem_cons (show j < cur.toList.length by simpa [hcs] using hlt)⟩
      rw [hz] at hrow
      clear hz
      have d0 := row_cell hrow.out hA
      have df := row_free hrow.out
      have HR : Hid (∀ v : Value, (wr.setCell ⟨g, j, none⟩ v).heap[g]? = some (.cells (List.replicate j (Value.int .u8 (mkB L.length)) ++ v :: cur.toList.drop (j + 1)).toArray 5 (0, 0))) := fun v => row_store hrow.out hA v
      clear hrow hA hPr
      go_wp2_with (go_at_call 52; refine (HMK.out _).mono ?_; rintro e w3 ⟨rfl, rfl⟩)
      go_roundw
      case rel =>
        refine ⟨j + 1, by omega, by go_num, ?_, grownBy_setCell hgr⟩
        unfold Hid
        rw [List.replicate_succ', List.append_assoc]
        exact HR.out _
      case measure => simp [intOf]; omega
    · have hje : j = cap := by omega
      subst hje
      have hfin : Hid (wr.heap[g]? = some (.cells (List.replicate j (Value.int .u8 (mkB L.length))).toArray 5 (0, 0))) := by
        have := hrow.out
        rw [List.drop_eq_nil_of_le (by simp [hcs]), List.append_nil] at this
        exact this
      have hgwr : g < wr.heap.size := (Array.getElem?_eq_some_iff.1 hfin.out).1
      have hszr : w.heap.size ≤ wr.heap.size := Nat.le_trans w02.size hgr.size
      have hgne : Value.ownBlock (.slice va L.length vc) ≠ some g := fun e => by
        rcases HO2.out.2 with ⟨hv, _⟩ | ⟨g', c', cur', hv, _, hh', _⟩
        · simp at hv
          obtain ⟨rfl, _⟩ := hv
          simp [Value.ownBlock] at e
        · simp at hv
          obtain ⟨rfl, _⟩ := hv
          simp [Value.ownBlock] at e
          subst e
          rw [HG2.out] at hh'
          simp at hh'
      have hownr : wr.ownsRow (P + 1) 92 1 (.slice va L.length vc) L.length L := HO2.out.kept hgr (.inr hgne)
      have hkeep : ∀ k, k < w.heap.size → wr.heap[k]? = w.heap[k]? := fun k hk => (hgr.block k (by have := w02.size; omega) (by simp; omega)).trans (w02.block k hk)
      have pf := row_free hPr 3
      have hPwr : P < wr.heap.size := by omega
      have HK : Hid (∀ k, k < w.heap.size → wr.heap[k]? = w.heap[k]?) := hkeep
      have hpr' : Hid (wr.heap[P]? = some (.cells #[c0, c1, c2, .slice va L.length vc, c4] 67 (0, 0))) := hPr
      clear hrow hkeep hPr
      go_wp2_with (at_builtin; refine wpList_append_own _ rfl _ _ 64 rfl (P + 1) 92 i0 (.slice none 0 0) 1 24 Tryz.underlying64 hi hz0 hz1 hz2 rfl (by decide) _ _ _ rfl (hownr.alloc _) ⟨wr.heap.size, 0, none⟩ 1 1 [.slice (some ⟨g, 0, none⟩) j j] rfl rfl ?c1 ?c2 ?c3 ?c4 ?c5 ?_)
      case c1 => exact cell_one_new _ _ _
      case c2 => intro u hu; simp at hu; subst hu; rfl
      case c3 => unfold maxLen; omega
      case c4 => omega
      case c5 => simp; omega
      intro v' w3 hown3 hgrow _
      obtain ⟨g3, cap3, rfl⟩ : ∃ g3 cap3, v' = .slice (some ⟨g3, 0, none⟩) (L.length + 1) cap3 := by
        rcases hown3.2 with ⟨_, h0⟩ | ⟨g, cap, cur, hv, _⟩
        · omega
        · exact ⟨_, _, hv⟩
      have hPn : some P ≠ Value.ownBlock (.slice va L.length vc) := fun e => by have := (World.ownsRow.lt hownr P e.symm).1; omega
      have hP3 : w3.heap[P]? = some (.cells #[c0, c1, c2, .slice va L.length vc, c4] 67 (0, 0)) := (hgrow.block P (by simp; omega) hPn).trans ((Below.heap_alloc _ _ _ (by omega)).trans hpr'.out)
      obtain ⟨_, _, _, p3', _⟩ := world_cells hP3
      have pf' := row_free hP3 3
      have HA : Hid (packedAns w (w3.setCell ⟨P, 3, none⟩ (.slice (some ⟨g3, 0, none⟩) (L.length + 1) cap3)) P c0 c1 c2 (.slice va L.length vc) c4 L) := packed_end hP hszr ⟨hgr.os.trans w02.os, hgr.tape.trans w02.tape, hgr.output.trans w02.output⟩ HK.out HW.out hownr hown3 hgrow (.inr ⟨g, j, rfl, hm1, hgP, hfin.out⟩)
      clear hown3 hgrow hP3
      go_wp2
      go_ret
      exact ⟨rfl, HA.out⟩

end Go.Proofs.YtfhncfghblkgeaaGreat
