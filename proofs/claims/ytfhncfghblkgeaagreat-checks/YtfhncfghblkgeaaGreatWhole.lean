/-
  The walk: whole.
-/
import Derived.Test.YtfhncfghblkgeaaGreatLent
namespace Go.Proofs.YtfhncfghblkgeaaGreat
open Go.RowKit

theorem grownBy_trans {w w1 w2 : World} {r : Option Nat} (h : w.grownBy w1 r) (h' : w1.grownBy w2 r) : w.grownBy w2 r :=
  ⟨h'.os.trans h.os, h'.tape.trans h.tape, h'.output.trans h.output, Nat.le_trans h.size h'.size, fun k hk hr => (h'.block k (Nat.lt_of_lt_of_le hk h.size) hr).trans (h.block k hk hr)⟩
theorem grownBy_drewN {w w1 : World} {r : Option Nat} {n : Nat} (h : w.grownBy w1 r) : w.grownBy (w1.drewN n) r := ⟨h.os, h.tape, h.output, h.size, h.block⟩
theorem grownBy_setCell {w w1 : World} {g i : Nat} {v : Value} (h : w.grownBy w1 (some g)) : w.grownBy (w1.setCell ⟨g, i, none⟩ v) (some g) :=
  grownBy_trans h ⟨rfl, rfl, rfl, by simp [World.setCell], fun k _ hk => Below.heap_setCell _ _ _ _ (fun e => hk (by rw [e]))⟩
theorem grownBy_cell {w w1 : World} {g b o : Nat} (h : w.grownBy w1 (some g)) (hb : b < w.heap.size) (hn : b ≠ g) : w1.cell? ⟨b, o, none⟩ = w.cell? ⟨b, o, none⟩ :=
  World.cell?_of_block (a := ⟨b, o, none⟩) (h.block b hb (by simpa using hn))

set_option maxHeartbeats 400000 in
theorem whole_nil (n0 n1 n2 n3 n4 n5 n6 m0 m1 m2 m3 m4 m5 m6 : Int) (v : Value) (w : World) :
    Calls Tryz.prog 84 #[.agg #[.int .i64 m0, .int .i64 m1, .int .i64 m2, .int .i64 m3, .int .i64 m4, .int .i64 m5, .int .i64 m6, v], .agg #[.int .i64 n0, .int .i64 n1, .int .i64 n2, .int .i64 n3, .int .i64 n4, .int .i64 n5, .int .i64 n6, .slice none 0 0]] w fun e w' => e = .returned (.bool true) ∧ Below w.heap.size w w' := by
  have hq : ∀ w', (binOp .eql 27 (.slice none 0 0) (.slice none 0 0)).run Tryz.prog w' = .ok (.bool true) w' := fun w' => Lib.run_eql_slice_nil w' 27 137 none 0 0 0 0 Tryz.underlying27
  go_enter Tryz.func84, Tryz.ntmps84
  go_wp2
  go_ret
  exact ⟨rfl, by repeat (first | exact Below.refl _ _ | refine Below.drew ?_ | refine Below.alloc ?_ (by first | exact Nat.le_refl _ | (simp <;> omega)) _)⟩

/-- What whole has written so far. -/
def marks (j : Nat) : List (Int × Int) := (List.range j).map fun i : Nat => ((i : Int), 77)
theorem marks_len (j : Nat) : (marks j).length = j := by simp [marks]
theorem marks_succ (j : Nat) : marks (j + 1) = marks j ++ [((j : Int), 77)] := by simp [marks, List.range_succ]

theorem lentRow_len (ts : List (Int × Int)) : (lentRow ts).length = ts.length + 8 := by simp [lentRow]
theorem lentRow_in {ts : List (Int × Int)} {j : Nat} (h : j < ts.length) : (lentRow ts).getD j (0, 0) = ts.getD j (0, 0) := by
  simp [lentRow, List.getD, List.getElem?_append_left h]
theorem lentRow_out {ts : List (Int × Int)} {j : Nat} (h : ts.length ≤ j) (h' : j < ts.length + 8) : (lentRow ts).getD j (0, 0) = (77, 77) := by
  unfold lentRow
  rw [List.getD_eq_getElem?_getD, List.getElem?_append_right h, List.getElem?_replicate, if_pos (by omega)]; rfl
theorem drop_getD (l : List (Int × Int)) (j : Nat) (h : j < l.length) : l.drop j = l.getD j (0, 0) :: l.drop (j + 1) := by
  rw [List.drop_eq_getElem_cons h]
  simp [List.getD, List.getElem?_eq_getElem h]

set_option maxRecDepth 100000 in
set_option maxHeartbeats 2000000 in
theorem whole_some (n0 n1 n2 n3 n4 n5 n6 m0 m1 m2 m3 m4 m5 m6 : Int) (x : Addr) (g len cap : Nat) (ts : List (Int × Int)) (w : World) (h : tiersAt w (some x) len cap ts) (hx : ts ≠ [] → x.block ≠ g)
    (hg : w.heap[g]? = some (.cells (flatT (lentRow ts)).toArray 137 (0, 0))) :
    Calls Tryz.prog 84 #[.agg #[.int .i64 m0, .int .i64 m1, .int .i64 m2, .int .i64 m3, .int .i64 m4, .int .i64 m5, .int .i64 m6, .slice (some ⟨g, 0, none⟩) len (len + 8)], .agg #[.int .i64 n0, .int .i64 n1, .int .i64 n2, .int .i64 n3, .int .i64 n4, .int .i64 n5, .int .i64 n6, .slice (some x) len cap]] w fun e w' => e = .returned (.bool true) ∧ w.grownBy w' (some g) := by
  have hq : ∀ w', (binOp .eql 27 (.slice (some x) len cap) (.slice none 0 0)).run Tryz.prog w' = .ok (.bool false) w' := fun w' => Lib.run_eql_slice_nil w' 27 137 (some x) len cap 0 0 Tryz.underlying27
  have hgw : g < w.heap.size := (Array.getElem?_eq_some_iff.1 hg).1
  have hlen : len * 16 ≤ 140737488355328 := by have := h.2.1; have := h.2.2.1; omega
  have hts : Hid (ts.length = len) := h.1
  have HT : Hid (tiersAt w (some x) len cap ts) := h
  have HG : Hid (w.heap[g]? = some (.cells (flatT (lentRow ts)).toArray 137 (0, 0))) := hg
  clear h hg
  go_enter Tryz.func84, Tryz.ntmps84
  go_wp2_with fail
  have hW : Hid (w.grownBy ((w.alloc (.cells #[.int .i64 m0, .int .i64 m1, .int .i64 m2, .int .i64 m3, .int .i64 m4, .int .i64 m5, .int .i64 m6, .slice (some ⟨g, 0, none⟩) len (len + 8)] 29)).alloc (.cells #[.int .i64 n0, .int .i64 n1, .int .i64 n2, .int .i64 n3, .int .i64 n4, .int .i64 n5, .int .i64 n6, .slice (some x) len cap] 29)) (some g)) := grownBy_trans (World.grownBy_alloc w _ _) (World.grownBy_alloc _ _ _)
  have HW0 : Hid (((w.alloc (.cells #[.int .i64 m0, .int .i64 m1, .int .i64 m2, .int .i64 m3, .int .i64 m4, .int .i64 m5, .int .i64 m6, .slice (some ⟨g, 0, none⟩) len (len + 8)] 29)).alloc (.cells #[.int .i64 n0, .int .i64 n1, .int .i64 n2, .int .i64 n3, .int .i64 n4, .int .i64 n5, .int .i64 n6, .slice (some x) len cap] 29)).heap[g]? = some (.cells (flatT (marks 0) ++ flatT ((lentRow ts).drop 0)).toArray 137 (0, 0))) := by
    unfold Hid
    rw [Below.heap_alloc _ _ _ (by simp; omega), Below.heap_alloc _ _ _ hgw, HG.out]; rfl
  have hbox : ((w.alloc (.cells #[.int .i64 m0, .int .i64 m1, .int .i64 m2, .int .i64 m3, .int .i64 m4, .int .i64 m5, .int .i64 m6, .slice (some ⟨g, 0, none⟩) len (len + 8)] 29)).alloc (.cells #[.int .i64 n0, .int .i64 n1, .int .i64 n2, .int .i64 n3, .int .i64 n4, .int .i64 n5, .int .i64 n6, .slice (some x) len cap] 29)).cell? ⟨w.heap.size + 1, 7, none⟩ = some (.slice (some x) len cap) := by simp [go_sem]
  have hsz : ((w.alloc (.cells #[.int .i64 m0, .int .i64 m1, .int .i64 m2, .int .i64 m3, .int .i64 m4, .int .i64 m5, .int .i64 m6, .slice (some ⟨g, 0, none⟩) len (len + 8)] 29)).alloc (.cells #[.int .i64 n0, .int .i64 n1, .int .i64 n2, .int .i64 n3, .int .i64 n4, .int .i64 n5, .int .i64 n6, .slice (some x) len cap] 29)).heap.size = w.heap.size + 2 := by simp
  generalize ((w.alloc (.cells #[.int .i64 m0, .int .i64 m1, .int .i64 m2, .int .i64 m3, .int .i64 m4, .int .i64 m5, .int .i64 m6, .slice (some ⟨g, 0, none⟩) len (len + 8)] 29)).alloc (.cells #[.int .i64 n0, .int .i64 n1, .int .i64 n2, .int .i64 n3, .int .i64 n4, .int .i64 n5, .int .i64 n6, .slice (some x) len cap] 29)) = W at *
  have HSZ : Hid (W.heap.size = w.heap.size + 2) := hsz
  clear hsz
  go_loopw [7, 8] (fun ok i wr => ∃ j : Nat, j ≤ len + 8 ∧ ok = .bool true ∧ i = .int .i64 j ∧ Hid (wr.heap[g]? = some (.cells (flatT (marks j) ++ flatT ((lentRow ts).drop j)).toArray 137 (0, 0))) ∧ W.grownBy wr (some g)) (fun _ i _ => len + 8 - (intOf i).toNat)
  case atStart => exact ⟨0, Nat.zero_le _, rfl, rfl, HW0, World.grownBy.refl _ _⟩
  case round =>
    obtain ⟨j, hj, rfl, rfl, hrow, hgr⟩ := hrel
    by_cases hlt : j < len + 8
    · have hgwr : g < wr.heap.size := Nat.lt_of_lt_of_le (by rw [HSZ.out]; omega) hgr.size
      have hsw : w.heap.size + 1 < wr.heap.size := by have := hgr.size; rw [HSZ.out] at this; exact this
      have hbx : wr.cell? ⟨w.heap.size + 1, 7, none⟩ = some (.slice (some x) len cap) := (grownBy_cell hgr (by rw [HSZ.out]; omega) (by omega)).trans hbox
      have hA : (flatT (marks j)).length = j * 2 := by rw [flatT_len, marks_len]
      rw [drop_getD (lentRow ts) j (by rw [lentRow_len, hts.out]; omega), flatT_cons] at hrow
      generalize hp : (lentRow ts).getD j (0, 0) = p at hrow
      obtain ⟨p0, p1⟩ := p
      have HP : Hid ((lentRow ts).getD j (0, 0) = (p0, p1)) := hp
      clear hp
      have d0 : wr.cell? ⟨g, j * 2, none⟩ = some (.int .i64 p0) := row_cell hrow.out hA
      have d1 : wr.cell? ⟨g, j * 2 + 1, none⟩ = some (.int .i64 p1) := row_cell (A := flatT (marks j) ++ [.int .i64 p0]) (by rw [hrow.out, List.append_assoc]; rfl) (by simp [hA])
      have df := row_free hrow.out
      by_cases hin : j < len
      · obtain ⟨hl, _, _, _, hcs⟩ := HT.out
        have hne : ts ≠ [] := fun e => by rw [e] at hl; simp at hl; omega
        obtain ⟨b, off, hxe, hbw, hcell⟩ := hcs hne
        have hxe' := Option.some.inj hxe
        subst hxe'
        clear hxe
        have hbg : b ≠ g := hx hne
        rw [lentRow_in (by omega)] at HP
        have t0 : wr.cell? ⟨b, off + j * 2, none⟩ = some (.int .i64 p0) := by
          rw [grownBy_cell hgr (by rw [HSZ.out]; omega) hbg, grownBy_cell hW.out hbw hbg, (hcell j hin).1, HP.out]
        have t1 : wr.cell? ⟨b, off + j * 2 + 1, none⟩ = some (.int .i64 p1) := by
          rw [grownBy_cell hgr (by rw [HSZ.out]; omega) hbg, grownBy_cell hW.out hbw hbg, (hcell j hin).2, HP.out]
        have hbwr : b < wr.heap.size := by omega
        clear hcell hcs hl
        have HR : Hid (∀ (O : Obj) (nq : Nat) (v0 v1 : Value), ((((wr.alloc O).drewN nq).setCell ⟨g, j * 2, none⟩ v0).setCell ⟨g, j * 2 + 1, none⟩ v1).heap[g]? = some (.cells (flatT (marks j) ++ v0 :: v1 :: flatT ((lentRow ts).drop (j + 1))).toArray 137 (0, 0))) := fun O nq v0 v1 => row_store2 ((Below.heap_alloc wr O g hgwr).trans hrow.out) hA v0 v1
        clear hrow hA
        go_wp2
        go_quiet (fail)
        go_wp2
        go_roundw
        case rel =>
          refine ⟨j + 1, by omega, rfl, by go_num, ?_, ?_⟩
          · have e : flatT (marks (j + 1)) ++ flatT ((lentRow ts).drop (j + 1)) = flatT (marks j) ++ .int .i64 j :: .int .i64 77 :: flatT ((lentRow ts).drop (j + 1)) := by
              rw [marks_succ, flatT_app, List.append_assoc]; rfl
            unfold Hid
            rw [e]
            exact HR.out _ _ _ _
          · exact grownBy_setCell (grownBy_setCell (grownBy_drewN (grownBy_trans hgr (World.grownBy_alloc _ _ _))))
        case measure => simp [intOf]; omega
      · rw [lentRow_out (by rw [hts.out]; omega) (by rw [hts.out]; omega)] at HP
        have hp := HP.out
        simp only [Prod.mk.injEq] at hp
        obtain ⟨rfl, rfl⟩ := hp
        have hin' : ¬ (j : Int) < (len : Int) := by omega
        have HR : Hid (∀ (O : Obj) (nq : Nat) (v0 v1 : Value), ((((wr.alloc O).drewN nq).setCell ⟨g, j * 2, none⟩ v0).setCell ⟨g, j * 2 + 1, none⟩ v1).heap[g]? = some (.cells (flatT (marks j) ++ v0 :: v1 :: flatT ((lentRow ts).drop (j + 1))).toArray 137 (0, 0))) := fun O nq v0 v1 => row_store2 ((Below.heap_alloc wr O g hgwr).trans hrow.out) hA v0 v1
        clear hrow hA
        go_wp2
        go_quiet (fail)
        go_wp2
        go_roundw
        case rel =>
          refine ⟨j + 1, by omega, rfl, by go_num, ?_, ?_⟩
          · have e : flatT (marks (j + 1)) ++ flatT ((lentRow ts).drop (j + 1)) = flatT (marks j) ++ .int .i64 j :: .int .i64 77 :: flatT ((lentRow ts).drop (j + 1)) := by
              rw [marks_succ, flatT_app, List.append_assoc]; rfl
            unfold Hid
            rw [e]
            exact HR.out _ _ _ _
          · exact grownBy_setCell (grownBy_setCell (grownBy_drewN (grownBy_trans hgr (World.grownBy_alloc _ _ _))))
        case measure => simp [intOf]; omega
    · have hje : j = len + 8 := by omega
      subst hje
      go_wp2
      go_ret
      exact ⟨rfl, grownBy_trans hW.out hgr⟩

end Go.Proofs.YtfhncfghblkgeaaGreat
