import Derived.Test.YtfhncfghblkgeaaGreatL18
set_option maxRecDepth 100000
set_option maxHeartbeats 2000000
namespace Go.Proofs.YtfhncfghblkgeaaGreat
open Go.RowKit
theorem grownBy_trans {w w1 w2 : World} {r : Option Nat} (h : w.grownBy w1 r) (h' : w1.grownBy w2 r) : w.grownBy w2 r :=
 ⟨h'.os.trans h.os, h'.tape.trans h.tape, h'.output.trans h.output, Nat.le_trans h.size h'.size, fun k hk hr => (h'.block k (Nat.lt_of_lt_of_le hk h.size) hr).trans (h.block k hk hr)⟩
theorem grownBy_drewN {w w1 : World} {r : Option Nat} {n : Nat} (h : w.grownBy w1 r) : w.grownBy (w1.drewN n) r := ⟨h.os, h.tape, h.output, h.size, h.block⟩
theorem grownBy_setCell {w w1 : World} {g i : Nat} {v : Value} (h : w.grownBy w1 (some g)) : w.grownBy (w1.setCell (aq g i) v) (some g) :=
 grownBy_trans h ⟨rfl, rfl, rfl, by simp [World.setCell], fun k _ hk => Below.heap_setCell _ _ _ _ (fun e => hk (by rw [e]))⟩
theorem grownBy_cell {w w1 : World} {g b o : Nat} (h : w.grownBy w1 (some g)) (hb : b < w.heap.size) (hn : b ≠ g) : w1.cell? (aq b o) = w.cell? (aq b o) :=
 World.cell?_of_block (a := (aq b o)) (h.block b hb (by simpa using hn))
theorem whole_nil (n0 n1 n2 n3 n4 n5 n6 m0 m1 m2 m3 m4 m5 m6 : Int) (v : Value) (w : World) :
 Calls Tryz.prog 84 #[.agg #[iv m0, iv m1, iv m2, iv m3, iv m4, iv m5, iv m6, v], .agg #[iv n0, iv n1, iv n2, iv n3, iv n4, iv n5, iv n6, .slice none 0 0]] w fun e w' => e = .returned (.bool true) ∧ Below w.heap.size w w' := by
 have hq : ∀ w', (binOp .eql 27 (.slice none 0 0) (.slice none 0 0)).run Tryz.prog w' = .ok (.bool true) w' := fun w' => Lib.run_eql_slice_nil w' 27 137 none 0 0 0 0 Tryz.underlying27
 go_enter Tryz.func84, Tryz.ntmps84
 go_wp2
 go_ret
 exact ⟨rfl, bL⟩
def marks (j : Nat) : List (Int × Int) := (List.range j).map fun i : Nat => ((i : Int), 77)
theorem marks_len (j : Nat) : (marks j).length = j := by simp [marks]
theorem marks_succ (j : Nat) : marks (j + 1) = marks j ++ [((j : Int), 77)] := by simp [marks, List.range_succ]
theorem lentRow_len (ts : List (Int × Int)) : (lentRow ts).length = ts.length + 8 := by simp [lentRow]
theorem lentRow_in {ts : List (Int × Int)} {j : Nat} (h : j < ts.length) : (lentRow ts).getD j (0, 0) = ts.getD j (0, 0) := by
 simp [lentRow, List.getD, List.getElem?_append_left h]
theorem lentRow_out {ts : List (Int × Int)} {j : Nat} (h : ts.length ≤ j) (h' : j < ts.length + 8) : (lentRow ts).getD j (0, 0) = (77, 77) := by
 unfold lentRow
 rw [List.getD_eq_getElem?_getD, List.getElem?_append_right h, List.getElem?_replicate, if_pos (by omega)]; rfl
theorem drop_getD (l : List (Int × Int)) (j : Nat) (h : j < l.length) : l.drop j = l.getD j (0, 0) :: l.drop (j + 1) := by
 rw [List.drop_eq_getElem_cons h]
 simp [List.getD, List.getElem?_eq_getElem h]
theorem whole_some (n0 n1 n2 n3 n4 n5 n6 m0 m1 m2 m3 m4 m5 m6 : Int) (x : Addr) (g len cap : Nat) (ts : List (Int × Int)) (w : World) (h : tiersAt w (some x) len cap ts) (hx : ts ≠ [] → x.block ≠ g)
 (hg : w.heap[g]? = some (.cells (flatT (lentRow ts)).toArray 137 (0, 0))) :
 Calls Tryz.prog 84 #[.agg #[iv m0, iv m1, iv m2, iv m3, iv m4, iv m5, iv m6, .slice (some (aq g 0)) len (len + 8)], .agg #[iv n0, iv n1, iv n2, iv n3, iv n4, iv n5, iv n6, .slice (some x) len cap]] w fun e w' => e = .returned (.bool true) ∧ w.grownBy w' (some g) := by
 have hq : ∀ w', (binOp .eql 27 (.slice (some x) len cap) (.slice none 0 0)).run Tryz.prog w' = .ok (.bool false) w' := fun w' => Lib.run_eql_slice_nil w' 27 137 (some x) len cap 0 0 Tryz.underlying27
 have hgw : g < w.heap.size := (blt hg)
 have hlen : len * 16 ≤ 140737488355328 := by have := h.2.1; have := h.2.2.1; omega
 have hts : Hid (ts.length = len) := h.1
 have HT : Hid (tiersAt w (some x) len cap ts) := h
 have HG : Hid (w.heap[g]? = some (.cells (flatT (lentRow ts)).toArray 137 (0, 0))) := hg
 clear h hg
 go_enter Tryz.func84, Tryz.ntmps84
 go_wp2_with fail
 have hW : Hid (w.grownBy ((w.alloc (.cells #[iv m0, iv m1, iv m2, iv m3, iv m4, iv m5, iv m6, .slice (some (aq g 0)) len (len + 8)] 29)).alloc (.cells #[iv n0, iv n1, iv n2, iv n3, iv n4, iv n5, iv n6, .slice (some x) len cap] 29)) (some g)) := grownBy_trans (World.grownBy_alloc w _ _) (World.grownBy_alloc _ _ _)
 have HW0 : Hid (((w.alloc (.cells #[iv m0, iv m1, iv m2, iv m3, iv m4, iv m5, iv m6, .slice (some (aq g 0)) len (len + 8)] 29)).alloc (.cells #[iv n0, iv n1, iv n2, iv n3, iv n4, iv n5, iv n6, .slice (some x) len cap] 29)).heap[g]? = some (.cells (flatT (marks 0) ++ flatT ((lentRow ts).drop 0)).toArray 137 (0, 0))) := by
  unfold Hid
  rw [Below.heap_alloc _ _ _ (by simp; omega), Below.heap_alloc _ _ _ hgw, HG.out]; rfl
 have hbox : ((w.alloc (.cells #[iv m0, iv m1, iv m2, iv m3, iv m4, iv m5, iv m6, .slice (some (aq g 0)) len (len + 8)] 29)).alloc (.cells #[iv n0, iv n1, iv n2, iv n3, iv n4, iv n5, iv n6, .slice (some x) len cap] 29)).cell? (aq (w.heap.size + 1) 7) = some (.slice (some x) len cap) := by simp [go_sem]
 have hsz : ((w.alloc (.cells #[iv m0, iv m1, iv m2, iv m3, iv m4, iv m5, iv m6, .slice (some (aq g 0)) len (len + 8)] 29)).alloc (.cells #[iv n0, iv n1, iv n2, iv n3, iv n4, iv n5, iv n6, .slice (some x) len cap] 29)).heap.size = w.heap.size + 2 := by simp
 generalize ((w.alloc (.cells #[iv m0, iv m1, iv m2, iv m3, iv m4, iv m5, iv m6, .slice (some (aq g 0)) len (len + 8)] 29)).alloc (.cells #[iv n0, iv n1, iv n2, iv n3, iv n4, iv n5, iv n6, .slice (some x) len cap] 29)) = W at *
 have HSZ : Hid (W.heap.size = w.heap.size + 2) := hsz
 clear hsz
 go_loopw [7, 8] (fun ok i wr => ∃ j : Nat, j ≤ len + 8 ∧ ok = .bool true ∧ i = iv j ∧ Hid (wr.heap[g]? = some (.cells (flatT (marks j) ++ flatT ((lentRow ts).drop j)).toArray 137 (0, 0))) ∧ W.grownBy wr (some g)) (fun _ i _ => len + 8 - (intOf i).toNat)
 case atStart => exact ⟨0, Nat.zero_le _, rfl, rfl, HW0, World.grownBy.refl _ _⟩
 case round =>
  obtain ⟨j, hj, rfl, rfl, hrow, hgr⟩ := hrel
  by_cases hlt : j < len + 8
  ·have hgwr : g < wr.heap.size := Nat.lt_of_lt_of_le (by rw [HSZ.out]; omega) hgr.size
   have hsw : w.heap.size + 1 < wr.heap.size := by have := hgr.size; rw [HSZ.out] at this; exact this
   have hbx : wr.cell? (aq (w.heap.size + 1) 7) = some (.slice (some x) len cap) := (grownBy_cell hgr (by rw [HSZ.out]; omega) (by omega)).trans hbox
   have hA : (flatT (marks j)).length = j * 2 := by rw [flatT_len, marks_len]
   rw [drop_getD (lentRow ts) j (by rw [lentRow_len, hts.out]; omega), flatT_cons] at hrow
   generalize hp : (lentRow ts).getD j (0, 0) = p at hrow
   obtain ⟨p0, p1⟩ := p
   have HP : Hid ((lentRow ts).getD j (0, 0) = (p0, p1)) := hp
   clear hp
   have d0 : wr.cell? (aq g (j * 2)) = some (iv p0) := row_cell hrow.out hA
   have d1 : wr.cell? (aq g (j * 2 + 1)) = some (iv p1) := row_cell (A := flatT (marks j) ++ [iv p0]) (by rw [hrow.out, List.append_assoc]; rfl) (by simp [hA])
   have df := row_free hrow.out
   by_cases hin : j < len
   ·obtain ⟨hl, _, _, _, hcs⟩ := HT.out
    have hne : ts ≠ [] := fun e => by rw [e] at hl; simp at hl; omega
    obtain ⟨b, off, hxe, hbw, hcell⟩ := hcs hne
    have hxe' := Option.some.inj hxe
    subst hxe'
    clear hxe
    have hbg : b ≠ g := hx hne
    rw [lentRow_in (by omega)] at HP
    have t0 : wr.cell? (aq b (off + j * 2)) = some (iv p0) := by
     rw [grownBy_cell hgr (by rw [HSZ.out]; omega) hbg, grownBy_cell hW.out hbw hbg, (hcell j hin).1, HP.out]
    have t1 : wr.cell? (aq b (off + j * 2 + 1)) = some (iv p1) := by
     rw [grownBy_cell hgr (by rw [HSZ.out]; omega) hbg, grownBy_cell hW.out hbw hbg, (hcell j hin).2, HP.out]
    have hbwr : b < wr.heap.size := by omega
    clear hcell hcs hl
    have HR : Hid (∀ (O : Obj) (nq : Nat) (v0 v1 : Value), ((((wr.alloc O).drewN nq).setCell (aq g (j * 2)) v0).setCell (aq g (j * 2 + 1)) v1).heap[g]? = some (.cells (flatT (marks j) ++ v0 :: v1 :: flatT ((lentRow ts).drop (j + 1))).toArray 137 (0, 0))) := fun O nq v0 v1 => row_store2 ((Below.heap_alloc wr O g hgwr).trans hrow.out) hA v0 v1
    clear hrow hA
    go_wp2
    go_quiet (fail)
    go_wp2
    go_roundw
    case rel =>
     refine ⟨j + 1, by omega, rfl, by go_num, ?_, ?_⟩
     ·have e : flatT (marks (j + 1)) ++ flatT ((lentRow ts).drop (j + 1)) = flatT (marks j) ++ iv j :: iv 77 :: flatT ((lentRow ts).drop (j + 1)) := by
       rw [marks_succ, flatT_app, List.append_assoc]; rfl
      unfold Hid
      rw [e]
      exact HR.out _ _ _ _
     ·exact grownBy_setCell (grownBy_setCell (grownBy_drewN (grownBy_trans hgr (World.grownBy_alloc _ _ _))))
    case measure => simp [intOf]; omega
   ·rw [lentRow_out (by rw [hts.out]; omega) (by rw [hts.out]; omega)] at HP
    have hp := HP.out
    simp only [Prod.mk.injEq] at hp
    obtain ⟨rfl, rfl⟩ := hp
    have hin' : ¬ (j : Int) < (len : Int) := by omega
    have HR : Hid (∀ (O : Obj) (nq : Nat) (v0 v1 : Value), ((((wr.alloc O).drewN nq).setCell (aq g (j * 2)) v0).setCell (aq g (j * 2 + 1)) v1).heap[g]? = some (.cells (flatT (marks j) ++ v0 :: v1 :: flatT ((lentRow ts).drop (j + 1))).toArray 137 (0, 0))) := fun O nq v0 v1 => row_store2 ((Below.heap_alloc wr O g hgwr).trans hrow.out) hA v0 v1
    clear hrow hA
    go_wp2
    go_quiet (fail)
    go_wp2
    go_roundw
    case rel =>
     refine ⟨j + 1, by omega, rfl, by go_num, ?_, ?_⟩
     ·have e : flatT (marks (j + 1)) ++ flatT ((lentRow ts).drop (j + 1)) = flatT (marks j) ++ iv j :: iv 77 :: flatT ((lentRow ts).drop (j + 1)) := by
         rw [marks_succ, flatT_app, List.append_assoc]; rfl
      unfold Hid
      rw [e]
      exact HR.out _ _ _ _
     ·exact grownBy_setCell (grownBy_setCell (grownBy_drewN (grownBy_trans hgr (World.grownBy_alloc _ _ _))))
    case measure => simp [intOf]; omega
  ·have hje : j = len + 8 := by omega
   subst hje
   go_wp2
   go_ret
   exact ⟨rfl, grownBy_trans hW.out hgr⟩
def NP (tl : List Int) (p : Nat) (ms : List Nat) (cur : List Int) : Prop :=
 goOn cur ∧ ∃ D, tl.take p = D ++ cur ∧ ∀ ns : List Nat, (∀ n ∈ ns, n < 34359738368) → tl = codes ns → ∃ ns2, ns = ms ++ ns2 ∧ D = codes ms
def RNS (tl : List Int) (ms : List Nat) : Prop := ∀ ns : List Nat, ns.length ≤ 3 → (∀ n ∈ ns, n < 34359738368) → tl = codes ns → ms = ns
theorem np_start (tl : List Int) : NP tl 0 [] [] := ⟨fun _ h => by simp at h, [], by simp, fun ns _ _ => ⟨ns, rfl, rfl⟩⟩
theorem take_next {tl : List Int} {p : Nat} {x : Int} (hp : p < tl.length) (hx : tl.getD p 0 = x) : tl.take (p + 1) = tl.take p ++ [x] := by
 rw [List.take_succ_eq_append_getElem hp]
 simp [List.getD, List.getElem?_eq_getElem hp] at hx
 rw [hx]
theorem split_next {tl : List Int} {p : Nat} {x : Int} (hp : p < tl.length) (hx : tl.getD p 0 = x) : tl = tl.take p ++ x :: tl.drop (p + 1) := by
 conv => lhs; rw [← List.take_append_drop p tl]
 congr 1
 rw [List.drop_eq_getElem_cons hp]
 simp [List.getD, List.getElem?_eq_getElem hp] at hx
 rw [hx]
theorem np_more {tl : List Int} {p : Nat} {ms : List Nat} {cur : List Int} {x : Int} (h : NP tl p ms cur) (hp : p < tl.length) (hx : tl.getD p 0 = x) (h0 : 128 ≤ x) (h1 : x < 256) : NP tl (p + 1) ms (cur ++ [x]) := by
 obtain ⟨hg, D, hd, hn⟩ := h
 refine ⟨fun y hy => ?_, D, by rw [take_next hp hx, hd, List.append_assoc], hn⟩
 rcases List.mem_append.1 hy with hy | hy
 ·exact hg y hy
 ·simp at hy; omega
theorem codes_cons (m : Nat) (ns : List Nat) : codes (m :: ns) = code m ++ codes ns := rfl
theorem np_num {tl : List Int} {p : Nat} {ms : List Nat} {cur : List Int} {x : Int} (h : NP tl p ms cur) (hp : p < tl.length) (hx : tl.getD p 0 = x) (h1 : x < 128) : NP tl (p + 1) (ms ++ [valL (cur ++ [x])]) [] := by
 obtain ⟨hg, D, hd, hn⟩ := h
 refine ⟨fun _ h => by simp at h, D ++ (cur ++ [x]), by rw [take_next hp hx, hd]; simp, fun ns hb e => ?_⟩
 obtain ⟨ns2, e1, e2⟩ := hn ns hb e
 have hs := split_next hp hx
 rw [hd, List.append_assoc] at hs
 have e' : D ++ (cur ++ x :: tl.drop (p + 1)) = codes ms ++ codes ns2 := by rw [← hs, e, e1]; simp [codes]
 rw [e2] at e'
 have e3 := List.append_cancel_left e'
 match ns2 with
 | [] => simp [codes] at e3
 | m :: ns3 =>
   rw [codes_cons] at e3
   obtain ⟨g, y, ec, hgo, _, hy1, _⟩ := code_shape m m (Nat.le_refl _)
   rw [ec] at e3
   simp only [List.append_assoc, List.singleton_append] at e3
   obtain ⟨rfl, rfl, _⟩ := ends_same _ _ _ _ _ _ hg hgo h1 hy1 e3
   have em : m = valL (cur ++ [x]) := by rw [← ec, valL_code]
   subst em
   exact ⟨ns3, by rw [e1]; simp, by rw [e2, codes_snoc, ec]⟩
theorem low_in {m : Nat} {cur rest r : List Int} (hg : goOn cur) (e : cur ++ rest = code m ++ r) (hl : (code m).length ≤ cur.length) : False := by
 obtain ⟨g, y, ec, _, _, hy1, _⟩ := code_shape m m (Nat.le_refl _)
 rw [ec] at e hl
 simp at hl
 have h1 : (cur ++ rest)[g.length]? = some y := by rw [e]; simp
 rw [List.getElem?_append_left (by omega)] at h1
 have := hg y (List.mem_of_getElem? h1)
 omega
theorem np_long {tl : List Int} {p : Nat} {ms : List Nat} {cur : List Int} (h : NP tl p ms cur) (hc : 5 ≤ cur.length) : RNS tl ms := by
 obtain ⟨hg, D, hd, hn⟩ := h
 intro ns _ hb e
 obtain ⟨ns2, e1, e2⟩ := hn ns hb e
 exfalso
 have hs : tl = D ++ (cur ++ tl.drop p) := by rw [← List.append_assoc, ← hd, List.take_append_drop]
 have e' : D ++ (cur ++ tl.drop p) = codes ms ++ codes ns2 := by rw [← hs, e, e1]; simp [codes]
 rw [e2] at e'
 have e3 := List.append_cancel_left e'
 match ns2, e1 with
 | [], _ =>
   have := congrArg List.length e3
   rw [List.length_append] at this
   simp only [codes, List.flatMap_nil, List.length_nil] at this
   omega
 | m :: ns3, e1 =>
   rw [codes_cons] at e3
   exact low_in hg e3 (Nat.le_trans (code_len5 (hb m (by rw [e1]; simp))) hc)
theorem np_end {tl : List Int} {ms : List Nat} {cur : List Int} (h : NP tl tl.length ms cur) : RNS tl ms := by
 obtain ⟨hg, D, hd, hn⟩ := h
 intro ns _ hb e
 obtain ⟨ns2, e1, e2⟩ := hn ns hb e
 rw [List.take_of_length_le (Nat.le_refl _)] at hd
 have e' : D ++ cur = codes ms ++ codes ns2 := by rw [← hd, e, e1]; simp [codes]
 rw [e2] at e'
 have e3 := List.append_cancel_left e'
 match ns2, e1, e3 with
 | [], e1, _ => rw [e1]; simp
 | m :: ns3, _, e3 =>
   exfalso
   rw [codes_cons] at e3
   exact low_in (rest := []) hg (by rw [List.append_nil]; exact e3) (by rw [e3]; simp)
theorem codes_len : ∀ (ns : List Nat), (∀ n ∈ ns, n < 34359738368) → (codes ns).length ≤ 5 * ns.length
 | [], _ => by simp [codes]
 | n :: ns, h => by
   have h1 := code_len5 (h n (by simp))
   have h2 := codes_len ns (fun m hm => h m (by simp [hm]))
   rw [codes_cons]
   simp; omega
theorem np_far {tl : List Int} {ms : List Nat} (hp : 19 ≤ tl.length) : RNS tl ms := by
 intro ns hl hb e
 have := codes_len ns hb
 rw [← e] at this
 omega
end Go.Proofs.YtfhncfghblkgeaaGreat
