import Derived.Test.YtfhncfghblkgeaaGreatL12
import Derived.Test.YtfhncfghblkgeaaGreatL24
set_option maxRecDepth 100000
set_option maxHeartbeats 2000000
namespace Go.Proofs.YtfhncfghblkgeaaGreat
open Go.RowKit
theorem rsend_used (R bl bc : Nat) (ba : Option Addr) (k t c u o : Int) (w : World) (hk : k = 1 ∨ k = 2 ∨ k = 3) (v : Value) (l : List Ans) (p : Ans → Bool) (h10 : w.cell? (aq R 10) = some v) (hd : anssAt w v l) (hl : l.length * 64 ≤ 140737488355328) (i0 : Nat) (hi0 : i0 < l.length) (hfree : ∀ j, j < i0 → ¬ (p (l.getD j ans0) = true ∧ (l.getD j ans0).token = t)) (hp0 : p (l.getD i0 ans0) = true) (ht0 : (l.getD i0 ans0).token = t)
 (bs : List Int) (hbs : sliceOf w ba bl bc bs) (rv : Value) (HV : Hid ((l.getD i0 ans0).frame = strOfNums bs → rv = (l.getD i0 ans0).rep.val)) (HV' : Hid (¬ (l.getD i0 ans0).frame = strOfNums bs → rv = .agg #[iv 10, iv 0, iv 0, iv 0]))
 (HUP : Hid (∀ W, Below w.heap.size w W → Calls Tryz.prog 73 #[.slice ba bl bc] W fun e w' => e = .returned (.tuple #[.agg #[iv k, iv t, iv c, iv u, iv o], iv 0]) ∧ Below W.heap.size W w'))
 (HR : Hid (∀ a ∈ l, ∀ W, Below w.heap.size w W → Calls Tryz.prog 147 #[pt R 0, a.val] W fun e w' => e = .returned (.bool (p a)) ∧ Below W.heap.size W w')) :
 Calls Tryz.prog 121 #[pt R 0, .slice ba bl bc] w fun e w' => e = .returned rv ∧ Below w.heap.size w w' := by
 obtain ⟨a, cp, rfl, hc⟩ := hd
 have hRw : R < w.heap.size := World.block_lt_of_cell? w _ h10
 have HC : Hid (0 < l.length → ∃ g, a = some (aq g 0) ∧ g < w.heap.size ∧ ∀ i, i < l.length → ansAt w g i (l.getD i ans0)) := hc
 have H10 : Hid (w.cell? (aq R 10) = some (.slice a l.length cp)) := h10
 clear hc h10
 go_enter Tryz.func121, Tryz.ntmps121
 go_wp2_with fail
 refine (HUP.out _ bL).mono ?_
 rintro e w1 ⟨rfl, b1⟩
 have w01 : Below w.heap.size w w1 := Below.trans (show Below w.heap.size w _ from bL) (b1.mono (by simp))
 have n0 : w1.heap[w.heap.size]? = some (.cells #[iv 0, iv 0, iv 0, iv 0] 42 (0, 0)) := (b1.block _ (by simp)).trans (heap_alloc_new w _)
 have hz : w.heap.size < w1.heap.size := (blt n0)
 clear b1
 replace hk : Hid _ := hk
 have hk4 : (k == 4) = false := by have := hk.out; simp; omega
 go_wp2_with fail
 have w00 : Below w.heap.size w (w1.alloc (.cells #[iv k, iv t, iv c, iv u, iv o] 46)) := w01.alloc (by omega) _
 have nn : (w1.alloc (.cells #[iv k, iv t, iv c, iv u, iv o] 46)).heap[w.heap.size]? = some (.cells #[iv 0, iv 0, iv 0, iv 0] 42 (0, 0)) := (Below.heap_alloc w1 _ _ hz).trans n0
 have rq : (w1.alloc (.cells #[iv k, iv t, iv c, iv u, iv o] 46)).heap[w1.heap.size]? = some (.cells #[iv k, iv t, iv c, iv u, iv o] 46 (0, 0)) := heap_alloc_new _ _
 have hqz : w1.heap.size < (w1.alloc (.cells #[iv k, iv t, iv c, iv u, iv o] 46)).heap.size := by simp
 generalize w1.alloc (.cells #[iv k, iv t, iv c, iv u, iv o] 46) = W0 at w00 nn rq hqz ⊢
 clear w01 n0
 generalize w1.heap.size = q at rq hz hqz ⊢
 replace nn : Hid _ := nn
 replace rq : Hid _ := rq
 have hR0 : R < W0.heap.size := Nat.lt_of_lt_of_le hRw w00.size
 have H0 : Hid (W0.cell? (aq R 10) = some (.slice a l.length cp)) := (w00.cell (p := (aq R 10)) hRw).trans H10.out
 go_loopw [7] (fun i wr => ∃ j : Nat, j ≤ i0 ∧ i = iv j ∧ Below W0.heap.size W0 wr) (fun i _ => l.length - (intOf i).toNat)
 case atStart => exact ⟨0, Nat.zero_le _, rfl, Below.refl _ _⟩
 case round =>
  obtain ⟨j, hj, rfl, hbel⟩ := hrel
  have c10 := (hbel.cell (p := (aq R 10)) hR0).trans H0.out
  have hRr : R < wr.heap.size := Nat.lt_of_lt_of_le hR0 hbel.size
  have hzr := hbel.size
  have hlt : j < l.length := by omega
  obtain ⟨g, rfl, hgw, hcell⟩ := HC.out (by omega)
  have hg0 : g < W0.heap.size := Nat.lt_of_lt_of_le hgw w00.size
  have hgr : g < wr.heap.size := Nat.lt_of_lt_of_le hg0 hbel.size
  obtain ⟨e0, e1, e2, e3, e4, e5, e6⟩ := hcell j hlt
  have hmem : l.getD j ans0 ∈ l := by
   simp only [List.getD, List.getElem?_eq_getElem hlt, Option.getD_some]
   exact List.getElem_mem hlt
  have HRK : Hid (∀ W, Below w.heap.size w W → Calls Tryz.prog 147 #[pt R 0, (l.getD j ans0).val] W fun e w' => e = .returned (.bool (p (l.getD j ans0))) ∧ Below W.heap.size W w') := HR.out _ hmem
  have bb : Below w.heap.size w wr := Below.trans w00 (hbel.mono w00.size)
  replace e0 := (bb.cell (p := (aq g (j * 7))) hgw).trans e0
  replace e1 := (bb.cell (p := (aq g (j * 7 + 1))) hgw).trans e1
  replace e2 := (bb.cell (p := (aq g (j * 7 + 2))) hgw).trans e2
  replace e3 := (bb.cell (p := (aq g (j * 7 + 3))) hgw).trans e3
  replace e4 := (bb.cell (p := (aq g (j * 7 + 4))) hgw).trans e4
  replace e5 := (bb.cell (p := (aq g (j * 7 + 5))) hgw).trans e5
  replace e6 := (bb.cell (p := (aq g (j * 7 + 6))) hgw).trans e6
  have b0 : (0 : Int) ≤ (j : Int) := by omega
  have b1 : (j : Int) < (l.length : Int) := by omega
  have bbH : Hid (Below w.heap.size w wr) := bb
  have hbH : Hid (Below W0.heap.size W0 wr) := hbel
  by_cases hji : j < i0
  ·skip
   by_cases hp : p (l.getD j ans0) = true
   ·have hn : ¬ (l.getD j ans0).token = t := fun e => hfree j hji ⟨hp, e⟩
    rw [hp] at HRK
    generalize l.getD j ans0 = x at e0 e1 e2 e3 e4 e5 e6 HRK hn
    obtain ⟨f, tk, ⟨kk, oo, cc, uu⟩, at'⟩ := x
    unfold Ans.val at HRK
    simp only at e0 e1 e2 e3 e4 e5 e6 HRK hn
    have hnd : (tk == t) = false := by simpa using hn
    clear hcell HC HR hmem
    go_wp2_with (first
     | (go_at_call 147; refine (HRK.out _ bL).mono ?_; rintro e wA ⟨rfl, b⟩
        have hA : Below wr.heap.size wr wA := by first | exact b | exact Below.trans (show Below wr.heap.size wr _ from bL) b
        have d10 := (hA.cell (p := (aq R 10)) hRr).trans c10
        have d0 := (hA.cell (p := (aq g (j * 7))) hgr).trans e0
        have d1 := (hA.cell (p := (aq g (j * 7 + 1))) hgr).trans e1
        have d2 := (hA.cell (p := (aq g (j * 7 + 2))) hgr).trans e2
        have d3 := (hA.cell (p := (aq g (j * 7 + 3))) hgr).trans e3
        have d4 := (hA.cell (p := (aq g (j * 7 + 4))) hgr).trans e4
        have d5 := (hA.cell (p := (aq g (j * 7 + 5))) hgr).trans e5
        have d6 := (hA.cell (p := (aq g (j * 7 + 6))) hgr).trans e6
        have hRA : R < wA.heap.size := Nat.lt_of_lt_of_le hRr hA.size
        have hgA : g < wA.heap.size := Nat.lt_of_lt_of_le hgr hA.size
        have hWA : Below W0.heap.size W0 wA := Below.trans hbH.out (hA.mono hbH.out.size)
        have rA := (hWA.block q hqz).trans rq.out
        have dt : wA.cell? (aq q 1) = some (iv t) := by rw [Joins.cell_of_block rA]; rfl
        have hqA : q < wA.heap.size := (blt rA)
        clear b hA))
    go_quiet (fail)
    go_wp2
    exact ⟨⟨j + 1, by omega, by go_num, bL⟩, by simp [intOf]; omega⟩
   ·have hp' : p (l.getD j ans0) = false := by simpa using hp
    rw [hp'] at HRK
    generalize l.getD j ans0 = x at e0 e1 e2 e3 e4 e5 e6 HRK
    obtain ⟨f, tk, ⟨kk, oo, cc, uu⟩, at'⟩ := x
    unfold Ans.val at HRK
    simp only at e0 e1 e2 e3 e4 e5 e6 HRK
    clear hcell HC HR hmem hp hp'
    go_wp2_with (first
     | (go_at_call 147; refine (HRK.out _ bL).mono ?_; rintro e wA ⟨rfl, b⟩
        have hA : Below wr.heap.size wr wA := by first | exact b | exact Below.trans (show Below wr.heap.size wr _ from bL) b
        have d10 := (hA.cell (p := (aq R 10)) hRr).trans c10
        have d0 := (hA.cell (p := (aq g (j * 7))) hgr).trans e0
        have d1 := (hA.cell (p := (aq g (j * 7 + 1))) hgr).trans e1
        have d2 := (hA.cell (p := (aq g (j * 7 + 2))) hgr).trans e2
        have d3 := (hA.cell (p := (aq g (j * 7 + 3))) hgr).trans e3
        have d4 := (hA.cell (p := (aq g (j * 7 + 4))) hgr).trans e4
        have d5 := (hA.cell (p := (aq g (j * 7 + 5))) hgr).trans e5
        have d6 := (hA.cell (p := (aq g (j * 7 + 6))) hgr).trans e6
        have hRA : R < wA.heap.size := Nat.lt_of_lt_of_le hRr hA.size
        have hgA : g < wA.heap.size := Nat.lt_of_lt_of_le hgr hA.size
        have hWA : Below W0.heap.size W0 wA := Below.trans hbH.out (hA.mono hbH.out.size)
        have rA := (hWA.block q hqz).trans rq.out
        have dt : wA.cell? (aq q 1) = some (iv t) := by rw [Joins.cell_of_block rA]; rfl
        have hqA : q < wA.heap.size := (blt rA)
        clear b hA))
    go_quiet (fail)
    go_wp2
    exact ⟨⟨j + 1, by omega, by go_num, bL⟩, by simp [intOf]; omega⟩
  ·have hje : j = i0 := by omega
   subst hje
   rw [hp0] at HRK
   have HBS : Hid (∀ W, Below w.heap.size w W → (convert 92 9 (.slice ba bl bc)).run Tryz.prog W = .ok (.string (strOfNums bs)) W) := fun W hW => conv_slice (sliceOf_below hbs hW)
   have w00H : Hid (Below w.heap.size w W0) := w00
   generalize hx : l.getD j ans0 = x at e0 e1 e2 e3 e4 e5 e6 HRK ht0
   obtain ⟨f, tk, ⟨kk, oo, cc, uu⟩, at'⟩ := x
   replace hx : Hid _ := hx
   unfold Ans.val at HRK
   simp only at e0 e1 e2 e3 e4 e5 e6 HRK ht0
   have htd : (tk == t) = true := by simpa using ht0
   clear hcell HC HR hmem hbs hfree hp0 ht0
   show _
   by_cases hfe : f = strOfNums bs
   ·have hE : (f.toList == (strOfNums bs).toList) = true := by rw [hfe]; simp
    replace hfe : Hid _ := hfe
    go_wp2_with (first
     | (go_at_call 147; refine (HRK.out _ bL).mono ?_; rintro e wA ⟨rfl, b⟩
        have hA : Below wr.heap.size wr wA := by first | exact b | exact Below.trans (show Below wr.heap.size wr _ from bL) b
        have d10 := (hA.cell (p := (aq R 10)) hRr).trans c10
        have d0 := (hA.cell (p := (aq g (j * 7))) hgr).trans e0
        have d1 := (hA.cell (p := (aq g (j * 7 + 1))) hgr).trans e1
        have d2 := (hA.cell (p := (aq g (j * 7 + 2))) hgr).trans e2
        have d3 := (hA.cell (p := (aq g (j * 7 + 3))) hgr).trans e3
        have d4 := (hA.cell (p := (aq g (j * 7 + 4))) hgr).trans e4
        have d5 := (hA.cell (p := (aq g (j * 7 + 5))) hgr).trans e5
        have d6 := (hA.cell (p := (aq g (j * 7 + 6))) hgr).trans e6
        have hRA : R < wA.heap.size := Nat.lt_of_lt_of_le hRr hA.size
        have hgA : g < wA.heap.size := Nat.lt_of_lt_of_le hgr hA.size
        have hWA : Below W0.heap.size W0 wA := Below.trans hbH.out (hA.mono hbH.out.size)
        have rA := (hWA.block q hqz).trans rq.out
        have dt : wA.cell? (aq q 1) = some (iv t) := by rw [Joins.cell_of_block rA]; rfl
        have hqA : q < wA.heap.size := (blt rA)
        clear b hA))
    have hcv : ∀ m, (convert 92 9 (.slice ba bl bc)).run Tryz.prog (wA.drewN m) = .ok (.string (strOfNums bs)) (wA.drewN m) := fun m => HBS.out _ (below_drewN (Below.trans w00H.out (hWA.mono w00H.out.size)))
    go_quiet (fail)
    go_wp2_with fail
    go_quiet (fail)
    have nA := (hWA.block w.heap.size (by omega)).trans nn.out
    obtain ⟨s0, s1, s2, s3⟩ := four_cells nA
    have f0 := row_free nA 0
    have f1 := row_free nA 1
    have f2 := row_free nA 2
    have f3 := row_free nA 3
    have hzA : w.heap.size < wA.heap.size := (blt nA)
    have wWA := Below.trans w00H.out (hWA.mono w00H.out.size)
    clear nA
    go_wp2
    refine bodyPost_ret (v := .agg #[iv kk, iv oo, iv cc, iv uu]) (by simp [results, Tryz.results121, go_sem, s0, s1, s2, s3]) rfl ⟨by rw [HV.out (by rw [hx.out]; exact hfe.out), hx.out]; rfl, ?_⟩
    exact bL
   ·have hE : (f.toList == (strOfNums bs).toList) = false := by
     rw [ByteArray.toList_eq, ByteArray.toList_eq]
     simp only [beq_eq_false_iff_ne, ne_eq]
     exact fun e => hfe (ByteArray.ext (Array.toList_inj.1 e))
    replace hfe : Hid _ := hfe
    go_wp2_with (first
     | (go_at_call 147; refine (HRK.out _ bL).mono ?_; rintro e wA ⟨rfl, b⟩
        have hA : Below wr.heap.size wr wA := by first | exact b | exact Below.trans (show Below wr.heap.size wr _ from bL) b
        have d10 := (hA.cell (p := (aq R 10)) hRr).trans c10
        have d0 := (hA.cell (p := (aq g (j * 7))) hgr).trans e0
        have d1 := (hA.cell (p := (aq g (j * 7 + 1))) hgr).trans e1
        have d2 := (hA.cell (p := (aq g (j * 7 + 2))) hgr).trans e2
        have d3 := (hA.cell (p := (aq g (j * 7 + 3))) hgr).trans e3
        have d4 := (hA.cell (p := (aq g (j * 7 + 4))) hgr).trans e4
        have d5 := (hA.cell (p := (aq g (j * 7 + 5))) hgr).trans e5
        have d6 := (hA.cell (p := (aq g (j * 7 + 6))) hgr).trans e6
        have hRA : R < wA.heap.size := Nat.lt_of_lt_of_le hRr hA.size
        have hgA : g < wA.heap.size := Nat.lt_of_lt_of_le hgr hA.size
        have hWA : Below W0.heap.size W0 wA := Below.trans hbH.out (hA.mono hbH.out.size)
        have rA := (hWA.block q hqz).trans rq.out
        have dt : wA.cell? (aq q 1) = some (iv t) := by rw [Joins.cell_of_block rA]; rfl
        have hqA : q < wA.heap.size := (blt rA)
        clear b hA))
    have hcv : ∀ m, (convert 92 9 (.slice ba bl bc)).run Tryz.prog (wA.drewN m) = .ok (.string (strOfNums bs)) (wA.drewN m) := fun m => HBS.out _ (below_drewN (Below.trans w00H.out (hWA.mono w00H.out.size)))
    go_quiet (fail)
    go_wp2_with fail
    go_quiet (fail)
    have nA := (hWA.block w.heap.size (by omega)).trans nn.out
    obtain ⟨s0, s1, s2, s3⟩ := four_cells nA
    have f0 := row_free nA 0
    have f1 := row_free nA 1
    have f2 := row_free nA 2
    have f3 := row_free nA 3
    have hzA : w.heap.size < wA.heap.size := (blt nA)
    have wWA := Below.trans w00H.out (hWA.mono w00H.out.size)
    clear nA
    go_wp2
    refine bodyPost_ret (v := .agg #[iv 10, iv 0, iv 0, iv 0]) (by simp [results, Tryz.results121, go_sem, s0, s1, s2, s3]) rfl ⟨by rw [HV'.out (by rw [hx.out]; exact hfe.out)], ?_⟩
    exact bL
theorem rsend_full (R bl bc : Nat) (ba : Option Addr) (k t c u o : Int) (w : World) (hk : k = 1 ∨ k = 2 ∨ k = 3) (v : Value) (l : List Ans) (p : Ans → Bool) (h10 : w.cell? (aq R 10) = some v) (hd : anssAt w v l) (hl : l.length * 64 ≤ 140737488355328) (hfree : ∀ j, j < l.length → ¬ (p (l.getD j ans0) = true ∧ (l.getD j ans0).token = t)) (m : Int) (h6 : w.cell? (aq R 6) = some (iv m))
 (HUP : Hid (∀ W, Below w.heap.size w W → Calls Tryz.prog 73 #[.slice ba bl bc] W fun e w' => e = .returned (.tuple #[.agg #[iv k, iv t, iv c, iv u, iv o], iv 0]) ∧ Below W.heap.size W w'))
 (HR : Hid (∀ a ∈ l, ∀ W, Below w.heap.size w W → Calls Tryz.prog 147 #[pt R 0, a.val] W fun e w' => e = .returned (.bool (p a)) ∧ Below W.heap.size W w'))
 (HAN : Hid (∀ W, Below w.heap.size w W → Calls Tryz.prog 126 #[pt R 0] W fun e w' => e = .returned (iv m) ∧ Below W.heap.size W w')) :
 Calls Tryz.prog 121 #[pt R 0, .slice ba bl bc] w fun e w' => e = .returned (.agg #[iv 11, iv 0, iv 0, iv 0]) ∧ Below w.heap.size w w' := by
 replace h6 : Hid _ := h6
 obtain ⟨a, cp, rfl, hc⟩ := hd
 have hRw : R < w.heap.size := World.block_lt_of_cell? w _ h10
 have HC : Hid (0 < l.length → ∃ g, a = some (aq g 0) ∧ g < w.heap.size ∧ ∀ i, i < l.length → ansAt w g i (l.getD i ans0)) := hc
 have H10 : Hid (w.cell? (aq R 10) = some (.slice a l.length cp)) := h10
 clear hc h10
 go_enter Tryz.func121, Tryz.ntmps121
 go_wp2_with fail
 refine (HUP.out _ bL).mono ?_
 rintro e w1 ⟨rfl, b1⟩
 have w01 : Below w.heap.size w w1 := Below.trans (show Below w.heap.size w _ from bL) (b1.mono (by simp))
 have n0 : w1.heap[w.heap.size]? = some (.cells #[iv 0, iv 0, iv 0, iv 0] 42 (0, 0)) := (b1.block _ (by simp)).trans (heap_alloc_new w _)
 have hz : w.heap.size < w1.heap.size := (blt n0)
 clear b1
 replace hk : Hid _ := hk
 have hk4 : (k == 4) = false := by have := hk.out; simp; omega
 go_wp2_with fail
 have w00 : Below w.heap.size w (w1.alloc (.cells #[iv k, iv t, iv c, iv u, iv o] 46)) := w01.alloc (by omega) _
 have nn : (w1.alloc (.cells #[iv k, iv t, iv c, iv u, iv o] 46)).heap[w.heap.size]? = some (.cells #[iv 0, iv 0, iv 0, iv 0] 42 (0, 0)) := (Below.heap_alloc w1 _ _ hz).trans n0
 have rq : (w1.alloc (.cells #[iv k, iv t, iv c, iv u, iv o] 46)).heap[w1.heap.size]? = some (.cells #[iv k, iv t, iv c, iv u, iv o] 46 (0, 0)) := heap_alloc_new _ _
 have hqz : w1.heap.size < (w1.alloc (.cells #[iv k, iv t, iv c, iv u, iv o] 46)).heap.size := by simp
 generalize w1.alloc (.cells #[iv k, iv t, iv c, iv u, iv o] 46) = W0 at w00 nn rq hqz ⊢
 clear w01 n0
 generalize w1.heap.size = q at rq hz hqz ⊢
 replace nn : Hid _ := nn
 replace rq : Hid _ := rq
 have hR0 : R < W0.heap.size := Nat.lt_of_lt_of_le hRw w00.size
 have H0 : Hid (W0.cell? (aq R 10) = some (.slice a l.length cp)) := (w00.cell (p := (aq R 10)) hRw).trans H10.out
 go_loopw [7] (fun i wr => ∃ j : Nat, j ≤ l.length ∧ i = iv j ∧ Below W0.heap.size W0 wr) (fun i _ => l.length - (intOf i).toNat)
 case atStart => exact ⟨0, Nat.zero_le _, rfl, Below.refl _ _⟩
 case round =>
  obtain ⟨j, hj, rfl, hbel⟩ := hrel
  have c10 := (hbel.cell (p := (aq R 10)) hR0).trans H0.out
  have hRr : R < wr.heap.size := Nat.lt_of_lt_of_le hR0 hbel.size
  have hzr := hbel.size
  by_cases hlt : j < l.length
  ·skip
   obtain ⟨g, rfl, hgw, hcell⟩ := HC.out (by omega)
   have hg0 : g < W0.heap.size := Nat.lt_of_lt_of_le hgw w00.size
   have hgr : g < wr.heap.size := Nat.lt_of_lt_of_le hg0 hbel.size
   obtain ⟨e0, e1, e2, e3, e4, e5, e6⟩ := hcell j hlt
   have hmem : l.getD j ans0 ∈ l := by
    simp only [List.getD, List.getElem?_eq_getElem hlt, Option.getD_some]
    exact List.getElem_mem hlt
   have HRK : Hid (∀ W, Below w.heap.size w W → Calls Tryz.prog 147 #[pt R 0, (l.getD j ans0).val] W fun e w' => e = .returned (.bool (p (l.getD j ans0))) ∧ Below W.heap.size W w') := HR.out _ hmem
   have bb : Below w.heap.size w wr := Below.trans w00 (hbel.mono w00.size)
   replace e0 := (bb.cell (p := (aq g (j * 7))) hgw).trans e0
   replace e1 := (bb.cell (p := (aq g (j * 7 + 1))) hgw).trans e1
   replace e2 := (bb.cell (p := (aq g (j * 7 + 2))) hgw).trans e2
   replace e3 := (bb.cell (p := (aq g (j * 7 + 3))) hgw).trans e3
   replace e4 := (bb.cell (p := (aq g (j * 7 + 4))) hgw).trans e4
   replace e5 := (bb.cell (p := (aq g (j * 7 + 5))) hgw).trans e5
   replace e6 := (bb.cell (p := (aq g (j * 7 + 6))) hgw).trans e6
   have b0 : (0 : Int) ≤ (j : Int) := by omega
   have b1 : (j : Int) < (l.length : Int) := by omega
   have bbH : Hid (Below w.heap.size w wr) := bb
   have hbH : Hid (Below W0.heap.size W0 wr) := hbel
   by_cases hp : p (l.getD j ans0) = true
   ·have hn : ¬ (l.getD j ans0).token = t := fun e => hfree j hlt ⟨hp, e⟩
    rw [hp] at HRK
    generalize l.getD j ans0 = x at e0 e1 e2 e3 e4 e5 e6 HRK hn
    obtain ⟨f, tk, ⟨kk, oo, cc, uu⟩, at'⟩ := x
    unfold Ans.val at HRK
    simp only at e0 e1 e2 e3 e4 e5 e6 HRK hn
    have hnd : (tk == t) = false := by simpa using hn
    clear hcell HC HR hmem
    go_wp2_with (first
     | (go_at_call 147; refine (HRK.out _ bL).mono ?_; rintro e wA ⟨rfl, b⟩
        have hA : Below wr.heap.size wr wA := by first | exact b | exact Below.trans (show Below wr.heap.size wr _ from bL) b
        have d10 := (hA.cell (p := (aq R 10)) hRr).trans c10
        have d0 := (hA.cell (p := (aq g (j * 7))) hgr).trans e0
        have d1 := (hA.cell (p := (aq g (j * 7 + 1))) hgr).trans e1
        have d2 := (hA.cell (p := (aq g (j * 7 + 2))) hgr).trans e2
        have d3 := (hA.cell (p := (aq g (j * 7 + 3))) hgr).trans e3
        have d4 := (hA.cell (p := (aq g (j * 7 + 4))) hgr).trans e4
        have d5 := (hA.cell (p := (aq g (j * 7 + 5))) hgr).trans e5
        have d6 := (hA.cell (p := (aq g (j * 7 + 6))) hgr).trans e6
        have hRA : R < wA.heap.size := Nat.lt_of_lt_of_le hRr hA.size
        have hgA : g < wA.heap.size := Nat.lt_of_lt_of_le hgr hA.size
        have hWA : Below W0.heap.size W0 wA := Below.trans hbH.out (hA.mono hbH.out.size)
        have rA := (hWA.block q hqz).trans rq.out
        have dt : wA.cell? (aq q 1) = some (iv t) := by rw [Joins.cell_of_block rA]; rfl
        have hqA : q < wA.heap.size := (blt rA)
        clear b hA))
    go_quiet (fail)
    go_wp2
    exact ⟨⟨j + 1, by omega, by go_num, bL⟩, by simp [intOf]; omega⟩
   ·have hp' : p (l.getD j ans0) = false := by simpa using hp
    rw [hp'] at HRK
    generalize l.getD j ans0 = x at e0 e1 e2 e3 e4 e5 e6 HRK
    obtain ⟨f, tk, ⟨kk, oo, cc, uu⟩, at'⟩ := x
    unfold Ans.val at HRK
    simp only at e0 e1 e2 e3 e4 e5 e6 HRK
    clear hcell HC HR hmem hp hp'
    go_wp2_with (first
     | (go_at_call 147; refine (HRK.out _ bL).mono ?_; rintro e wA ⟨rfl, b⟩
        have hA : Below wr.heap.size wr wA := by first | exact b | exact Below.trans (show Below wr.heap.size wr _ from bL) b
        have d10 := (hA.cell (p := (aq R 10)) hRr).trans c10
        have d0 := (hA.cell (p := (aq g (j * 7))) hgr).trans e0
        have d1 := (hA.cell (p := (aq g (j * 7 + 1))) hgr).trans e1
        have d2 := (hA.cell (p := (aq g (j * 7 + 2))) hgr).trans e2
        have d3 := (hA.cell (p := (aq g (j * 7 + 3))) hgr).trans e3
        have d4 := (hA.cell (p := (aq g (j * 7 + 4))) hgr).trans e4
        have d5 := (hA.cell (p := (aq g (j * 7 + 5))) hgr).trans e5
        have d6 := (hA.cell (p := (aq g (j * 7 + 6))) hgr).trans e6
        have hRA : R < wA.heap.size := Nat.lt_of_lt_of_le hRr hA.size
        have hgA : g < wA.heap.size := Nat.lt_of_lt_of_le hgr hA.size
        have hWA : Below W0.heap.size W0 wA := Below.trans hbH.out (hA.mono hbH.out.size)
        have rA := (hWA.block q hqz).trans rq.out
        have dt : wA.cell? (aq q 1) = some (iv t) := by rw [Joins.cell_of_block rA]; rfl
        have hqA : q < wA.heap.size := (blt rA)
        clear b hA))
    go_quiet (fail)
    go_wp2
    exact ⟨⟨j + 1, by omega, by go_num, bL⟩, by simp [intOf]; omega⟩
  ·have hje : j = l.length := by omega
   subst hje
   have bb : Below w.heap.size w wr := Below.trans w00 (hbel.mono w00.size)
   have bbH : Hid (Below w.heap.size w wr) := bb
   have hbH : Hid (Below W0.heap.size W0 wr) := hbel
   clear bb HC HR hfree
   go_wp2_with (first
    | (go_at_call 126; refine (HAN.out _ bL).mono ?_; rintro e wA ⟨rfl, b⟩
       have hWA : Below W0.heap.size W0 wA := Below.trans hbH.out (b.mono hbH.out.size)
       have bA : Below w.heap.size w wA := Below.trans w00 (hWA.mono w00.size)
       have d6 := (bA.cell (p := (aq R 6)) hRw).trans h6.out
       have hRA : R < wA.heap.size := Nat.lt_of_lt_of_le hRw bA.size
       have nA := (hWA.block w.heap.size (by omega)).trans nn.out
       obtain ⟨s0, s1, s2, s3⟩ := four_cells nA
       have f0 := row_free nA 0
       have f1 := row_free nA 1
       have f2 := row_free nA 2
       have f3 := row_free nA 3
       have hzA : w.heap.size < wA.heap.size := (blt nA)
       clear b nA))
   refine bodyPost_ret (v := .agg #[iv 11, iv 0, iv 0, iv 0]) (by simp [results, Tryz.results121, go_sem, s0, s1, s2, s3]) rfl ⟨rfl, ?_⟩
   exact bL
end Go.Proofs.YtfhncfghblkgeaaGreat
