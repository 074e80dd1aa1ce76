import Derived.Test.YtfhncfghblkgeaaGreatL27
import Derived.Test.YtfhncfghblkgeaaGreatL28
set_option maxRecDepth 100000
set_option maxHeartbeats 2000000
namespace Go.Proofs.YtfhncfghblkgeaaGreat
open Go.RowKit
theorem Tryz.infoAnswer : (Tryz.prog.info? 226).map (fun i => (i.zero, i.size, i.bytes)) = some (some (.agg #[.string ByteArray.empty, iv 0, iv 0, iv 0, iv 0, iv 0, iv 0]), 7, 64) := by kernel_rfl
def ansPut (w w' : World) (B R : Nat) (v : Value) (n : Nat) (E L : List Value) : Prop :=
 ∃ C g cap, w.heap[R]? = some (.cells C 164 (0, 0)) ∧ w'.heap[R]? = some (.cells (C.setIfInBounds 10 (.slice (some (aq g 0)) (n + 1) cap)) 164 (0, 0)) ∧ w'.ownsRow B 226 7 (.slice (some (aq g 0)) (n + 1) cap) (n + 1) (E ++ L) ∧ Same (fun b => b = R ∨ v.ownBlock = some b) w w' ∧ (v.ownBlock = some g ∨ w.heap.size ≤ g)
theorem ans_end {w1 w3 : World} {B R n g cap : Nat} {C : Array Value} {v : Value} {E L : List Value} {O : Obj} (hR1 : w1.heap[R]? = some (.cells C 164 (0, 0))) (hv : v.ownBlock ≠ some R)
 (hown : w3.ownsRow B 226 7 (.slice (some (aq g 0)) (n + 1) cap) (n + 1) (E ++ L)) (hg : (w1.alloc O).grownBy w3 v.ownBlock) (hat : v.ownBlock = some g ∨ g = w1.heap.size + 1) :
 ansPut w1 (w3.setCell (aq R 10) (.slice (some (aq g 0)) (n + 1) cap)) B R v n E L := by
 have hR : R < w1.heap.size := (blt hR1)
 have k1 : ∀ k, k < w1.heap.size → v.ownBlock ≠ some k → w3.heap[k]? = w1.heap[k]? := fun k hk hn => (hg.block k (by simp; omega) (fun e => hn e.symm)).trans (Below.heap_alloc w1 O k hk)
 have z3 : w1.heap.size + 1 ≤ w3.heap.size := by have := hg.size; simpa using this
 have hR3 : w3.heap[R]? = some (.cells C 164 (0, 0)) := (k1 R hR hv).trans hR1
 have ks : ∀ k, k ≠ R → (w3.setCell (aq R 10) (.slice (some (aq g 0)) (n + 1) cap)).heap[k]? = w3.heap[k]? := fun k hk => Below.heap_setCell _ (aq R 10) _ _ hk
 have hgR : g ≠ R := by
  rintro rfl
  rcases hat with e | e
  ·exact hv e
  ·omega
 refine ⟨C, g, cap, hR1, Joins.block_setCell hR3 _, owns_keep hown (fun k hk => ks k (fun e => hgR (by simp [Value.ownBlock] at hk; exact hk.trans e))), ⟨hg.os, hg.tape, hg.output, by simp [World.setCell]; omega, fun k hk hn => ?_⟩, hat.imp id (fun e => by omega)⟩
 rw [ks k (fun e => hn (.inl e)), k1 k hk (fun e => hn (.inr e))]
theorem sliceOf_same {own : Nat → Prop} {w w' : World} {a : Option Addr} {len cap : Nat} {l : List Int} (h : sliceOf w a len cap l) (hs : Same own w w') (hn : l ≠ [] → ∀ b off, a = some (aq b off) → ¬ own b) : sliceOf w' a len cap l := by
 obtain ⟨h1, h2, h3, h4, h5⟩ := h
 refine ⟨h1, h2, h3, h4, fun hne => ?_⟩
 obtain ⟨b, off, e, hb, hc⟩ := h5 hne
 exact ⟨b, off, e, Nat.lt_of_lt_of_le hb hs.size, fun i hi => (hs.cell hb (hn hne b off e)).trans (hc i hi)⟩
theorem five_cells {w : World} {R : Nat} {c0 c1 c2 c3 c4 : Value} {T : TypeId} (h : w.heap[R]? = some (.cells #[c0, c1, c2, c3, c4] T (0, 0))) : w.cell? (aq R 0) = some c0 ∧ w.cell? (aq R 1) = some c1 ∧ w.cell? (aq R 2) = some c2 ∧ w.cell? (aq R 3) = some c3 ∧ w.cell? (aq R 4) = some c4 :=
 ⟨by rw [Joins.cell_of_block h]; rfl, by rw [Joins.cell_of_block h]; rfl, by rw [Joins.cell_of_block h]; rfl, by rw [Joins.cell_of_block h]; rfl, by rw [Joins.cell_of_block h]; rfl⟩
theorem rsend_do (R bl bc : Nat) (ba : Option Addr) (k t c u o : Int) (w : World) (hk : k = 1 ∨ k = 2 ∨ k = 3) (v : Value) (l : List Ans) (p : Ans → Bool) (h10 : w.cell? (aq R 10) = some v) (hd : anssAt w v l) (hl : l.length * 64 ≤ 140737488355328) (hfree : ∀ j, j < l.length → ¬ (p (l.getD j ans0) = true ∧ (l.getD j ans0).token = t)) (m tok : Int) (h6 : w.cell? (aq R 6) = some (iv tok)) (hmt : m ≠ tok) (hl2 : l.length * 64 + 64 ≤ 140737488355328)
 (B : Nat) (E : List Value) (now p0 p1 p2 p3 : Int) (own : Nat → Prop) (hown : ∀ b, own b → b < w.heap.size) (Q1 : World → World → Prop) (bs : List Int) (hBw : B ≤ w.heap.size)
 (HDO : Hid ((k = 1 → ∀ W, Below w.heap.size w W → Calls Tryz.prog 148 #[pt R 0, .agg #[iv k, iv t, iv c, iv u, iv o]] W fun e w' => e = .returned (.agg #[iv p0, iv p1, iv p2, iv p3]) ∧ Q1 W w' ∧ Same own W w') ∧ (k = 2 → ∀ W, Below w.heap.size w W → Calls Tryz.prog 149 #[pt R 0, .agg #[iv k, iv t, iv c, iv u, iv o]] W fun e w' => e = .returned (.agg #[iv p0, iv p1, iv p2, iv p3]) ∧ Q1 W w' ∧ Same own W w') ∧ (k = 3 → ∀ W, Below w.heap.size w W → Calls Tryz.prog 150 #[pt R 0, .agg #[iv k, iv t, iv c, iv u, iv o]] W fun e w' => e = .returned (.agg #[iv p0, iv p1, iv p2, iv p3]) ∧ Q1 W w' ∧ Same own W w')))
 (HQS : Hid (∀ Wc W W' b, w.heap.size ≤ b → b < Wc.heap.size → Q1 Wc W → Same (fun x => x = b) W W' → Q1 Wc W'))
 (HQ1 : Hid (∀ Wc W, Below w.heap.size w Wc → Q1 Wc W → sliceOf W ba bl bc bs ∧ (bs ≠ [] → ∀ b off, ba = some (aq b off) → b ≠ R ∧ Value.ownBlock v ≠ some b) ∧ W.ownsRow B 226 7 v l.length E ∧ ∃ C, W.heap[R]? = some (.cells C 164 (0, 0)) ∧ C[10]? = some v ∧ C[8]? = some (iv now)))
 (HUP : Hid (∀ W, Below w.heap.size w W → Calls Tryz.prog 73 #[.slice ba bl bc] W fun e w' => e = .returned (.tuple #[.agg #[iv k, iv t, iv c, iv u, iv o], iv 0]) ∧ Below W.heap.size W w'))
 (HR : Hid (∀ a ∈ l, ∀ W, Below w.heap.size w W → Calls Tryz.prog 147 #[pt R 0, a.val] W fun e w' => e = .returned (.bool (p a)) ∧ Below W.heap.size W w'))
 (HAN : Hid (∀ W, Below w.heap.size w W → Calls Tryz.prog 126 #[pt R 0] W fun e w' => e = .returned (iv m) ∧ Below W.heap.size W w')) :
 Calls Tryz.prog 121 #[pt R 0, .slice ba bl bc] w fun e w' => e = .returned (.agg #[iv p0, iv p1, iv p2, iv p3]) ∧ ∃ Wc W5 W6, Q1 Wc W5 ∧ Below w.heap.size w Wc ∧ w.heap.size < Wc.heap.size ∧ w.heap.size < W5.heap.size ∧ ansPut W5 W6 B R v l.length E [.string (strOfNums bs), iv t, iv p0, iv p1, iv p2, iv p3, iv now] ∧ Same (fun x => x = w.heap.size) W6 w' := by
 replace h6 : Hid _ := h6
 have hmd : (m == tok) = false := by simpa using hmt
 clear hmt
 obtain ⟨a, cp, rfl, hc⟩ := hd
 have hRw : R < w.heap.size := World.block_lt_of_cell? w _ h10
 have HC : Hid (0 < l.length → ∃ g, a = some (aq g 0) ∧ g < w.heap.size ∧ ∀ i, i < l.length → ansAt w g i (l.getD i ans0)) := hc
 have H10 : Hid (w.cell? (aq R 10) = some (.slice a l.length cp)) := h10
 clear hc h10
 go_enter Tryz.func121, Tryz.ntmps121
 go_wp2_with fail
 refine (HUP.out _ bL).mono ?_
 rintro e w1 ⟨rfl, b1⟩
 have w01 : Below w.heap.size w w1 := Below.trans (show Below w.heap.size w _ from bL) (b1.mono (by simp))
 have n0 : w1.heap[w.heap.size]? = some (.cells #[iv 0, iv 0, iv 0, iv 0] 42 (0, 0)) := (b1.block _ (by simp)).trans (heap_alloc_new w _)
 have hz : w.heap.size < w1.heap.size := (blt n0)
 clear b1
 replace hk : Hid _ := hk
 have hk4 : (k == 4) = false := by have := hk.out; simp; omega
 go_wp2_with fail
 have w00 : Below w.heap.size w (w1.alloc (.cells #[iv k, iv t, iv c, iv u, iv o] 46)) := w01.alloc (by omega) _
 have nn : (w1.alloc (.cells #[iv k, iv t, iv c, iv u, iv o] 46)).heap[w.heap.size]? = some (.cells #[iv 0, iv 0, iv 0, iv 0] 42 (0, 0)) := (Below.heap_alloc w1 _ _ hz).trans n0
 have rq : (w1.alloc (.cells #[iv k, iv t, iv c, iv u, iv o] 46)).heap[w1.heap.size]? = some (.cells #[iv k, iv t, iv c, iv u, iv o] 46 (0, 0)) := heap_alloc_new _ _
 have hqz : w1.heap.size < (w1.alloc (.cells #[iv k, iv t, iv c, iv u, iv o] 46)).heap.size := by simp
 generalize w1.alloc (.cells #[iv k, iv t, iv c, iv u, iv o] 46) = W0 at w00 nn rq hqz ⊢
 clear w01 n0
 generalize w1.heap.size = q at rq hz hqz ⊢
 replace nn : Hid _ := nn
 replace rq : Hid _ := rq
 have hR0 : R < W0.heap.size := Nat.lt_of_lt_of_le hRw w00.size
 have H0 : Hid (W0.cell? (aq R 10) = some (.slice a l.length cp)) := (w00.cell (p := (aq R 10)) hRw).trans H10.out
 go_loopw [7] (fun i wr => ∃ j : Nat, j ≤ l.length ∧ i = iv j ∧ Below W0.heap.size W0 wr) (fun i _ => l.length - (intOf i).toNat)
 case atStart => exact ⟨0, Nat.zero_le _, rfl, Below.refl _ _⟩
 case round =>
  obtain ⟨j, hj, rfl, hbel⟩ := hrel
  have c10 := (hbel.cell (p := (aq R 10)) hR0).trans H0.out
  have hRr : R < wr.heap.size := Nat.lt_of_lt_of_le hR0 hbel.size
  have hzr := hbel.size
  by_cases hlt : j < l.length
  ·skip
   obtain ⟨g, rfl, hgw, hcell⟩ := HC.out (by omega)
   have hg0 : g < W0.heap.size := Nat.lt_of_lt_of_le hgw w00.size
   have hgr : g < wr.heap.size := Nat.lt_of_lt_of_le hg0 hbel.size
   obtain ⟨e0, e1, e2, e3, e4, e5, e6⟩ := hcell j hlt
   have hmem : l.getD j ans0 ∈ l := by
    simp only [List.getD, List.getElem?_eq_getElem hlt, Option.getD_some]
    exact List.getElem_mem hlt
   have HRK : Hid (∀ W, Below w.heap.size w W → Calls Tryz.prog 147 #[pt R 0, (l.getD j ans0).val] W fun e w' => e = .returned (.bool (p (l.getD j ans0))) ∧ Below W.heap.size W w') := HR.out _ hmem
   have bb : Below w.heap.size w wr := Below.trans w00 (hbel.mono w00.size)
   replace e0 := (bb.cell (p := (aq g (j * 7))) hgw).trans e0
   replace e1 := (bb.cell (p := (aq g (j * 7 + 1))) hgw).trans e1
   replace e2 := (bb.cell (p := (aq g (j * 7 + 2))) hgw).trans e2
   replace e3 := (bb.cell (p := (aq g (j * 7 + 3))) hgw).trans e3
   replace e4 := (bb.cell (p := (aq g (j * 7 + 4))) hgw).trans e4
   replace e5 := (bb.cell (p := (aq g (j * 7 + 5))) hgw).trans e5
   replace e6 := (bb.cell (p := (aq g (j * 7 + 6))) hgw).trans e6
   have b0 : (0 : Int) ≤ (j : Int) := by omega
   have b1 : (j : Int) < (l.length : Int) := by omega
   have bbH : Hid (Below w.heap.size w wr) := bb
   have hbH : Hid (Below W0.heap.size W0 wr) := hbel
   by_cases hp : p (l.getD j ans0) = true
   ·have hn : ¬ (l.getD j ans0).token = t := fun e => hfree j hlt ⟨hp, e⟩
    rw [hp] at HRK
    generalize l.getD j ans0 = x at e0 e1 e2 e3 e4 e5 e6 HRK hn
    obtain ⟨f, tk, ⟨kk, oo, cc, uu⟩, at'⟩ := x
    unfold Ans.val at HRK
    simp only at e0 e1 e2 e3 e4 e5 e6 HRK hn
    have hnd : (tk == t) = false := by simpa using hn
    clear hcell HC HR hmem
    go_wp2_with (first
     | (go_at_call 147; refine (HRK.out _ bL).mono ?_; rintro e wA ⟨rfl, b⟩
        have hA : Below wr.heap.size wr wA := by first | exact b | exact Below.trans (show Below wr.heap.size wr _ from bL) b
        have d10 := (hA.cell (p := (aq R 10)) hRr).trans c10
        have d0 := (hA.cell (p := (aq g (j * 7))) hgr).trans e0
        have d1 := (hA.cell (p := (aq g (j * 7 + 1))) hgr).trans e1
        have d2 := (hA.cell (p := (aq g (j * 7 + 2))) hgr).trans e2
        have d3 := (hA.cell (p := (aq g (j * 7 + 3))) hgr).trans e3
        have d4 := (hA.cell (p := (aq g (j * 7 + 4))) hgr).trans e4
        have d5 := (hA.cell (p := (aq g (j * 7 + 5))) hgr).trans e5
        have d6 := (hA.cell (p := (aq g (j * 7 + 6))) hgr).trans e6
        have hRA : R < wA.heap.size := Nat.lt_of_lt_of_le hRr hA.size
        have hgA : g < wA.heap.size := Nat.lt_of_lt_of_le hgr hA.size
        have hWA : Below W0.heap.size W0 wA := Below.trans hbH.out (hA.mono hbH.out.size)
        have rA := (hWA.block q hqz).trans rq.out
        have dt : wA.cell? (aq q 1) = some (iv t) := by rw [Joins.cell_of_block rA]; rfl
        have hqA : q < wA.heap.size := (blt rA)
        clear b hA))
    go_quiet (fail)
    go_wp2
    exact ⟨⟨j + 1, by omega, by go_num, bL⟩, by simp [intOf]; omega⟩
   ·have hp' : p (l.getD j ans0) = false := by simpa using hp
    rw [hp'] at HRK
    generalize l.getD j ans0 = x at e0 e1 e2 e3 e4 e5 e6 HRK
    obtain ⟨f, tk, ⟨kk, oo, cc, uu⟩, at'⟩ := x
    unfold Ans.val at HRK
    simp only at e0 e1 e2 e3 e4 e5 e6 HRK
    clear hcell HC HR hmem hp hp'
    go_wp2_with (first
     | (go_at_call 147; refine (HRK.out _ bL).mono ?_; rintro e wA ⟨rfl, b⟩
        have hA : Below wr.heap.size wr wA := by first | exact b | exact Below.trans (show Below wr.heap.size wr _ from bL) b
        have d10 := (hA.cell (p := (aq R 10)) hRr).trans c10
        have d0 := (hA.cell (p := (aq g (j * 7))) hgr).trans e0
        have d1 := (hA.cell (p := (aq g (j * 7 + 1))) hgr).trans e1
        have d2 := (hA.cell (p := (aq g (j * 7 + 2))) hgr).trans e2
        have d3 := (hA.cell (p := (aq g (j * 7 + 3))) hgr).trans e3
        have d4 := (hA.cell (p := (aq g (j * 7 + 4))) hgr).trans e4
        have d5 := (hA.cell (p := (aq g (j * 7 + 5))) hgr).trans e5
        have d6 := (hA.cell (p := (aq g (j * 7 + 6))) hgr).trans e6
        have hRA : R < wA.heap.size := Nat.lt_of_lt_of_le hRr hA.size
        have hgA : g < wA.heap.size := Nat.lt_of_lt_of_le hgr hA.size
        have hWA : Below W0.heap.size W0 wA := Below.trans hbH.out (hA.mono hbH.out.size)
        have rA := (hWA.block q hqz).trans rq.out
        have dt : wA.cell? (aq q 1) = some (iv t) := by rw [Joins.cell_of_block rA]; rfl
        have hqA : q < wA.heap.size := (blt rA)
        clear b hA))
    go_quiet (fail)
    go_wp2
    exact ⟨⟨j + 1, by omega, by go_num, bL⟩, by simp [intOf]; omega⟩
  ·have hje : j = l.length := by omega
   subst hje
   have bb : Below w.heap.size w wr := Below.trans w00 (hbel.mono w00.size)
   have bbH : Hid (Below w.heap.size w wr) := bb
   have hbH : Hid (Below W0.heap.size W0 wr) := hbel
   clear bb HC HR hfree
   have hkc : ((k == 1) = true ∧ (k == 2) = false ∧ k = 1) ∨ ((k == 1) = false ∧ (k == 2) = true ∧ k = 2) ∨ ((k == 1) = false ∧ (k == 2) = false ∧ k = 3) := by rcases hk.out with h | h | h <;> simp [h]
   clear hk hk4
   rcases hkc with ⟨e1, e2, hk⟩ | ⟨e1, e2, hk⟩ | ⟨e1, e2, hk⟩
   all_goals replace hk : Hid _ := hk
   all_goals
    go_wp2_with (first
     | (go_at_call 126; refine (HAN.out _ bL).mono ?_; rintro e wA ⟨rfl, b⟩
        have hWA : Below W0.heap.size W0 wA := Below.trans hbH.out (b.mono hbH.out.size)
        have bA : Below w.heap.size w wA := Below.trans w00 (hWA.mono w00.size)
        have d6 := (bA.cell (p := (aq R 6)) hRw).trans h6.out
        have hRA : R < wA.heap.size := Nat.lt_of_lt_of_le hRw bA.size
        have nA : Hid _ := (hWA.block w.heap.size (by omega)).trans nn.out
        have rA : Hid _ := (hWA.block q hqz).trans rq.out
        obtain ⟨q0, q1, q2, q3, q4⟩ := five_cells rA.out
        have hzA : w.heap.size < wA.heap.size := (blt nA.out)
        have hqA : q < wA.heap.size := (blt rA.out)
        clear b)
     | ((first | (go_at_call 148; refine (HDO.out.1 hk.out _ bL).mono ?_) | (go_at_call 149; refine (HDO.out.2.1 hk.out _ bL).mono ?_) | (go_at_call 150; refine (HDO.out.2.2 hk.out _ bL).mono ?_)); rintro e w2 ⟨rfl, hq2, hs2⟩
        have hz2 : wA.heap.size + 1 ≤ w2.heap.size := by have := hs2.size; simpa using this
        have n2 : Hid _ := (hs2.block w.heap.size (by simp; omega) (fun e => by have := hown _ e; omega)).trans ((Below.heap_alloc wA _ _ hzA).trans nA.out)
        have r2 : Hid _ := (hs2.block q (by simp; omega) (fun e => by have := hown _ e; omega)).trans ((Below.heap_alloc wA _ _ hqA).trans rA.out)
        have p2' : w2.heap[wA.heap.size]? = some (.cells #[iv 0, iv 0, iv 0, iv 0] 42 (0, 0)) := (hs2.block wA.heap.size (by simp) (fun e => by have := hown _ e; omega)).trans (heap_alloc_new wA _)
        have hp2 : Hid _ := p2'
        obtain ⟨s0, s1, s2, s3⟩ := four_cells p2'
        have f0 := row_free p2' 0
        have f1 := row_free p2' 1
        have f2 := row_free p2' 2
        have f3 := row_free p2' 3
        have hpz : wA.heap.size < w2.heap.size := by omega
        clear p2' hs2 d6 q0 q1 q2 q3 q4))
    have hsW : Same (fun x => x = wA.heap.size) w2 ((((w2.setCell (aq wA.heap.size 0) (iv p0)).setCell (aq wA.heap.size 1) (iv p1)).setCell (aq wA.heap.size 2) (iv p2)).setCell (aq wA.heap.size 3) (iv p3)) := same_set4 _ _ _ _ _ _
    have hbc : Below w.heap.size w (wA.alloc (.cells #[iv 0, iv 0, iv 0, iv 0] 42)) := bA.alloc (by omega) _
    have hzc : w.heap.size < (wA.alloc (.cells #[iv 0, iv 0, iv 0, iv 0] 42)).heap.size := by simp; omega
    have hq5 := HQS.out _ w2 _ wA.heap.size (by omega) (by simp) hq2 hsW
    have n5 : Hid _ := (hsW.block w.heap.size (by omega) (by omega)).trans n2.out
    have r5 : Hid _ := (hsW.block q (by omega) (by omega)).trans r2.out
    have p5 : Hid (((((w2.setCell (aq wA.heap.size 0) (iv p0)).setCell (aq wA.heap.size 1) (iv p1)).setCell (aq wA.heap.size 2) (iv p2)).setCell (aq wA.heap.size 3) (iv p3)).heap[wA.heap.size]? = some (.cells #[iv p0, iv p1, iv p2, iv p3] 42 (0, 0))) := Joins.block_setCell (Joins.block_setCell (Joins.block_setCell (Joins.block_setCell hp2.out _) _) _) _
    have hz5 : wA.heap.size < ((((w2.setCell (aq wA.heap.size 0) (iv p0)).setCell (aq wA.heap.size 1) (iv p1)).setCell (aq wA.heap.size 2) (iv p2)).setCell (aq wA.heap.size 3) (iv p3)).heap.size := Nat.lt_of_lt_of_le hpz hsW.size
    clear hsW hp2 s0 s1 s2 s3 f0 f1 f2 f3 n2 r2 hq2 rA nA
    generalize ((((w2.setCell (aq wA.heap.size 0) (iv p0)).setCell (aq wA.heap.size 1) (iv p1)).setCell (aq wA.heap.size 2) (iv p2)).setCell (aq wA.heap.size 3) (iv p3)) = W5 at hq5 n5 r5 p5 hz5 ⊢
    generalize wA.alloc (.cells #[iv 0, iv 0, iv 0, iv 0] 42) = Wc at hbc hzc hq5
    clear hpz hz2
    have hqp : q ≠ wA.heap.size := by omega
    have hwp : w.heap.size ≠ wA.heap.size := by omega
    have hRp : R ≠ wA.heap.size := by omega
    have hRq : R ≠ q := by omega
    have hRs : R ≠ w.heap.size := by omega
    have hws5 : w.heap.size < W5.heap.size := by omega
    have hqs5 : q < W5.heap.size := by omega
    have hRs5 : R < W5.heap.size := by omega
    have hBs5 : B ≤ W5.heap.size := by omega
    clear hzA hqA hRA bA hWA
    generalize wA.heap.size = pb at p5 hz5 hqp hwp hRp ⊢
    obtain ⟨k1, k2, k3, C, hC, C10, C8⟩ := HQ1.out Wc W5 hbc hq5
    have x10 : W5.cell? (aq R 10) = some (.slice a l.length cp) := by rw [Joins.cell_of_block hC]; exact C10
    have x8 : W5.cell? (aq R 8) = some (iv now) := by rw [Joins.cell_of_block hC]; exact C8
    have xt : W5.cell? (aq q 1) = some (iv t) := by rw [Joins.cell_of_block r5.out]; rfl
    obtain ⟨y0, y1, y2, y3⟩ := four_cells p5.out
    have hvR : Value.ownBlock (.slice a l.length cp) ≠ some R := own_type k3 hC (by decide)
    have hvq : Value.ownBlock (.slice a l.length cp) ≠ some q := own_type k3 r5.out (by decide)
    have hvp : Value.ownBlock (.slice a l.length cp) ≠ some pb := own_type k3 p5.out (by decide)
    have hvw : Value.ownBlock (.slice a l.length cp) ≠ some w.heap.size := own_type k3 n5.out (by decide)
    obtain ⟨i0, j0, j1, j2, j3⟩ := info_parts Tryz.infoAnswer
    have hnb : Hid ((W5.alloc (.cells #[.string (strOfNums bs), iv t, iv p0, iv p1, iv p2, iv p3, iv now] 226)).heap[W5.heap.size]? = some (.cells #[.string (strOfNums bs), iv t, iv p0, iv p1, iv p2, iv p3, iv now] 226 (0, 0))) := heap_alloc_new _ _
    have HO5 : Hid (W5.ownsRow B 226 7 (.slice a l.length cp) l.length E) := k3
    have HAE : Hid (∀ w3 g cp' O, w3.ownsRow B 226 7 (.slice (some (aq g 0)) (l.length + 1) cp') (l.length + 1) (E ++ [.string (strOfNums bs), iv t, iv p0, iv p1, iv p2, iv p3, iv now]) → (W5.alloc O).grownBy w3 (Value.ownBlock (.slice a l.length cp)) → (Value.ownBlock (.slice a l.length cp) = some g ∨ g = W5.heap.size + 1) → ansPut W5 (w3.setCell (aq R 10) (.slice (some (aq g 0)) (l.length + 1) cp')) B R (.slice a l.length cp) l.length E [.string (strOfNums bs), iv t, iv p0, iv p1, iv p2, iv p3, iv now]) := fun w3 g cp' O x y z => ans_end hC hvR x y z
    have HSA : Hid (∀ W, Below W5.heap.size W5 W → sliceOf W ba bl bc bs) := fun W hW => sliceOf_below k1 hW
    have HK3 : Hid (∀ w3 O, (W5.alloc O).drew.grownBy w3 (Value.ownBlock (.slice a l.length cp)) → w3.heap[R]? = some (.cells C 164 (0, 0)) ∧ w3.heap[w.heap.size]? = some (.cells #[iv 0, iv 0, iv 0, iv 0] 42 (0, 0)) ∧ w3.cell? (aq q 1) = some (iv t) ∧ w3.heap[pb]? = some (.cells #[iv p0, iv p1, iv p2, iv p3] 42 (0, 0)) ∧ sliceOf w3 ba bl bc bs) := fun w3 O hg => by
     have k3 : ∀ k, k < W5.heap.size → Value.ownBlock (.slice a l.length cp) ≠ some k → w3.heap[k]? = W5.heap[k]? := fun k hk hn => (hg.block k (by simp; omega) (fun e => hn e.symm)).trans (Below.heap_alloc W5 _ k hk)
     have r3 := (k3 q hqs5 hvq).trans r5.out
     have hz3 : W5.heap.size ≤ w3.heap.size := Nat.le_trans (by simp) hg.size
     exact ⟨(k3 R hRs5 hvR).trans hC, (k3 _ hws5 hvw).trans n5.out, by rw [Joins.cell_of_block r3]; rfl, (k3 pb hz5 hvp).trans p5.out, sliceOf_same (own := fun b => Value.ownBlock (.slice a l.length cp) = some b) k1 ⟨hg.os, hg.tape, hg.output, hz3, fun k hk hn => k3 k hk hn⟩ (fun hne b off e => (k2 hne b off e).2)⟩
    have HS4 : Hid (∀ w3 v', sliceOf w3 ba bl bc bs → sliceOf (w3.setCell (aq R 10) v') ba bl bc bs) := fun w3 v' h => sliceOf_same (own := fun b => b = R) h ⟨rfl, rfl, rfl, by simp [World.setCell], fun k _ hn => Below.heap_setCell _ (aq R 10) _ _ hn⟩ (fun hne b off e => (k2 hne b off e).1)
    replace hbc : Hid _ := hbc
    have CC : Hid (C[10]? = some (.slice a l.length cp) ∧ C[8]? = some (iv now)) := ⟨C10, C8⟩
    have KC : Hid _ := hC
    clear k1 k2 k3 C10 C8 hC
    replace hvR : Hid _ := hvR
    replace hvq : Hid _ := hvq
    replace hvp : Hid _ := hvp
    replace hvw : Hid _ := hvw
    refine wp_region_held_drew (S := (fun w' => sliceOf w' ba bl bc bs ∧ w'.cell? (aq q 1) = some (iv t) ∧ w'.cell? (aq pb 0) = some (iv p0) ∧ w'.cell? (aq pb 1) = some (iv p1) ∧ w'.cell? (aq pb 2) = some (iv p2) ∧ w'.cell? (aq pb 3) = some (iv p3) ∧ w'.cell? (aq R 8) = some (iv now))) (by kernel_rfl) (by refine ⟨HSA.out _ bL, ?_⟩; simp [go_sem, *]) (fun hHeld => ?_)
    refine wpAnyH_take (i := 0) (v := ?_) rfl (by kernel_rfl) (by kernel_rfl) (by kernel_rfl) (fun _ _ _ h => h) (Or.inl ⟨by rfl, ?_⟩) (by assumption) ?_
    rotate_left
    ·(intro w_ hSw; (try dsimp only at hSw); go_simp; try with_reducible rfl)
    simp only [Act.put, List.getElem_toArray, List.getElem_cons_zero, List.setIfInBounds_toArray, List.set_cons_zero, List.set_cons_succ]
    refine wpAnyH_take (i := 1) (v := ?_) rfl (by kernel_rfl) (by kernel_rfl) (by kernel_rfl) (fun _ _ _ h => h) (Or.inl ⟨by rfl, ?_⟩) (by assumption) ?_
    rotate_left
    ·(intro w_ hSw; (try dsimp only at hSw); go_simp; try with_reducible rfl)
    simp only [Act.put, lA, lB, lC, lD, lE, lF]
    refine wpAnyH_take (i := 2) (v := ?_) rfl (by kernel_rfl) (by kernel_rfl) (by kernel_rfl) (fun _ _ _ h => h) (Or.inl ⟨by rfl, ?_⟩) (by assumption) ?_
    rotate_left
    ·(intro w_ hSw; (try dsimp only at hSw); go_simp; try with_reducible rfl)
    simp only [Act.put, lA, lB, lC, lD, lE, lF]
    refine wpAnyH_take (i := 3) (v := ?_) rfl (by kernel_rfl) (by kernel_rfl) (by kernel_rfl) (fun _ _ _ h => h) (Or.inl ⟨by rfl, ?_⟩) (by assumption) ?_
    rotate_left
    ·(intro w_ hSw; (try dsimp only at hSw); go_simp; try with_reducible rfl)
    simp only [Act.put, lA, lB, lC, lD, lE, lF]
    refine wpAnyH_take (i := 5) (v := ?_) rfl (by kernel_rfl) (by kernel_rfl) (by kernel_rfl) (fun _ _ _ h => h) (Or.inl ⟨by rfl, ?_⟩) (by assumption) ?_
    rotate_left
    ·(intro w_ hSw; (try dsimp only at hSw); go_simp; try with_reducible rfl)
    simp only [Act.put, lA, lB, lC, lD, lE, lF]
    refine wpAnyH_take (i := 6) (v := ?_) rfl (by kernel_rfl) (by kernel_rfl) (by kernel_rfl) (fun _ _ _ h => h) (Or.inl ⟨by rfl, ?_⟩) (by assumption) ?_
    rotate_left
    ·(intro w_ hSw; have hcv := conv_slice hSw.1; (try dsimp only at hSw); go_simp; try with_reducible rfl)
    simp only [Act.put, lA, lB, lC, lD, lE, lF]
    refine wpAnyH_take (i := 7) (v := ?_) rfl (by kernel_rfl) (by kernel_rfl) (by kernel_rfl) (fun _ _ _ h => h) (Or.inl ⟨by rfl, ?_⟩) (by assumption) ?_
    rotate_left
    ·(intro w_ hSw; (try dsimp only at hSw); go_simp; try with_reducible rfl)
    simp only [Act.put, lA, lB, lC, lD, lE, lF]
    refine wpAnyH_take (i := 8) (v := ?_) rfl (by kernel_rfl) (by kernel_rfl) (by kernel_rfl) (fun _ _ _ h => h) (Or.inl ⟨by rfl, ?_⟩) (by assumption) ?_
    rotate_left
    ·(intro w_ hSw; (try dsimp only at hSw); go_simp; try with_reducible rfl)
    simp only [Act.put, lA, lB, lC, lD, lE, lF]
    refine wpAnyH_take (i := 9) (v := ?_) rfl (by kernel_rfl) (by kernel_rfl) (by kernel_rfl) (fun _ _ _ h => h) (Or.inl ⟨by rfl, ?_⟩) (by assumption) ?_
    rotate_left
    ·(intro w_ hSw; (try dsimp only at hSw); go_simp; try with_reducible rfl)
    simp only [Act.put, lA, lB, lC, lD, lE, lF]
    refine wpAnyH_take (i := 10) (v := ?_) rfl (by kernel_rfl) (by kernel_rfl) (by kernel_rfl) (fun _ _ _ h => h) (Or.inl ⟨by rfl, ?_⟩) (by assumption) ?_
    rotate_left
    ·(intro w_ hSw; (try dsimp only at hSw); go_simp; try with_reducible rfl)
    simp only [Act.put, lA, lB, lC, lD, lE, lF]
    refine wpAnyH_take (i := 11) (v := ?_) rfl (by kernel_rfl) (by kernel_rfl) (by kernel_rfl) (fun _ _ _ h => h) (Or.inl ⟨by rfl, ?_⟩) (by assumption) ?_
    rotate_left
    ·(intro w_ hSw; (try dsimp only at hSw); go_simp; try with_reducible rfl)
    simp only [Act.put, lA, lB, lC, lD, lE, lF]
    refine wpAnyH_take (i := 12) (v := ?_) rfl (by kernel_rfl) (by kernel_rfl) (by kernel_rfl) (fun _ _ _ h => h) (Or.inl ⟨by rfl, ?_⟩) (by assumption) ?_
    rotate_left
    ·(intro w_ hSw; (try dsimp only at hSw); go_simp; try with_reducible rfl)
    simp only [Act.put, lA, lB, lC, lD, lE, lF]
    refine wpAnyH_take (i := 13) (v := ?_) rfl (by kernel_rfl) (by kernel_rfl) (by kernel_rfl) (fun _ _ _ h => h) (Or.inl ⟨by rfl, ?_⟩) (by assumption) ?_
    rotate_left
    ·(intro w_ hSw; (try dsimp only at hSw); go_simp; try with_reducible rfl)
    simp only [Act.put, lA, lB, lC, lD, lE, lF]
    refine wpAnyH_take (i := 14) (v := ?_) rfl (by kernel_rfl) (by kernel_rfl) (by kernel_rfl) (fun _ _ _ h => h) (Or.inl ⟨by rfl, ?_⟩) (by assumption) ?_
    rotate_left
    ·(intro w_ hSw; (try dsimp only at hSw); go_simp; try with_reducible rfl)
    simp only [Act.put, lA, lB, lC, lD, lE, lF]
    refine wpAnyH_ready (rs := [4, 15]) (by kernel_rfl) (by simp) ?_
    refine AllReadyH.cons rfl (fun K hK => ?_) (AllReadyH.cons rfl (fun K hK => ?_) AllReadyH.nil)
    ·go_simp
     refine hK.out _ _ (by (try dsimp only); refine ⟨HSA.out _ bL, ?_⟩; simp [go_sem, *]) (fun hHeld => ?_)
     clear hK K
     refine wpAnyH_ready (rs := [15]) (by kernel_rfl) (by simp) ?_
     refine AllReadyH.cons rfl (fun K hK => ?_) AllReadyH.nil
     go_simp
     refine hK.out _ _ (by (try dsimp only); refine ⟨HSA.out _ bL, ?_⟩; simp [go_sem, *]) (fun hHeld => ?_)
     clear hK K
     refine wpAnyH_ready (rs := [16]) (by kernel_rfl) (by simp) ?_
     refine AllReadyH.cons rfl (fun K hK => ?_) AllReadyH.nil
     refine step_append_lies _ (by rfl) _ _ _ (by rfl) B 226 i0 (.agg #[.string ByteArray.empty, iv 0, iv 0, iv 0, iv 0, iv 0, iv 0]) 7 64 Tryz.underlying162 j0 j1 j2 j3 rfl (by omega) (.slice a l.length cp) l.length E (by rfl) ((show W5.ownsRow B 226 7 (.slice a l.length cp) l.length E from HO5.out).alloc _).drew (aq W5.heap.size 0) 1 1 [.string (strOfNums bs), iv t, iv p0, iv p1, iv p2, iv p3, iv now] (by rfl) (by rfl) (World.news_of_block (cs := #[.string (strOfNums bs), iv t, iv p0, iv p1, iv p2, iv p3, iv now]) (t := 226) (fr := (0, 0)) hnb.out) (by simp [Value.oneCell']) (by omega) (by unfold maxLen; omega) (by omega) (by simp; omega) (W5.heap.size + 1) (by simp) ?_
     intro gg cp' w3 hown3 hgrow hat hlt
     obtain ⟨hR3, n3, g1, gp, gs⟩ := HK3.out w3 _ hgrow
     replace hown3 : Hid _ := hown3
     replace hgrow : Hid _ := hgrow
     replace hat : Hid _ := hat
     replace gs : Hid (sliceOf w3 ba bl bc bs) := gs
     have g10 : w3.cell? (aq R 10) = some (.slice a l.length cp) := by rw [Joins.cell_of_block hR3]; exact CC.out.1
     have g8 : w3.cell? (aq R 8) = some (iv now) := by rw [Joins.cell_of_block hR3]; exact CC.out.2
     have gf := row_free hR3 10
     obtain ⟨z0, z1, z2, z3⟩ := four_cells gp
     have hR3w : R < w3.heap.size := (blt hR3)
     replace hR3 : Hid _ := hR3
     replace n3 : Hid _ := n3
     replace gp : Hid _ := gp
     refine hK.out _ _ (by (try dsimp only); refine ⟨gs.out, ?_⟩; simp [go_sem, *]) (fun hHeld => ?_)
     clear hK K
     refine wpAnyH_take (i := 17) (v := ?_) rfl (by kernel_rfl) (by kernel_rfl) (by kernel_rfl) (fun _ _ _ h => h) (Or.inl ⟨by rfl, ?_⟩) (by assumption) ?_
     rotate_left
     ·(intro w_ hSw; (try dsimp only at hSw); go_simp; try with_reducible rfl)
     simp only [Act.put, lA, lB, lC, lD, lE, lF]
     refine wpAnyH_take (i := 18) (v := ?_) rfl (by kernel_rfl) (by kernel_rfl) (by kernel_rfl) (fun _ _ _ h => h) (Or.inl ⟨by rfl, ?_⟩) (by assumption) ?_
     rotate_left
     ·(intro w_ hSw; (try dsimp only at hSw); go_simp; try with_reducible rfl)
     simp only [Act.put, lA, lB, lC, lD, lE, lF]
     refine wpAnyH_ready (rs := [19]) (by kernel_rfl) (by simp) ?_
     refine AllReadyH.cons rfl (fun K hK => ?_) AllReadyH.nil
     go_simp
     refine hK.out _ _ (by (try dsimp only); refine ⟨HS4.out _ _ gs.out, ?_⟩; simp [go_sem, *]) (fun hHeld => ?_)
     clear hK K
     refine wpAnyH_done (by kernel_rfl) ?_ _
     have HA : Hid (ansPut W5 (w3.setCell (aq R 10) (.slice (some (aq gg 0)) (l.length + 1) cp')) B R (.slice a l.length cp) l.length E [.string (strOfNums bs), iv t, iv p0, iv p1, iv p2, iv p3, iv now]) := HAE.out w3 gg cp' _ hown3.out ⟨hgrow.out.os, hgrow.out.tape, hgrow.out.output, hgrow.out.size, hgrow.out.block⟩ hat.out
     have n6 := (Below.heap_setCell w3 (aq R 10) (.slice (some (aq gg 0)) (l.length + 1) cp') _ (Ne.symm hRs)).trans n3.out
     have p6 := (Below.heap_setCell w3 (aq R 10) (.slice (some (aq gg 0)) (l.length + 1) cp') _ (Ne.symm hRp)).trans gp.out
     clear g10 g8 gf z0 z1 z2 z3 hR3w hR3 n3 gp hown3 hgrow hat hlt g1 gs hHeld x10 x8 xt y0 y1 y2 y3
     generalize w3.setCell (aq R 10) (.slice (some (aq gg 0)) (l.length + 1) cp') = W6 at HA n6 p6 ⊢
     obtain ⟨s0, s1, s2, s3⟩ := four_cells n6
     obtain ⟨y0, y1, y2, y3⟩ := four_cells p6
     have f0 := row_free n6 0
     have f1 := row_free n6 1
     have f2 := row_free n6 2
     have f3 := row_free n6 3
     have hz6 : w.heap.size < W6.heap.size := (blt n6)
     have hp6 : pb < W6.heap.size := (blt p6)
     clear n6 p6
     go_wp2
     refine bodyPost_ret (v := .agg #[iv p0, iv p1, iv p2, iv p3]) (by simp [results, Tryz.results121, go_sem, s0, s1, s2, s3]) rfl ⟨rfl, Wc, W5, W6, hq5, hbc.out, hzc, hws5, HA.out, ?_⟩
     exact same_set4 _ _ _ _ _ _
    ·go_simp
     refine hK.out _ _ (by (try dsimp only); refine ⟨HSA.out _ bL, ?_⟩; simp [go_sem, *]) (fun hHeld => ?_)
     clear hK K
     refine wpAnyH_ready (rs := [4]) (by kernel_rfl) (by simp) ?_
     refine AllReadyH.cons rfl (fun K hK => ?_) AllReadyH.nil
     go_simp
     refine hK.out _ _ (by (try dsimp only); refine ⟨HSA.out _ bL, ?_⟩; simp [go_sem, *]) (fun hHeld => ?_)
     clear hK K
     refine wpAnyH_ready (rs := [16]) (by kernel_rfl) (by simp) ?_
     refine AllReadyH.cons rfl (fun K hK => ?_) AllReadyH.nil
     refine step_append_lies _ (by rfl) _ _ _ (by rfl) B 226 i0 (.agg #[.string ByteArray.empty, iv 0, iv 0, iv 0, iv 0, iv 0, iv 0]) 7 64 Tryz.underlying162 j0 j1 j2 j3 rfl (by omega) (.slice a l.length cp) l.length E (by rfl) ((show W5.ownsRow B 226 7 (.slice a l.length cp) l.length E from HO5.out).alloc _).drew (aq W5.heap.size 0) 1 1 [.string (strOfNums bs), iv t, iv p0, iv p1, iv p2, iv p3, iv now] (by rfl) (by rfl) (World.news_of_block (cs := #[.string (strOfNums bs), iv t, iv p0, iv p1, iv p2, iv p3, iv now]) (t := 226) (fr := (0, 0)) hnb.out) (by simp [Value.oneCell']) (by omega) (by unfold maxLen; omega) (by omega) (by simp; omega) (W5.heap.size + 1) (by simp) ?_
     intro gg cp' w3 hown3 hgrow hat hlt
     obtain ⟨hR3, n3, g1, gp, gs⟩ := HK3.out w3 _ hgrow
     replace hown3 : Hid _ := hown3
     replace hgrow : Hid _ := hgrow
     replace hat : Hid _ := hat
     replace gs : Hid (sliceOf w3 ba bl bc bs) := gs
     have g10 : w3.cell? (aq R 10) = some (.slice a l.length cp) := by rw [Joins.cell_of_block hR3]; exact CC.out.1
     have g8 : w3.cell? (aq R 8) = some (iv now) := by rw [Joins.cell_of_block hR3]; exact CC.out.2
     have gf := row_free hR3 10
     obtain ⟨z0, z1, z2, z3⟩ := four_cells gp
     have hR3w : R < w3.heap.size := (blt hR3)
     replace hR3 : Hid _ := hR3
     replace n3 : Hid _ := n3
     replace gp : Hid _ := gp
     refine hK.out _ _ (by (try dsimp only); refine ⟨gs.out, ?_⟩; simp [go_sem, *]) (fun hHeld => ?_)
     clear hK K
     refine wpAnyH_take (i := 17) (v := ?_) rfl (by kernel_rfl) (by kernel_rfl) (by kernel_rfl) (fun _ _ _ h => h) (Or.inl ⟨by rfl, ?_⟩) (by assumption) ?_
     rotate_left
     ·(intro w_ hSw; (try dsimp only at hSw); go_simp; try with_reducible rfl)
     simp only [Act.put, lA, lB, lC, lD, lE, lF]
     refine wpAnyH_take (i := 18) (v := ?_) rfl (by kernel_rfl) (by kernel_rfl) (by kernel_rfl) (fun _ _ _ h => h) (Or.inl ⟨by rfl, ?_⟩) (by assumption) ?_
     rotate_left
     ·(intro w_ hSw; (try dsimp only at hSw); go_simp; try with_reducible rfl)
     simp only [Act.put, lA, lB, lC, lD, lE, lF]
     refine wpAnyH_ready (rs := [19]) (by kernel_rfl) (by simp) ?_
     refine AllReadyH.cons rfl (fun K hK => ?_) AllReadyH.nil
     go_simp
     refine hK.out _ _ (by (try dsimp only); refine ⟨HS4.out _ _ gs.out, ?_⟩; simp [go_sem, *]) (fun hHeld => ?_)
     clear hK K
     refine wpAnyH_done (by kernel_rfl) ?_ _
     have HA : Hid (ansPut W5 (w3.setCell (aq R 10) (.slice (some (aq gg 0)) (l.length + 1) cp')) B R (.slice a l.length cp) l.length E [.string (strOfNums bs), iv t, iv p0, iv p1, iv p2, iv p3, iv now]) := HAE.out w3 gg cp' _ hown3.out ⟨hgrow.out.os, hgrow.out.tape, hgrow.out.output, hgrow.out.size, hgrow.out.block⟩ hat.out
     have n6 := (Below.heap_setCell w3 (aq R 10) (.slice (some (aq gg 0)) (l.length + 1) cp') _ (Ne.symm hRs)).trans n3.out
     have p6 := (Below.heap_setCell w3 (aq R 10) (.slice (some (aq gg 0)) (l.length + 1) cp') _ (Ne.symm hRp)).trans gp.out
     clear g10 g8 gf z0 z1 z2 z3 hR3w hR3 n3 gp hown3 hgrow hat hlt g1 gs hHeld x10 x8 xt y0 y1 y2 y3
     generalize w3.setCell (aq R 10) (.slice (some (aq gg 0)) (l.length + 1) cp') = W6 at HA n6 p6 ⊢
     obtain ⟨s0, s1, s2, s3⟩ := four_cells n6
     obtain ⟨y0, y1, y2, y3⟩ := four_cells p6
     have f0 := row_free n6 0
     have f1 := row_free n6 1
     have f2 := row_free n6 2
     have f3 := row_free n6 3
     have hz6 : w.heap.size < W6.heap.size := (blt n6)
     have hp6 : pb < W6.heap.size := (blt p6)
     clear n6 p6
     go_wp2
     refine bodyPost_ret (v := .agg #[iv p0, iv p1, iv p2, iv p3]) (by simp [results, Tryz.results121, go_sem, s0, s1, s2, s3]) rfl ⟨rfl, Wc, W5, W6, hq5, hbc.out, hzc, hws5, HA.out, ?_⟩
     exact same_set4 _ _ _ _ _ _
section
def Sal.doS (S : Sal) (r : Req) : Rep × Sal := if r.kind = 1 then S.ask r else if r.kind = 2 then S.confirm r else S.cancel r
def Sal.used (S : Sal) (t : Int) : Option Ans := S.ansL.find? (fun a => S.remem a && a.token == t)
def Sal.send (S : Sal) (bs : List Int) (r : Req) (err : Int) : Rep × Sal :=
 if err ≠ 0 then (⟨1, 0, 0, 0⟩, S)
 else if r.kind = 4 then (S.poll r, S)
 else match S.used r.token with
  | some a => if a.frame = strOfNums bs then (a.rep, S) else (⟨10, 0, 0, 0⟩, S)
  | none =>
    if (S.answers : Int) = S.C.tokens then (⟨11, 0, 0, 0⟩, S)
    else ((S.doS r).1, { (S.doS r).2 with ansL := (S.doS r).2.ansL ++ [⟨strOfNums bs, r.token, (S.doS r).1, S.now⟩] })
def sendAns (w w' : World) (B R : Nat) (S' : Sal) (ap : Option Addr) (lp cp : Nat) (vo va : Value) : Prop :=
 ∃ vo' va', saleAt w' B R S' ap lp cp vo' va' ∧ salI S' ∧ Same (fun b => b = R ∨ vo.ownBlock = some b ∨ va.ownBlock = some b) w w' ∧ (∀ k, vo'.ownBlock = some k → vo.ownBlock = some k ∨ w.heap.size ≤ k) ∧ ∀ k, va'.ownBlock = some k → va.ownBlock = some k ∨ w.heap.size ≤ k
theorem promoteN_keep : ∀ (n : Nat) (S : Sal), (promoteN n S).C = S.C ∧ (promoteN n S).now = S.now ∧ (promoteN n S).ansL = S.ansL
 | 0, _ => ⟨rfl, rfl, rfl⟩
 | n + 1, S => by
   unfold promoteN
   split
   ·exact ⟨rfl, rfl, rfl⟩
   ·split
    ·exact ⟨rfl, rfl, rfl⟩
    ·exact promoteN_keep n _
theorem promote_keep (S : Sal) : S.promote.C = S.C ∧ S.promote.now = S.now ∧ S.promote.ansL = S.ansL := promoteN_keep _ S
theorem drainS_keep : ∀ (qs : List Nat) (S : Sal), (drainS S qs).C = S.C ∧ (drainS S qs).now = S.now ∧ (drainS S qs).ansL = S.ansL
 | [], _ => ⟨rfl, rfl, rfl⟩
 | q :: qs, S => by
   have e : drainS S (q :: qs) = drainS (if S.left < (S.os.getD q ord0).units then S.ends q 18 else S) qs := rfl
   rw [e]
   split
   ·exact drainS_keep qs _
   ·exact drainS_keep qs _
theorem ask_same (S : Sal) (r : Req) : (S.ask r).2.C = S.C ∧ (S.ask r).2.now = S.now ∧ (S.ask r).2.ansL = S.ansL := by
 unfold Sal.ask
 split
 ·exact ⟨rfl, rfl, rfl⟩
 split
 ·exact ⟨rfl, rfl, rfl⟩
 split
 ·exact ⟨rfl, rfl, rfl⟩
 split
 ·exact ⟨rfl, rfl, rfl⟩
 split <;> exact ⟨rfl, rfl, rfl⟩
theorem cancel_same (S : Sal) (r : Req) : (S.cancel r).2.C = S.C ∧ (S.cancel r).2.now = S.now ∧ (S.cancel r).2.ansL = S.ansL := by
 unfold Sal.cancel
 split
 ·exact ⟨rfl, rfl, rfl⟩
 ·split
  ·exact ⟨rfl, rfl, rfl⟩
  ·exact promote_keep _
theorem confirm_same (S : Sal) (r : Req) : (S.confirm r).2.C = S.C ∧ (S.confirm r).2.now = S.now ∧ (S.confirm r).2.ansL = S.ansL := by
 unfold Sal.confirm
 split
 ·exact ⟨rfl, rfl, rfl⟩
 ·next i _ =>
  split
  ·exact ⟨rfl, rfl, rfl⟩
  ·obtain ⟨a, b, c⟩ := promote_keep (drainS (S.ends i 14) (queueS (S.ends i 14).os))
   obtain ⟨d, e, f⟩ := drainS_keep (queueS (S.ends i 14).os) (S.ends i 14)
   exact ⟨a.trans d, b.trans e, c.trans f⟩
theorem doS_same (S : Sal) (r : Req) : (S.doS r).2.C = S.C ∧ (S.doS r).2.now = S.now ∧ (S.doS r).2.ansL = S.ansL := by
 unfold Sal.doS
 split
 ·exact ask_same S r
 split
 ·exact confirm_same S r
 ·exact cancel_same S r
theorem flatA_snoc (l : List Ans) (a : Ans) : flatA (l ++ [a]) = flatA l ++ a.vals := by simp [flatA]
def doAns (w Wc W : World) (B R : Nat) (S' : Sal) (ap : Option Addr) (lp cp : Nat) (vo va : Value) : Prop :=
 ∃ vo', saleAt W B R S' ap lp cp vo' va ∧ salI S' ∧ Same (fun b => b = R ∨ vo.ownBlock = some b) w W ∧ Wc.heap.size ≤ W.heap.size ∧ ∀ k, vo'.ownBlock = some k → vo.ownBlock = some k ∨ Wc.heap.size ≤ k
section
variable {w w' : World} {B R : Nat} {S : Sal} {ap : Option Addr} {lp cp : Nat} {vo va : Value}
theorem sendAns_below (h : saleAt w B R S ap lp cp vo va) (hI : salI S) (hb : Below w.heap.size w w') : sendAns w w' B R S ap lp cp vo va :=
 ⟨vo, va, saleAt_below h hb, hI, Same.of_below hb, fun _ hk => .inl hk, fun _ hk => .inl hk⟩
theorem doAns_fresh {Wc W W' : World} {S' : Sal} {b : Nat} (h : saleAt w B R S ap lp cp vo va) (hBR : B ≤ R) (hb : w.heap.size ≤ b) (hbc : b < Wc.heap.size) (hq : doAns w Wc W B R S' ap lp cp vo va) (hs : Same (fun x => x = b) W W') : doAns w Wc W' B R S' ap lp cp vo va := by
 obtain ⟨vo', a1, a2, a3, a5, a4⟩ := hq
 have hRw : R < w.heap.size := (blt h.blk)
 refine ⟨vo', saleAt_same a1 hs (show R ≠ b by omega) (fun k hk => ?_) (fun k hk => ?_) (fun _ x off e => ?_), a2, Same.trans a3 hs (fun k hk e => e.elim id (fun e => by omega)), Nat.le_trans a5 hs.size, a4⟩
 ·show k ≠ b
  rcases a4 k hk with x | x
  ·have := (World.ownsRow.lt h.os _ x).2; omega
  ·omega
 ·show k ≠ b
  have := (World.ownsRow.lt h.ansL _ hk).2
  omega
 ·show x ≠ b
  have := h.low x off e
  omega
theorem ansPut_sale (h : saleAt w B R S ap lp cp vo va) (hBR : B ≤ R) (a : Ans) {L : List Value} (hL : L = a.vals) (hp : ansPut w w' B R va S.ansL.length (flatA S.ansL) L) :
 ∃ va', saleAt w' B R { S with ansL := S.ansL ++ [a] } ap lp cp vo va' ∧ Same (fun b => b = R ∨ va.ownBlock = some b) w w' ∧ ∀ k, va'.ownBlock = some k → va.ownBlock = some k ∨ w.heap.size ≤ k := by
 obtain ⟨C, g, cap, hC, h1, h2, h3, h4⟩ := hp
 have hb := h.blk
 rw [hC] at hb
 simp only [Option.some.injEq, Obj.cells.injEq, and_true] at hb
 subst hb
 subst hL
 have hRw : R < w.heap.size := (blt hC)
 refine ⟨.slice (some (aq g 0)) (S.ansL.length + 1) cap, ⟨h1, ?_, h.low, ?_, ?_⟩, h3, fun k hk => ?_⟩
 ·refine tiers_same h.tiers h3 (fun b off e => ?_)
  have hlow := h.low b off e
  rintro (e1 | e1)
  ·omega
  ·have := (World.ownsRow.lt h.ansL b e1).1; omega
 ·refine owns_keep h.os (fun k hk => h3.block k (World.ownsRow.lt h.os k hk).2 ?_)
  rintro (e1 | e1)
  ·exact own_type h.os hC (by decide) (e1 ▸ hk)
  ·exact own_apart h hk e1
 ·show w'.ownsRow B 226 7 _ (S.ansL ++ [a]).length (flatA (S.ansL ++ [a]))
  rw [flatA_snoc]
  simpa using h2
 ·have e : g = k := by simpa [Value.ownBlock] using hk
  rw [← e]
  exact h4
theorem do_end {Wc W5 W6 : World} {S1 : Sal} (h : saleAt w B R S ap lp cp vo va) (hBR : B ≤ R) (hn : S1.ansL = S.ansL) (a : Ans) (hq : doAns w Wc W5 B R S1 ap lp cp vo va) (hc : w.heap.size < Wc.heap.size) (hz : w.heap.size < W5.heap.size) (hp : ansPut W5 W6 B R va S.ansL.length (flatA S.ansL) a.vals) (hs : Same (fun x => x = w.heap.size) W6 w') :
 sendAns w w' B R { S1 with ansL := S1.ansL ++ [a] } ap lp cp vo va := by
 obtain ⟨vo', a1, a2, a3, a5, a4⟩ := hq
 have hRw : R < w.heap.size := (blt h.blk)
 obtain ⟨va', b1, b2, b3⟩ := ansPut_sale a1 hBR a rfl (by rw [hn]; exact hp)
 have hI' : salI { S1 with ansL := S1.ansL ++ [a] } := ⟨a2.units, a2.stock, a2.cap, a2.cfg, a2.now, a2.ords, a2.prices⟩
 have zz := a3.size
 refine ⟨vo', va', saleAt_same b1 hs (show R ≠ w.heap.size by omega) (fun k hk => ?_) (fun k hk => ?_) (fun _ x off e => ?_), hI', ?_, fun k hk => (a4 k hk).imp id (fun e => by omega), fun k hk => (b3 k hk).imp id (fun e => by omega)⟩
 ·show k ≠ w.heap.size
  rcases a4 k hk with x | x
  ·have := (World.ownsRow.lt h.os _ x).2; omega
  ·omega
 ·show k ≠ w.heap.size
  rcases b3 k hk with x | x
  ·have := (World.ownsRow.lt h.ansL _ x).2; omega
  ·omega
 ·show x ≠ w.heap.size
  have := h.low x off e
  omega
 ·refine Same.trans (Same.trans a3 b2 (o2 := fun b => b = R ∨ va.ownBlock = some b) (o := fun b => b = R ∨ vo.ownBlock = some b ∨ va.ownBlock = some b) (fun k hk e => ?_)) hs (fun k hk e => e.elim id (fun e => by omega))
  rcases e with (e | e) | (e | e)
  ·exact .inl e
  ·exact .inr (.inl e)
  ·exact .inl e
  ·exact .inr (.inr e)
end
end
section
theorem used_some {S : Sal} {t : Int} {a : Ans} (h : S.used t = some a) : ∃ i, i < S.ansL.length ∧ S.ansL.getD i ans0 = a ∧ S.remem a = true ∧ a.token = t ∧ ∀ j, j < i → ¬ (S.remem (S.ansL.getD j ans0) = true ∧ (S.ansL.getD j ans0).token = t) := by
 unfold Sal.used at h
 obtain ⟨hp, i, hi, e, hf⟩ := List.find?_eq_some_iff_getElem.1 h
 simp only [Bool.and_eq_true, beq_iff_eq] at hp
 refine ⟨i, hi, by simp [List.getD, List.getElem?_eq_getElem hi, e], hp.1, hp.2, fun j hj => ?_⟩
 have := hf j hj
 have hjl : j < S.ansL.length := by omega
 simp only [List.getD, List.getElem?_eq_getElem hjl, Option.getD_some]
 simp only [Bool.not_eq_true', Bool.and_eq_false_iff, beq_eq_false_iff_ne] at this
 rintro ⟨a1, a2⟩
 rcases this with x | x
 ·rw [a1] at x; cases x
 ·exact x a2
theorem used_none {S : Sal} {t : Int} (h : S.used t = none) : ∀ j, j < S.ansL.length → ¬ (S.remem (S.ansL.getD j ans0) = true ∧ (S.ansL.getD j ans0).token = t) := by
 unfold Sal.used at h
 rw [List.find?_eq_none] at h
 intro j hj
 simp only [List.getD, List.getElem?_eq_getElem hj, Option.getD_some]
 rintro ⟨a1, a2⟩
 exact h _ (List.getElem_mem hj) (by simp [a1, a2])
theorem isB_num {k t c u o : Int} (h : isB k t c u o = true) : (k = 1 ∧ 1 ≤ c ∧ 1 ≤ u ∧ u ≤ 4294967296) ∨ ((k = 2 ∨ k = 3) ∧ 1 ≤ o ∧ o ≤ 4294967296) ∨ (k = 4 ∧ 1 ≤ o ∧ o ≤ 4294967296) := by
 unfold isB numB at h
 split at h
 ·next e => simp at h; exact .inl ⟨e, by omega, by omega, by omega⟩
 split at h
 ·next e => simp at h; exact .inr (.inl ⟨e, by omega, by omega⟩)
 split at h
 ·next e => simp at h; exact .inr (.inr ⟨e, by omega, by omega⟩)
 ·cases h
section
variable {w w' : World} {B R : Nat} {S : Sal} {ap : Option Addr} {lp cp : Nat} {vo va : Value}
theorem rsend_sale (h : saleAt w B R S ap lp cp vo va) (hI : salI S) (hBR : B ≤ R) (hcap : S.C.cap ≤ 4294967296) (hqm : 1 ≤ S.C.queue) (hl : S.os.length * 48 + 48 ≤ 140737488351232) (hat : ∀ a ∈ S.ansL, 0 ≤ a.at' ∧ a.at' ≤ 4611686018427387904) (hla : S.ansL.length * 64 + 64 ≤ 140737488355328)
 {ba : Option Addr} {bl bc : Nat} {bs : List Int} (hbs : sliceOf w ba bl bc bs) (hbb : bs ≠ [] → ∀ b off, ba = some (aq b off) → b ≠ R ∧ vo.ownBlock ≠ some b ∧ va.ownBlock ≠ some b)
 {k t c u o err : Int} (hU : UN bs k t c u o err) :
 Calls Tryz.prog 121 #[pt R 0, .slice ba bl bc] w fun e w' => e = .returned (S.send bs ⟨k, t, c, u, o⟩ err).1.val ∧ sendAns w w' B R (S.send bs ⟨k, t, c, u, o⟩ err).2 ap lp cp vo va := by
 have HUP : Hid (∀ W, Below w.heap.size w W → Calls Tryz.prog 73 #[.slice ba bl bc] W fun e w' => e = .returned (.tuple #[.agg #[iv k, iv t, iv c, iv u, iv o], iv err]) ∧ Below W.heap.size W w') := fun W hW => (runpack_any ba bl bc bs W (sliceOf_below hbs hW)).mono (by
  rintro e w' ⟨k', t', c', u', o', e', rfl, hU', hb⟩
  obtain ⟨rfl, rfl, rfl, rfl, rfl, rfl⟩ := un_one hU hU'
  exact ⟨rfl, hb⟩)
 have hRw : R < w.heap.size := (blt h.blk)
 have hBw : B ≤ w.heap.size := by omega
 unfold Sal.send
 by_cases he : err ≠ 0
 ·rw [if_pos he]
  have he2 : err = 2 := by rcases hU with x | x; exact absurd x.1 he; exact x.1
  exact (rsend_bad R bl bc ba k t c u o err w he2 HUP).mono (by rintro e w' ⟨rfl, hb⟩; exact ⟨rfl, sendAns_below h hI hb⟩)
 rw [if_neg he]
 have he0 : err = 0 := Classical.byContradiction he
 have hB : isB k t c u o = true := by
  rcases hU with x | x
  ·exact x.2.1
  ·rw [he0] at x; exact absurd x.1 (by decide)
 subst he0
 have hnum := isB_num hB
 by_cases hk4 : k = 4
 ·rw [if_pos hk4]
  have hor : 1 ≤ o ∧ o ≤ 4294967296 := by rcases hnum with x | x | x <;> omega
  have hp : (S.poll ⟨k, t, c, u, o⟩) = ⟨(S.poll ⟨k, t, c, u, o⟩).kind, (S.poll ⟨k, t, c, u, o⟩).order, (S.poll ⟨k, t, c, u, o⟩).cents, (S.poll ⟨k, t, c, u, o⟩).upto⟩ := rfl
  refine (rsend_poll R bl bc ba k t c u o 0 (S.poll ⟨k, t, c, u, o⟩).kind (S.poll ⟨k, t, c, u, o⟩).order (S.poll ⟨k, t, c, u, o⟩).cents (S.poll ⟨k, t, c, u, o⟩).upto w rfl hk4 HUP (fun W hW => ?_)).mono (by rintro e w' ⟨rfl, hb⟩; exact ⟨rfl, sendAns_below h hI hb⟩)
  have := rpoll_sale (saleAt_below h hW) hI hl ⟨k, t, c, u, o⟩ hor
  subst hk4
  exact this
 rw [if_neg hk4]
 have hk3 : k = 1 ∨ k = 2 ∨ k = 3 := by rcases hnum with x | x | x <;> omega
 obtain ⟨_, _, _, _, _, c5, c6, _, c8, _, c10⟩ := cells11 h.blk
 have hd := anssAt_of h.ansL
 have HR : Hid (∀ a ∈ S.ansL, ∀ W, Below w.heap.size w W → Calls Tryz.prog 147 #[pt R 0, a.val] W fun e w' => e = .returned (.bool (S.remem a)) ∧ Below W.heap.size W w') := fun a ha W hW => by
  obtain ⟨_, _, _, _, _, d5, _, _, d8, _⟩ := cells11 (saleAt_below h hW).blk
  exact rremem_any R S.now S.C.keep a W d8 d5 ⟨hI.now.1, hI.now.2, (hat a ha).1, (hat a ha).2⟩
 have hl64 : S.ansL.length * 64 ≤ 140737488355328 := by omega
 cases hu : S.used (Req.token ⟨k, t, c, u, o⟩) with
 | some a =>
   obtain ⟨i, hi, hg, hr, ht, hf⟩ := used_some hu
   simp only
   refine (rsend_used R bl bc ba k t c u o w hk3 va S.ansL S.remem c10 hd hl64 i hi hf (by rw [hg]; exact hr) (by rw [hg]; exact ht) bs hbs (if a.frame = strOfNums bs then a.rep else ⟨10, 0, 0, 0⟩ : Rep).val (fun e => by rw [hg] at e; rw [if_pos e, hg]) (fun e => by rw [hg] at e; rw [if_neg e]; rfl) HUP HR).mono ?_
   rintro e w' ⟨rfl, hb⟩
   by_cases hfe : a.frame = strOfNums bs
   ·rw [if_pos hfe, if_pos hfe]; exact ⟨rfl, sendAns_below h hI hb⟩
   ·rw [if_neg hfe, if_neg hfe]; exact ⟨rfl, sendAns_below h hI hb⟩
 | none =>
   have hf := used_none hu
   simp only
   have HAN := ranswers_sale h hI hat hl64
   by_cases hm : (S.answers : Int) = S.C.tokens
   ·rw [if_pos hm]
    exact (rsend_full R bl bc ba k t c u o w hk3 va S.ansL S.remem c10 hd hl64 hf _ (by rw [c6, hm]) HUP HR HAN).mono (by rintro e w' ⟨rfl, hb⟩; exact ⟨rfl, sendAns_below h hI hb⟩)
   ·rw [if_neg hm]
    have hown : ∀ b, (b = R ∨ vo.ownBlock = some b) → b < w.heap.size := fun b e => e.elim (fun e => e ▸ hRw) (fun e => (World.ownsRow.lt h.os b e).2)
    obtain ⟨m1, m2, m3⟩ := doS_same S ⟨k, t, c, u, o⟩
    have HQS : Hid (∀ Wc W W' b, w.heap.size ≤ b → b < Wc.heap.size → doAns w Wc W B R (S.doS ⟨k, t, c, u, o⟩).2 ap lp cp vo va → Same (fun x => x = b) W W' → doAns w Wc W' B R (S.doS ⟨k, t, c, u, o⟩).2 ap lp cp vo va) := fun Wc W W' b h1 h2 h3 h4 => doAns_fresh h hBR h1 h2 h3 h4
    have HQ1 : Hid (∀ Wc W, Below w.heap.size w Wc → doAns w Wc W B R (S.doS ⟨k, t, c, u, o⟩).2 ap lp cp vo va → sliceOf W ba bl bc bs ∧ (bs ≠ [] → ∀ b off, ba = some (aq b off) → b ≠ R ∧ Value.ownBlock va ≠ some b) ∧ W.ownsRow B 226 7 va S.ansL.length (flatA S.ansL) ∧ ∃ C, W.heap[R]? = some (.cells C 164 (0, 0)) ∧ C[10]? = some va ∧ C[8]? = some (iv S.now)) := fun Wc W _ hq => by
     obtain ⟨vo', a1, a2, a3, a5, a4⟩ := hq
     refine ⟨sliceOf_same hbs a3 (fun hne b off e => ?_), fun hne b off e => ⟨(hbb hne b off e).1, (hbb hne b off e).2.2⟩, ?_, _, a1.blk, rfl, ?_⟩
     ·rintro (x | x)
      ·exact (hbb hne b off e).1 x
      ·exact (hbb hne b off e).2.1 x
     ·have := a1.ansL
      rw [m3] at this
      exact this
     ·rw [m2]; rfl
    have HD : ∀ W, Below w.heap.size w W → ∀ w', (∃ vo', saleAt w' B R (S.doS ⟨k, t, c, u, o⟩).2 ap lp cp vo' va ∧ salI (S.doS ⟨k, t, c, u, o⟩).2 ∧ Same (fun b => b = R ∨ vo.ownBlock = some b) W w' ∧ ∀ k, vo'.ownBlock = some k → vo.ownBlock = some k ∨ W.heap.size ≤ k) → doAns w W w' B R (S.doS ⟨k, t, c, u, o⟩).2 ap lp cp vo va ∧ Same (fun b => b = R ∨ vo.ownBlock = some b) W w' := fun W hW w' hq => by
     obtain ⟨vo', a1, a2, a3, a4⟩ := hq
     exact ⟨⟨vo', a1, a2, Same.trans (Same.of_below (own := fun _ => False) hW) a3 (fun k _ e => e.elim False.elim id), a3.size, a4⟩, a3⟩
    have hE : (S.doS ⟨k, t, c, u, o⟩).1 = ⟨(S.doS ⟨k, t, c, u, o⟩).1.kind, (S.doS ⟨k, t, c, u, o⟩).1.order, (S.doS ⟨k, t, c, u, o⟩).1.cents, (S.doS ⟨k, t, c, u, o⟩).1.upto⟩ := rfl
    have fin : ∀ w', (∃ Wc W5 W6, doAns w Wc W5 B R (S.doS ⟨k, t, c, u, o⟩).2 ap lp cp vo va ∧ Below w.heap.size w Wc ∧ w.heap.size < Wc.heap.size ∧ w.heap.size < W5.heap.size ∧ ansPut W5 W6 B R va S.ansL.length (flatA S.ansL) [.string (strOfNums bs), iv t, iv (S.doS ⟨k, t, c, u, o⟩).1.kind, iv (S.doS ⟨k, t, c, u, o⟩).1.order, iv (S.doS ⟨k, t, c, u, o⟩).1.cents, iv (S.doS ⟨k, t, c, u, o⟩).1.upto, iv S.now] ∧ Same (fun x => x = w.heap.size) W6 w') → sendAns w w' B R { (S.doS ⟨k, t, c, u, o⟩).2 with ansL := (S.doS ⟨k, t, c, u, o⟩).2.ansL ++ [⟨strOfNums bs, t, (S.doS ⟨k, t, c, u, o⟩).1, S.now⟩] } ap lp cp vo va := by
     rintro w' ⟨Wc, W5, W6, q1, q2, q3, q4, q5, q6⟩
     exact do_end h hBR m3 ⟨strOfNums bs, t, (S.doS ⟨k, t, c, u, o⟩).1, S.now⟩ q1 q3 q4 q5 q6
    refine (rsend_do R bl bc ba k t c u o w hk3 va S.ansL S.remem c10 hd hl64 hf _ _ c6 hm hla B (flatA S.ansL) S.now _ _ _ _ _ hown (fun Wc W => doAns w Wc W B R (S.doS ⟨k, t, c, u, o⟩).2 ap lp cp vo va) bs hBw ⟨fun hk W hW => ?_, fun hk W hW => ?_, fun hk W hW => ?_⟩ HQS HQ1 HUP HR HAN).mono (by rintro e w' ⟨rfl, hq⟩; exact ⟨rfl, fin w' hq⟩)
    ·have hr : 1 ≤ c ∧ 1 ≤ u ∧ u ≤ 4294967296 := by rcases hnum with x | x | x <;> omega
     have e1 : S.doS ⟨k, t, c, u, o⟩ = S.ask ⟨k, t, c, u, o⟩ := by unfold Sal.doS; rw [if_pos hk]
     refine (rask_sale (saleAt_below h hW) hI hBR hcap hqm hl ⟨k, t, c, u, o⟩ hr).mono ?_
     rintro e w' ⟨rfl, vo', a1, a2, a3, a4⟩
     rw [← e1] at a1 a2 ⊢
     exact ⟨rfl, HD W hW w' ⟨vo', a1, a2, a3, fun k hk => (a4 k hk).imp id (fun e => by omega)⟩⟩
    ·have hr : 1 ≤ o ∧ o ≤ 4294967296 := by rcases hnum with x | x | x <;> omega
     have e1 : S.doS ⟨k, t, c, u, o⟩ = S.confirm ⟨k, t, c, u, o⟩ := by unfold Sal.doS; rw [if_neg (by show ¬ k = 1; omega), if_pos hk]
     refine (rconfirm_sale (saleAt_below h hW) hI hl ⟨k, t, c, u, o⟩ hr).mono ?_
     rintro e w' ⟨rfl, a1, a2, a3, a4⟩
     rw [← e1] at a1 a2 ⊢
     exact ⟨rfl, HD W hW w' ⟨vo, a1, a2, Same.trans a4 (Same.of_below (own := fun _ => False) (Below.refl _ _)) (fun k _ e => e.elim .inr False.elim), fun k hk => .inl hk⟩⟩
    ·have hr : 1 ≤ o ∧ o ≤ 4294967296 := by rcases hnum with x | x | x <;> omega
     have e1 : S.doS ⟨k, t, c, u, o⟩ = S.cancel ⟨k, t, c, u, o⟩ := by unfold Sal.doS; rw [if_neg (by show ¬ k = 1; omega), if_neg (by show ¬ k = 2; omega)]
     refine (rcancel_sale (saleAt_below h hW) hI hl ⟨k, t, c, u, o⟩ hr).mono ?_
     rintro e w' ⟨rfl, a1, a2, a3, a4⟩
     rw [← e1] at a1 a2 ⊢
     exact ⟨rfl, HD W hW w' ⟨vo, a1, a2, Same.trans a4 (Same.of_below (own := fun _ => False) (Below.refl _ _)) (fun k _ e => e.elim .inr False.elim), fun k hk => .inl hk⟩⟩
end
end
section
theorem three_cells' {w : World} {R : Nat} {c0 c1 c2 : Value} {T : TypeId} (h : w.heap[R]? = some (.cells #[c0, c1, c2] T (0, 0))) : w.cell? (aq R 0) = some c0 ∧ w.cell? (aq R 1) = some c1 ∧ w.cell? (aq R 2) = some c2 :=
 ⟨by rw [Joins.cell_of_block h]; rfl, by rw [Joins.cell_of_block h]; rfl, by rw [Joins.cell_of_block h]; rfl⟩
theorem raccount_no (R : Nat) (c : Int) (w : World) (hc : numB c = false) :
 Calls Tryz.prog 88 #[pt R 0, iv c] w fun e w' => e = .returned (.tuple #[.agg #[iv 0, iv 0, iv 0], iv 3]) ∧ Below w.heap.size w w' := by
 have HN : Hid (∀ W, Calls Tryz.prog 92 #[iv c] W fun e w' => e = .returned (.bool false) ∧ W = w') := fun W => by
  have := rnumber_any c W
  rw [hc] at this
  exact this
 go_enter Tryz.func88, Tryz.ntmps88
 go_wp2_with (go_at_call 92; refine (HN.out _).mono ?_; rintro e w1 ⟨rfl, rfl⟩)
 refine bodyPost_ret (v := .tuple #[.agg #[iv 0, iv 0, iv 0], iv 3]) (by simp [results, Tryz.results88, go_sem]) rfl ⟨rfl, ?_⟩
 exact bL
theorem raccount_yes (R : Nat) (c a b d : Int) (w : World) (hc : numB c = true)
 (HH : Hid (∀ W, Below w.heap.size w W → Calls Tryz.prog 125 #[pt R 0, iv 13, iv c] W fun e w' => e = .returned (iv a) ∧ Below W.heap.size W w'))
 (HS : Hid (∀ W, Below w.heap.size w W → Calls Tryz.prog 125 #[pt R 0, iv 14, iv c] W fun e w' => e = .returned (iv b) ∧ Below W.heap.size W w'))
 (HW : Hid (∀ W, Below w.heap.size w W → Calls Tryz.prog 125 #[pt R 0, iv 12, iv c] W fun e w' => e = .returned (iv d) ∧ Below W.heap.size W w')) :
 Calls Tryz.prog 88 #[pt R 0, iv c] w fun e w' => e = .returned (.tuple #[.agg #[iv a, iv b, iv d], iv 0]) ∧ Below w.heap.size w w' := by
 have HN : Hid (∀ W, Calls Tryz.prog 92 #[iv c] W fun e w' => e = .returned (.bool true) ∧ W = w') := fun W => by
  have := rnumber_any c W
  rw [hc] at this
  exact this
 go_enter Tryz.func88, Tryz.ntmps88
 go_wp2_with (go_at_call 92; refine (HN.out _).mono ?_; rintro e w1 ⟨rfl, rfl⟩)
 refine (HH.out _ bL).mono ?_
 rintro e w1 ⟨rfl, b1⟩
 have hb1 : Below (w.heap.size + 1) (w.alloc (.cells #[iv 0, iv 0, iv 0] 87)) w1 := b1.mono (by simp)
 have w01 : Below w.heap.size w w1 := Below.trans ((Below.refl _ _).alloc (Nat.le_refl _) _) (hb1.mono (by omega))
 go_wp2_with fail
 refine (HS.out _ w01).mono ?_
 rintro e w2 ⟨rfl, b2⟩
 have z1 : w.heap.size + 1 ≤ w1.heap.size := by have := hb1.size; simpa using this
 have hb2 : Below (w.heap.size + 1) (w.alloc (.cells #[iv 0, iv 0, iv 0] 87)) w2 := hb1.trans (b2.mono z1)
 have w02 : Below w.heap.size w w2 := w01.trans (b2.mono (by omega))
 have z2 := b2.size
 go_wp2_with fail
 refine (HW.out _ w02).mono ?_
 rintro e w3 ⟨rfl, b3⟩
 have hb3 : Below (w.heap.size + 1) (w.alloc (.cells #[iv 0, iv 0, iv 0] 87)) w3 := hb2.trans (b3.mono (by omega))
 have w03 : Below w.heap.size w w3 := w02.trans (b3.mono (by omega))
 have n0 := (hb3.block w.heap.size (by omega)).trans (heap_alloc_new w _)
 obtain ⟨s0, s1, s2⟩ := three_cells' n0
 have f0 := row_free n0 0
 have f1 := row_free n0 1
 have f2 := row_free n0 2
 clear b1 b2 b3 hb1 hb2 hb3 n0
 go_wp2
 refine bodyPost_ret (v := .tuple #[.agg #[iv a, iv b, iv d], iv 0]) (by simp [results, Tryz.results88, go_sem, s0, s1, s2]) rfl ⟨rfl, ?_⟩
 exact ((w03.setCell (p := (aq w.heap.size 0)) (Nat.le_refl _) _).setCell (p := (aq w.heap.size 1)) (Nat.le_refl _) _).setCell (p := (aq w.heap.size 2)) (Nat.le_refl _) _
def Sal.account (S : Sal) (c : Int) : Int × Int × Int := (unitsS S.os 13 c, unitsS S.os 14 c, unitsS S.os 12 c)
section
variable {w : World} {B R : Nat} {S : Sal} {ap : Option Addr} {lp cp : Nat} {vo va : Value}
theorem raccount_sale (h : saleAt w B R S ap lp cp vo va) (hN : salN S) (c : Int) :
 Calls Tryz.prog 88 #[pt R 0, iv c] w fun e w' => e = .returned (.tuple (if numB c then #[.agg #[iv (S.account c).1, iv (S.account c).2.1, iv (S.account c).2.2], iv 0] else #[.agg #[iv 0, iv 0, iv 0], iv 3])) ∧ Below w.heap.size w w' := by
 cases hc : numB c with
 | false => exact raccount_no R c w hc
 | true =>
   have hc0 : c ≠ 0 := fun e => by subst e; simp [numB] at hc
   exact raccount_yes R c _ _ _ w hc (runits_sale h hN 13 c (.inl rfl)) (runits_sale h hN 14 c (.inr (.inl rfl))) (runits_sale h hN 12 c (.inr (.inr ⟨rfl, hc0⟩)))
end
theorem rbooks_walk (R n : Nat) (f a b d : Int) (w : World)
 (HQ : Hid (∀ W, Below w.heap.size w W → Calls Tryz.prog 123 #[pt R 0] W fun e w' => ∃ oa oc, e = .returned (.slice oa n oc) ∧ Below W.heap.size W w'))
 (HF : Hid (∀ W, Below w.heap.size w W → Calls Tryz.prog 124 #[pt R 0] W fun e w' => e = .returned (iv f) ∧ Below W.heap.size W w'))
 (HH : Hid (∀ W, Below w.heap.size w W → Calls Tryz.prog 125 #[pt R 0, iv 13, iv 0] W fun e w' => e = .returned (iv a) ∧ Below W.heap.size W w'))
 (HS : Hid (∀ W, Below w.heap.size w W → Calls Tryz.prog 125 #[pt R 0, iv 14, iv 0] W fun e w' => e = .returned (iv b) ∧ Below W.heap.size W w'))
 (HA : Hid (∀ W, Below w.heap.size w W → Calls Tryz.prog 126 #[pt R 0] W fun e w' => e = .returned (iv d) ∧ Below W.heap.size W w')) :
 Calls Tryz.prog 87 #[pt R 0] w fun e w' => e = .returned (.agg #[iv f, iv a, iv b, iv n, iv d]) ∧ Below w.heap.size w w' := by
 go_enter Tryz.func87, Tryz.ntmps87
 go_wp2_with fail
 refine (HQ.out _ bL).mono ?_
 rintro e w1 ⟨oa, oc, rfl, b1⟩
 have hb1 : Below (w.heap.size + 1) (w.alloc (.cells #[iv 0, iv 0, iv 0, iv 0, iv 0] 78)) w1 := b1.mono (by simp)
 have w01 : Below w.heap.size w w1 := Below.trans ((Below.refl _ _).alloc (Nat.le_refl _) _) (hb1.mono (by omega))
 have z1 : w.heap.size + 1 ≤ w1.heap.size := by have := hb1.size; simpa using this
 go_wp2_with fail
 refine (HF.out _ w01).mono ?_
 rintro e w2 ⟨rfl, b2⟩
 have hb2 : Below (w.heap.size + 1) (w.alloc (.cells #[iv 0, iv 0, iv 0, iv 0, iv 0] 78)) w2 := hb1.trans (b2.mono (by omega))
 have w02 : Below w.heap.size w w2 := w01.trans (b2.mono (by omega))
 have z2 := b2.size
 go_wp2_with fail
 refine (HH.out _ w02).mono ?_
 rintro e w3 ⟨rfl, b3⟩
 have hb3 : Below (w.heap.size + 1) (w.alloc (.cells #[iv 0, iv 0, iv 0, iv 0, iv 0] 78)) w3 := hb2.trans (b3.mono (by omega))
 have w03 : Below w.heap.size w w3 := w02.trans (b3.mono (by omega))
 have z3 := b3.size
 go_wp2_with fail
 refine (HS.out _ w03).mono ?_
 rintro e w4 ⟨rfl, b4⟩
 have hb4 : Below (w.heap.size + 1) (w.alloc (.cells #[iv 0, iv 0, iv 0, iv 0, iv 0] 78)) w4 := hb3.trans (b4.mono (by omega))
 have w04 : Below w.heap.size w w4 := w03.trans (b4.mono (by omega))
 have z4 := b4.size
 go_wp2_with fail
 refine (HA.out _ w04).mono ?_
 rintro e w5 ⟨rfl, b5⟩
 have hb5 : Below (w.heap.size + 1) (w.alloc (.cells #[iv 0, iv 0, iv 0, iv 0, iv 0] 78)) w5 := hb4.trans (b5.mono (by omega))
 have w05 : Below w.heap.size w w5 := w04.trans (b5.mono (by omega))
 have z5 := b5.size
 have n0 := (hb5.block w.heap.size (by omega)).trans (heap_alloc_new w _)
 have s0 : w5.cell? (aq w.heap.size 0) = some (iv 0) := by rw [Joins.cell_of_block n0]; rfl
 have s1 : w5.cell? (aq w.heap.size 1) = some (iv 0) := by rw [Joins.cell_of_block n0]; rfl
 have s2 : w5.cell? (aq w.heap.size 2) = some (iv 0) := by rw [Joins.cell_of_block n0]; rfl
 have s3 : w5.cell? (aq w.heap.size 3) = some (iv 0) := by rw [Joins.cell_of_block n0]; rfl
 have s4 : w5.cell? (aq w.heap.size 4) = some (iv 0) := by rw [Joins.cell_of_block n0]; rfl
 have f0 := row_free n0 0
 have f1 := row_free n0 1
 have f2 := row_free n0 2
 have f3 := row_free n0 3
 have f4 := row_free n0 4
 clear b1 b2 b3 b4 b5 hb1 hb2 hb3 hb4 hb5 n0
 go_wp2
 refine bodyPost_ret (v := .agg #[iv f, iv a, iv b, iv n, iv d]) (by simp [results, Tryz.results87, go_sem, s0, s1, s2, s3, s4]) rfl ⟨rfl, ?_⟩
 exact ((((w05.setCell (p := (aq w.heap.size 0)) (Nat.le_refl _) _).setCell (p := (aq w.heap.size 1)) (Nat.le_refl _) _).setCell (p := (aq w.heap.size 2)) (Nat.le_refl _) _).setCell (p := (aq w.heap.size 3)) (Nat.le_refl _) _).setCell (p := (aq w.heap.size 4)) (Nat.le_refl _) _
section
variable {w : World} {B R : Nat} {S : Sal} {ap : Option Addr} {lp cp : Nat} {vo va : Value}
theorem rbooks_sale (h : saleAt w B R S ap lp cp vo va) (hI : salI S) (hl : S.os.length * 48 + 48 ≤ 140737488351232) (hat : ∀ a ∈ S.ansL, 0 ≤ a.at' ∧ a.at' ≤ 4611686018427387904) (hla : S.ansL.length * 64 ≤ 140737488355328) :
 Calls Tryz.prog 87 #[pt R 0] w fun e w' => e = .returned (.agg #[iv S.free, iv (unitsS S.os 13 0), iv (unitsS S.os 14 0), iv (queueS S.os).length, iv S.answers]) ∧ Below w.heap.size w w' := by
 have hN := hI.N hl
 refine rbooks_walk R _ _ _ _ _ w (fun W hW => (rqueue_sale h hN W hW).mono ?_) (rfree_sale h hN) (runits_sale h hN 13 0 (.inl rfl)) (runits_sale h hN 14 0 (.inr (.inl rfl))) (ranswers_sale h hI hat hla)
 rintro e w' ⟨out, rfl, ho, hb⟩
 obtain ⟨oa, oc, rfl⟩ := own_slice ho
 exact ⟨oa, oc, rfl, hb⟩
end
end
end Go.Proofs.YtfhncfghblkgeaaGreat
