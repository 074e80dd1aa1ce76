import Derived.Test.YtfhncfghblkgeabGreatL08
import Derived.Test.YtfhncfghblkgeabGreatL27
import Derived.Test.YtfhncfghblkgeabGreatL28
set_option maxRecDepth 100000
set_option maxHeartbeats 2000000
namespace Go.Proofs.YtfhncfghblkgeabGreat
open Go.RowKit
def POrd.cells (p : POrd) : Array Value := #[iv p.num, iv p.cust, iv p.units, iv p.st, iv p.cents, iv p.upto]
def loopI {σ : Type} (P : σ → World → (Nat → Prop) → Prop) (Inv : σ → Prop) (fst : σ → Option POrd) (fin : σ → σ) (μ : σ → Nat) (s : σ) (w1 : World) (own : Nat → Prop) (v : Value) (wr : World) (n : Nat) : Prop :=
 ∃ s', Inv s' ∧ μ s' = n ∧ fin s' = fin s ∧ seenT (P s') w1 own 1 wr ∧ v = .bool (fst s').isSome ∧ wr.heap[w1.heap.size]? = some (.cells ((fst s').getD pord0).cells 142 (0, 0))
theorem six_over {W : World} {b : Nat} {c0 c1 c2 c3 c4 c5 : Value} {T : TypeId} (h : W.heap[b]? = some (.cells #[c0, c1, c2, c3, c4, c5] T (0, 0))) (v0 v1 v2 v3 v4 v5 : Value) : ((((((W.setCell (aq b 0) v0).setCell (aq b 1) v1).setCell (aq b 2) v2).setCell (aq b 3) v3).setCell (aq b 4) v4).setCell (aq b 5) v5).heap[b]? = some (.cells #[v0, v1, v2, v3, v4, v5] T (0, 0)) := by
 have h2 := Joins.block_setCell (i := 0) h v0
 have h3 := Joins.block_setCell (i := 1) h2 v1
 have h4 := Joins.block_setCell (i := 2) h3 v2
 have h5 := Joins.block_setCell (i := 3) h4 v3
 have h6 := Joins.block_setCell (i := 4) h5 v4
 exact Joins.block_setCell (i := 5) h6 v5
theorem promote_walk {σ : Type} (x : Nat) (P : σ → World → (Nat → Prop) → Prop) (KP : ∀ s, Keeps (P s)) (Inv : σ → Prop) (fst : σ → Option POrd) (fr : σ → Int) (nx fin : σ → σ) (μ : σ → Nat) (rv : σ → Value) (cd : σ → POrd → Prop) (hcd : Hid (∀ s p, cd s p ↔ p.units ≤ fr s))
 (hF : Hid (∀ s, Inv s → ∀ W o, P s W o → Calls Tryz.prog 135 #[pt x 0] W fun e w' => e = .returned (.tuple #[((fst s).getD pord0).val, .bool (fst s).isSome]) ∧ Below W.heap.size W w'))
 (hL : Hid (∀ s, Inv s → ∀ W o, P s W o → Calls Tryz.prog 38 #[pt x 0] W fun e w' => e = .returned (iv (fr s)) ∧ Below W.heap.size W w'))
 (hO : Hid (∀ s p, Inv s → fst s = some p → cd s p → ∀ W o, P s W o → Calls Tryz.prog 136 #[pt x 0, p.val] W fun e w' => e = .returned (rv s) ∧ ansP (P (nx s)) W w' o))
 (hN : Hid (∀ s p, Inv s → fst s = some p → cd s p → Inv (nx s) ∧ μ (nx s) < μ s ∧ fin (nx s) = fin s))
 (hE : Hid (∀ s, Inv s → (∀ p, fst s = some p → ¬ cd s p) → fin s = s)) (s : σ) (w : World) (own : Nat → Prop) (hi : Inv s) (h : P s w own) :
 Calls Tryz.prog 104 #[pt x 0] w fun e w' => e = .returned (.tuple #[]) ∧ ansP (P (fin s)) w w' own := by
 have hw := (KP s).lt h
 go_enter Tryz.func104, Tryz.ntmps104
 go_wp2_with fail
 refine (hF.out s hi w own h).mono ?_
 rintro e w1 ⟨rfl, b1⟩
 have h1 : P s w1 own := (KP s).keep h b1.size (fun k e => b1.block k (hw k e))
 have hw1 : Hid (∀ k, own k → k < w1.heap.size) := fun k e => Nat.lt_of_lt_of_le (hw k e) b1.size
 have HFRONT : Hid (∀ s' w', ansP (P s') w1 w' own → ansP (P s') w w' own) := fun s' w' ha => ansP_front b1 ha
 have HI0 : Hid (loopI P Inv fst fin μ s w1 own (.bool (fst s).isSome) (w1.alloc (.cells ((fst s).getD pord0).cells 142)) (μ s)) := ⟨s, hi, rfl, rfl, seen_start (KP s) h1 ((Below.refl _ _).alloc (Nat.le_refl _) _) (by simp), rfl, heap_alloc_new w1 _⟩
 clear h h1 hi hw b1
 unfold POrd.val
 unfold POrd.cells at HI0
 generalize (fst s).getD pord0 = p0 at HI0 ⊢
 generalize (fst s).isSome = b0 at HI0 ⊢
 go_wp2_with fail
 go_loopw [3] (fun v wr => ∃ n, loopI P Inv fst fin μ s w1 own v wr n) (fun v wr => fuel (loopI P Inv fst fin μ s w1 own v wr))
 case atStart => exact ⟨_, HI0.out⟩
 case round =>
  have hfu := fuel_at hrel
  obtain ⟨s', i1, i2, i3, hT, rfl, ob⟩ := hfu
  replace hT : Hid _ := hT
  replace i1 : Hid _ := i1
  have ob : Hid _ := ob
  have HM : Hid (∀ v' w' m, loopI P Inv fst fin μ s w1 own v' w' m → m < μ s' → (∃ n, loopI P Inv fst fin μ s w1 own v' w' n) ∧ fuel (loopI P Inv fst fin μ s w1 own v' w') < fuel (loopI P Inv fst fin μ s w1 own (.bool (fst s').isSome) wr)) := fun v' w' m h1 h2 => ⟨⟨m, h1⟩, by rw [← i2]; exact Nat.lt_of_le_of_lt (fuel_le h1) h2⟩
  clear hrel i2
  have HX : Hid (∀ w', seenT (P s') w1 own 1 w' → (∀ p, fst s' = some p → ¬ cd s' p) → ansP (P (fin s)) w w' own) := fun w' h1 h2 => by
   rw [← i3, hE.out s' i1.out h2]
   exact HFRONT.out _ _ (seen_end h1)
  cases hf : fst s' with
  | none =>
    have HX' : Hid (∀ w', seenT (P s') w1 own 1 w' → ansP (P (fin s)) w w' own) := fun w' h1 => HX.out w' h1 (fun p e => by rw [hf] at e; cases e)
    rw [hf] at HM
    clear HX ob HI0
    simp only [Option.isSome_none]
    go_wp2_with fail
    go_quiet (fail)
    go_wp2
    first | go_end0 | refine bodyPost_ret (results_none rfl _ _ _) rfl ?_
    exact ⟨rfl, HX'.out _ (seen_below (KP s') hT.out bL)⟩
  | some p =>
    rw [hf] at HM ob
    simp only [Option.getD_some, POrd.cells, Option.isSome_some] at ob HM ⊢
    obtain ⟨s0, s1, s2, s3, s4, s5⟩ := six_cells ob.out
    have lw : w1.heap.size < wr.heap.size := (blt ob.out)
    have HLs : Hid (∀ W, seenT (P s') w1 own 1 W → Calls Tryz.prog 38 #[pt x 0] W fun e w' => e = .returned (iv (fr s')) ∧ seenT (P s') w1 own 1 w' ∧ ∀ b, w1.heap.size ≤ b → b < w1.heap.size + 1 → w'.heap[b]? = W.heap[b]?) := fun W hW => seen_look (KP s') hw1.out (hL.out s' i1.out) W hW
    by_cases hle : cd s' p
    ·have HOs : Hid (∀ W, seenT (P s') w1 own 1 W → Calls Tryz.prog 136 #[pt x 0, p.val] W fun e w' => e = .returned (rv s') ∧ seenT (P (nx s')) w1 own 1 w' ∧ ∀ b, w1.heap.size ≤ b → b < w1.heap.size + 1 → w'.heap[b]? = W.heap[b]?) := fun W hW => seen_call hw1.out (hO.out s' p i1.out hf hle) W hW
     obtain ⟨n1, n2, n3⟩ := hN.out s' p i1.out hf hle
     have HFs : Hid (∀ W, seenT (P (nx s')) w1 own 1 W → Calls Tryz.prog 135 #[pt x 0] W fun e w' => e = .returned (.tuple #[((fst (nx s')).getD pord0).val, .bool (fst (nx s')).isSome]) ∧ seenT (P (nx s')) w1 own 1 w' ∧ ∀ b, w1.heap.size ≤ b → b < w1.heap.size + 1 → w'.heap[b]? = W.heap[b]?) := fun W hW => seen_look (KP (nx s')) hw1.out (hF.out (nx s') n1) W hW
     have HR : Hid (∀ W', seenT (P (nx s')) w1 own 1 W' → W'.heap[w1.heap.size]? = some (.cells ((fst (nx s')).getD pord0).cells 142 (0, 0)) → (∃ n, loopI P Inv fst fin μ s w1 own (.bool (fst (nx s')).isSome) W' n) ∧ fuel (loopI P Inv fst fin μ s w1 own (.bool (fst (nx s')).isSome) W') < fuel (loopI P Inv fst fin μ s w1 own (.bool true) wr)) := fun W' h1 h2 => HM.out _ W' _ ⟨nx s', n1, rfl, n3.trans i3, h1, rfl, h2⟩ n2
     clear HM HX hO hN hE hF hL n1 n2 n3 i3 HFRONT HI0
     unfold POrd.val at HOs HFs
     unfold POrd.cells at HR
     have hle2 := (hcd.out s' p).1 hle
     clear hcd hle
     have dl : decide (p.units ≤ fr s') = true := by simpa using hle2
     generalize (fst (nx s')).getD pord0 = p1 at HFs HR
     generalize (fst (nx s')).isSome = b1 at HFs HR
     generalize fr s' = fs at HLs hle2 dl
     generalize hP' : P s' = Pa at hT HLs HOs
     have KPa : Keeps Pa := hP' ▸ KP s'
     generalize hPn : P (nx s') = Pb at HOs HFs HR
     have KPb : Keeps Pb := hPn ▸ KP (nx s')
     clear hP' hPn i1 hf
     generalize rv s' = rr at HOs
     go_wp2_with fail
     go_region_held3 (fun w' => w'.cell? (aq w1.heap.size 2) = some (iv p.units)) (simp [go_sem, *])
      (first
        | (go_at_call 38; refine (HLs.out _ (seen_below KPa hT.out bL)).mono ?_; rintro e W1 ⟨rfl, hT1, hk⟩
           have ob1 : Hid _ := (hk _ (Nat.le_refl _) (by omega)).trans ob.out
           obtain ⟨s0', s1', s2', s3', s4', s5'⟩ := six_cells ob1.out
           have lw1 : w1.heap.size < W1.heap.size := (blt ob1.out)
           replace hT1 : Hid _ := hT1
           clear hk))
     clear s0 s1 s2 s3 s4 s5 hT ob lw
     go_wp2_with fail
     refine (HOs.out _ hT1.out).mono ?_
     rintro e W2 ⟨rfl, hT2, hk⟩
     have ob2 : Hid _ := (hk _ (Nat.le_refl _) (by omega)).trans ob1.out
     clear s0' s1' s2' s3' s4' s5' hT1 ob1 lw1 hk
     go_wp2_with fail
     refine (HFs.out _ hT2).mono ?_
     rintro e W3 ⟨rfl, hT3, hk⟩
     have ob3 := (hk _ (Nat.le_refl _) (by omega)).trans ob2.out
     have HS6 := six_over ob3 (iv p1.num) (iv p1.cust) (iv p1.units) (iv p1.st) (iv p1.cents) (iv p1.upto)
     have hT4 : Hid _ := seen_set6 KPb hT3 hw1.out (Nat.le_refl _) (by omega) (iv p1.num) (iv p1.cust) (iv p1.units) (iv p1.st) (iv p1.cents) (iv p1.upto)
     obtain ⟨s0, s1, s2, s3, s4, s5⟩ := six_cells ob3
     have f0 := row_free ob3 0
     have f1 := row_free ob3 1
     have f2 := row_free ob3 2
     have f3 := row_free ob3 3
     have f4 := row_free ob3 4
     have f5 := row_free ob3 5
     have lw3 : w1.heap.size < W3.heap.size := (blt ob3)
     replace ob3 : Hid _ := ob3
     replace HS6 : Hid _ := HS6
     clear hT2 ob2 hk hT3
     go_wp2
     exact HR.out _ hT4.out HS6.out
    ·have HX' : Hid (∀ w', seenT (P s') w1 own 1 w' → ansP (P (fin s)) w w' own) := fun w' h1 => HX.out w' h1 (fun p' e => by rw [hf] at e; simp only [Option.some.injEq] at e; rw [← e]; exact hle)
     clear HM HX hO hN hE hF hL HFRONT HI0
     have hle2 := fun c => hle ((hcd.out s' p).2 c)
     clear hcd hle
     have dl : decide (p.units ≤ fr s') = false := by simpa using hle2
     generalize fr s' = fs at HLs hle2 dl
     generalize hP' : P s' = Pa at hT HLs HX'
     have KPa : Keeps Pa := hP' ▸ KP s'
     clear hP' i1 hf
     go_wp2_with fail
     go_region_held3 (fun w' => w'.cell? (aq w1.heap.size 2) = some (iv p.units)) (simp [go_sem, *])
      (first
        | (go_at_call 38; refine (HLs.out _ (seen_below KPa hT.out bL)).mono ?_; rintro e W1 ⟨rfl, hT1, hk⟩
           have ob1 : Hid _ := (hk _ (Nat.le_refl _) (by omega)).trans ob.out
           obtain ⟨s0', s1', s2', s3', s4', s5'⟩ := six_cells ob1.out
           have lw1 : w1.heap.size < W1.heap.size := (blt ob1.out)
           replace hT1 : Hid _ := hT1
           clear hk))
     clear s0 s1 s2 s3 s4 s5 hT ob lw
     go_wp2
     first | go_end0 | refine bodyPost_ret (results_none rfl _ _ _) rfl ?_
     exact ⟨rfl, HX'.out _ (seen_below KPa hT1.out bL)⟩
theorem drain_walk {σ : Type} (x : Nat) (P : σ → World → (Nat → Prop) → Prop) (KP : ∀ s, Keeps (P s)) (Inv : σ → Prop) (fst : σ → Option POrd) (fr : σ → Int) (nx fin : σ → σ) (μ : σ → Nat) (rv : σ → Value) (cd : σ → POrd → Prop) (hcd : Hid (∀ s p, cd s p ↔ fr s < p.units))
 (hF : Hid (∀ s, Inv s → ∀ W o, P s W o → Calls Tryz.prog 157 #[pt x 0] W fun e w' => e = .returned (.tuple #[((fst s).getD pord0).val, .bool (fst s).isSome]) ∧ Below W.heap.size W w'))
 (hL : Hid (∀ s, Inv s → ∀ W o, P s W o → Calls Tryz.prog 126 #[pt x 0] W fun e w' => e = .returned (iv (fr s)) ∧ Below W.heap.size W w'))
 (hO : Hid (∀ s p, Inv s → fst s = some p → cd s p → ∀ W o, P s W o → Calls Tryz.prog 129 #[pt x 0, p.val, iv 18] W fun e w' => e = .returned (rv s) ∧ ansP (P (nx s)) W w' o))
 (hN : Hid (∀ s p, Inv s → fst s = some p → cd s p → Inv (nx s) ∧ μ (nx s) < μ s ∧ fin (nx s) = fin s))
 (hE : Hid (∀ s, Inv s → (∀ p, fst s = some p → ¬ cd s p) → fin s = s)) (s : σ) (w : World) (own : Nat → Prop) (hi : Inv s) (h : P s w own) :
 Calls Tryz.prog 130 #[pt x 0] w fun e w' => e = .returned (.tuple #[]) ∧ ansP (P (fin s)) w w' own := by
 have hw := (KP s).lt h
 go_enter Tryz.func130, Tryz.ntmps130
 go_wp2_with fail
 refine (hF.out s hi w own h).mono ?_
 rintro e w1 ⟨rfl, b1⟩
 have h1 : P s w1 own := (KP s).keep h b1.size (fun k e => b1.block k (hw k e))
 have hw1 : Hid (∀ k, own k → k < w1.heap.size) := fun k e => Nat.lt_of_lt_of_le (hw k e) b1.size
 have HFRONT : Hid (∀ s' w', ansP (P s') w1 w' own → ansP (P s') w w' own) := fun s' w' ha => ansP_front b1 ha
 have HI0 : Hid (loopI P Inv fst fin μ s w1 own (.bool (fst s).isSome) (w1.alloc (.cells ((fst s).getD pord0).cells 142)) (μ s)) := ⟨s, hi, rfl, rfl, seen_start (KP s) h1 ((Below.refl _ _).alloc (Nat.le_refl _) _) (by simp), rfl, heap_alloc_new w1 _⟩
 clear h h1 hi hw b1
 unfold POrd.val
 unfold POrd.cells at HI0
 generalize (fst s).getD pord0 = p0 at HI0 ⊢
 generalize (fst s).isSome = b0 at HI0 ⊢
 go_wp2_with fail
 go_loopw [3] (fun v wr => ∃ n, loopI P Inv fst fin μ s w1 own v wr n) (fun v wr => fuel (loopI P Inv fst fin μ s w1 own v wr))
 case atStart => exact ⟨_, HI0.out⟩
 case round =>
  have hfu := fuel_at hrel
  obtain ⟨s', i1, i2, i3, hT, rfl, ob⟩ := hfu
  replace hT : Hid _ := hT
  replace i1 : Hid _ := i1
  have ob : Hid _ := ob
  have HM : Hid (∀ v' w' m, loopI P Inv fst fin μ s w1 own v' w' m → m < μ s' → (∃ n, loopI P Inv fst fin μ s w1 own v' w' n) ∧ fuel (loopI P Inv fst fin μ s w1 own v' w') < fuel (loopI P Inv fst fin μ s w1 own (.bool (fst s').isSome) wr)) := fun v' w' m h1 h2 => ⟨⟨m, h1⟩, by rw [← i2]; exact Nat.lt_of_le_of_lt (fuel_le h1) h2⟩
  clear hrel i2
  have HX : Hid (∀ w', seenT (P s') w1 own 1 w' → (∀ p, fst s' = some p → ¬ cd s' p) → ansP (P (fin s)) w w' own) := fun w' h1 h2 => by
   rw [← i3, hE.out s' i1.out h2]
   exact HFRONT.out _ _ (seen_end h1)
  cases hf : fst s' with
  | none =>
    have HX' : Hid (∀ w', seenT (P s') w1 own 1 w' → ansP (P (fin s)) w w' own) := fun w' h1 => HX.out w' h1 (fun p e => by rw [hf] at e; cases e)
    rw [hf] at HM
    clear HX ob HI0
    simp only [Option.isSome_none]
    go_wp2_with fail
    go_quiet (fail)
    go_wp2
    first | go_end0 | refine bodyPost_ret (results_none rfl _ _ _) rfl ?_
    exact ⟨rfl, HX'.out _ (seen_below (KP s') hT.out bL)⟩
  | some p =>
    rw [hf] at HM ob
    simp only [Option.getD_some, POrd.cells, Option.isSome_some] at ob HM ⊢
    obtain ⟨s0, s1, s2, s3, s4, s5⟩ := six_cells ob.out
    have lw : w1.heap.size < wr.heap.size := (blt ob.out)
    have HLs : Hid (∀ W, seenT (P s') w1 own 1 W → Calls Tryz.prog 126 #[pt x 0] W fun e w' => e = .returned (iv (fr s')) ∧ seenT (P s') w1 own 1 w' ∧ ∀ b, w1.heap.size ≤ b → b < w1.heap.size + 1 → w'.heap[b]? = W.heap[b]?) := fun W hW => seen_look (KP s') hw1.out (hL.out s' i1.out) W hW
    by_cases hle : cd s' p
    ·have HOs : Hid (∀ W, seenT (P s') w1 own 1 W → Calls Tryz.prog 129 #[pt x 0, p.val, iv 18] W fun e w' => e = .returned (rv s') ∧ seenT (P (nx s')) w1 own 1 w' ∧ ∀ b, w1.heap.size ≤ b → b < w1.heap.size + 1 → w'.heap[b]? = W.heap[b]?) := fun W hW => seen_call hw1.out (hO.out s' p i1.out hf hle) W hW
     obtain ⟨n1, n2, n3⟩ := hN.out s' p i1.out hf hle
     have HFs : Hid (∀ W, seenT (P (nx s')) w1 own 1 W → Calls Tryz.prog 157 #[pt x 0] W fun e w' => e = .returned (.tuple #[((fst (nx s')).getD pord0).val, .bool (fst (nx s')).isSome]) ∧ seenT (P (nx s')) w1 own 1 w' ∧ ∀ b, w1.heap.size ≤ b → b < w1.heap.size + 1 → w'.heap[b]? = W.heap[b]?) := fun W hW => seen_look (KP (nx s')) hw1.out (hF.out (nx s') n1) W hW
     have HR : Hid (∀ W', seenT (P (nx s')) w1 own 1 W' → W'.heap[w1.heap.size]? = some (.cells ((fst (nx s')).getD pord0).cells 142 (0, 0)) → (∃ n, loopI P Inv fst fin μ s w1 own (.bool (fst (nx s')).isSome) W' n) ∧ fuel (loopI P Inv fst fin μ s w1 own (.bool (fst (nx s')).isSome) W') < fuel (loopI P Inv fst fin μ s w1 own (.bool true) wr)) := fun W' h1 h2 => HM.out _ W' _ ⟨nx s', n1, rfl, n3.trans i3, h1, rfl, h2⟩ n2
     clear HM HX hO hN hE hF hL n1 n2 n3 i3 HFRONT HI0
     unfold POrd.val at HOs HFs
     unfold POrd.cells at HR
     have hle2 := (hcd.out s' p).1 hle
     clear hcd hle
     have dl : decide (fr s' < p.units) = true := by simpa using hle2
     generalize (fst (nx s')).getD pord0 = p1 at HFs HR
     generalize (fst (nx s')).isSome = b1 at HFs HR
     generalize fr s' = fs at HLs hle2 dl
     generalize hP' : P s' = Pa at hT HLs HOs
     have KPa : Keeps Pa := hP' ▸ KP s'
     generalize hPn : P (nx s') = Pb at HOs HFs HR
     have KPb : Keeps Pb := hPn ▸ KP (nx s')
     clear hP' hPn i1 hf
     generalize rv s' = rr at HOs
     go_wp2_with fail
     go_region_held3 (fun w' => w'.cell? (aq w1.heap.size 2) = some (iv p.units)) (simp [go_sem, *])
      (first
        | (go_at_call 126; refine (HLs.out _ (seen_below KPa hT.out bL)).mono ?_; rintro e W1 ⟨rfl, hT1, hk⟩
           have ob1 : Hid _ := (hk _ (Nat.le_refl _) (by omega)).trans ob.out
           obtain ⟨s0', s1', s2', s3', s4', s5'⟩ := six_cells ob1.out
           have lw1 : w1.heap.size < W1.heap.size := (blt ob1.out)
           replace hT1 : Hid _ := hT1
           clear hk))
     clear s0 s1 s2 s3 s4 s5 hT ob lw
     go_wp2_with fail
     refine (HOs.out _ hT1.out).mono ?_
     rintro e W2 ⟨rfl, hT2, hk⟩
     have ob2 : Hid _ := (hk _ (Nat.le_refl _) (by omega)).trans ob1.out
     clear s0' s1' s2' s3' s4' s5' hT1 ob1 lw1 hk
     go_wp2_with fail
     refine (HFs.out _ hT2).mono ?_
     rintro e W3 ⟨rfl, hT3, hk⟩
     have ob3 := (hk _ (Nat.le_refl _) (by omega)).trans ob2.out
     have HS6 := six_over ob3 (iv p1.num) (iv p1.cust) (iv p1.units) (iv p1.st) (iv p1.cents) (iv p1.upto)
     have hT4 : Hid _ := seen_set6 KPb hT3 hw1.out (Nat.le_refl _) (by omega) (iv p1.num) (iv p1.cust) (iv p1.units) (iv p1.st) (iv p1.cents) (iv p1.upto)
     obtain ⟨s0, s1, s2, s3, s4, s5⟩ := six_cells ob3
     have f0 := row_free ob3 0
     have f1 := row_free ob3 1
     have f2 := row_free ob3 2
     have f3 := row_free ob3 3
     have f4 := row_free ob3 4
     have f5 := row_free ob3 5
     have lw3 : w1.heap.size < W3.heap.size := (blt ob3)
     replace ob3 : Hid _ := ob3
     replace HS6 : Hid _ := HS6
     clear hT2 ob2 hk hT3
     go_wp2
     exact HR.out _ hT4.out HS6.out
    ·have HX' : Hid (∀ w', seenT (P s') w1 own 1 w' → ansP (P (fin s)) w w' own) := fun w' h1 => HX.out w' h1 (fun p' e => by rw [hf] at e; simp only [Option.some.injEq] at e; rw [← e]; exact hle)
     clear HM HX hO hN hE hF hL HFRONT HI0
     have hle2 := fun c => hle ((hcd.out s' p).2 c)
     clear hcd hle
     have dl : decide (fr s' < p.units) = false := by simpa using hle2
     generalize fr s' = fs at HLs hle2 dl
     generalize hP' : P s' = Pa at hT HLs HX'
     have KPa : Keeps Pa := hP' ▸ KP s'
     clear hP' i1 hf
     go_wp2_with fail
     go_region_held3 (fun w' => w'.cell? (aq w1.heap.size 2) = some (iv p.units)) (simp [go_sem, *])
      (first
        | (go_at_call 126; refine (HLs.out _ (seen_below KPa hT.out bL)).mono ?_; rintro e W1 ⟨rfl, hT1, hk⟩
           have ob1 : Hid _ := (hk _ (Nat.le_refl _) (by omega)).trans ob.out
           obtain ⟨s0', s1', s2', s3', s4', s5'⟩ := six_cells ob1.out
           have lw1 : w1.heap.size < W1.heap.size := (blt ob1.out)
           replace hT1 : Hid _ := hT1
           clear hk))
     clear s0 s1 s2 s3 s4 s5 hT ob lw
     go_wp2
     first | go_end0 | refine bodyPost_ret (results_none rfl _ _ _) rfl ?_
     exact ⟨rfl, HX'.out _ (seen_below KPa hT1.out bL)⟩
section
section
variable {w : World} {x : Nat} {own : Nat → Prop} {S : Sal} {last : Nat} {an : Int}
theorem saleK.put {S : Sal} (h : saleK S) {i : Nat} {o : Ord} (hI : salI (S.put i o)) : saleK (S.put i o) := ⟨hI, by show (S.os.set i o).length ≤ _; simpa using h.len, h.lease, h.wait, h.keep⟩
theorem free_s (h : psx an x S last w own) (hK : saleK S) :
 Calls Tryz.prog 38 #[pt x 0] w fun e w' => e = .returned (iv S.free) ∧ Below w.heap.size w w' := by
 obtain ⟨V, hm, hr, _⟩ := h
 have hB := hr.bounds hK.I hK.len
 have := free_x hm hB.stock hB.sold hB.held
 rw [hr.C, hr.sold, hr.held] at this
 exact this
theorem left_s (h : psx an x S last w own) (hK : saleK S) :
 Calls Tryz.prog 126 #[pt x 0] w fun e w' => e = .returned (iv S.left) ∧ Below w.heap.size w w' := by
 obtain ⟨V, hm, hr, _⟩ := h
 have hB := hr.bounds hK.I hK.len
 have := left_x hm hB.stock hB.sold
 rw [hr.C, hr.sold] at this
 exact this
theorem price_s (h : psx an x S last w own) :
 Calls Tryz.prog 162 #[pt x 0] w fun e w' => e = .returned (iv S.price) ∧ Below w.heap.size w w' := by
 obtain ⟨V, hm, hr, _⟩ := h
 have := price_x hm
 rw [hr.C, hr.sold] at this
 exact this
theorem get_s (h : psx an x S last w own) {i : Nat} (hi : S.knows i) :
 Calls Tryz.prog 95 #[pt x 11, iv ((i : Int) + 1)] w fun e w' => e = .returned (.tuple #[(pordOf S.C i (S.os.getD i ord0)).val, .bool true]) ∧ Below w.heap.size w w' := by
 obtain ⟨V, hm, hr, _⟩ := h
 obtain ⟨j, h1, h2⟩ := hr.known hi
 exact oget_yes_x hm hr.ls.srt h2 h1
theorem get_none_s (h : psx an x S last w own) {num : Int} (hi : ∀ i, S.knows i → num ≠ (i : Int) + 1) :
 Calls Tryz.prog 95 #[pt x 11, iv num] w fun e w' => e = .returned (.tuple #[pord0.val, .bool false]) ∧ Below w.heap.size w w' := by
 obtain ⟨V, hm, hr, _⟩ := h
 exact oget_no_x hm hr.ls.srt (hr.strange hi)
theorem price_hold (S : Sal) {i : Nat} (hi : i < S.os.length) (hs : (S.os.getD i ord0).state ≠ 14) : (S.put i { S.os.getD i ord0 with state := 13 }).price = S.price := by
 unfold Sal.price
 show priceT S.C.prices (unitsS (S.os.set i _) 14 0) _ = _
 rw [units_set hi, part0, part0, if_neg hs, if_neg (show ¬ (13 : Int) = 14 by decide)]
 rw [show unitsS S.os 14 0 - 0 + 0 = unitsS S.os 14 0 by omega]
 rfl
theorem hold_s (h : psx an x S last w own) (hK : saleK S) {i : Nat} (hi : S.knows i) (hs : (S.os.getD i ord0).state = 12) :
 Calls Tryz.prog 136 #[pt x 0, (pordOf S.C i (S.os.getD i ord0)).val] w fun e w' => e = .returned (POrd.val ⟨(i : Int) + 1, (S.os.getD i ord0).cust, (S.os.getD i ord0).units, 13, S.price, S.now + S.C.lease⟩) ∧ ansP (psx an x (S.holds i) last) w w' own := by
 have hw := (keepX an x S last).lt h
 refine hold_w x own (psx an x S last) (psx an x (S.holds i) last) (keepX _ _ _ _) (keepX _ _ _ _) _ _ _ _ _ _ S.price (S.now + S.C.lease) w hw h (fun W hW => seen_look (keepX _ _ _ _) hw (fun W o hp => price_s hp) W hW) (fun W hW => seen_call hw (fun W o hp => ?_) W hW)
 have e : S.holds i = S.put i { S.os.getD i ord0 with state := 13, cents := S.price, upto := S.now + S.C.lease } := by
  unfold Sal.holds
  rw [price_hold S hi.1 (by rw [hs]; decide)]
 rw [e]
 exact move_x hp hK hi ⟨(i : Int) + 1, (S.os.getD i ord0).cust, (S.os.getD i ord0).units, (S.os.getD i ord0).state, S.price, (S.os.getD i ord0).untl S.C⟩ rfl rfl rfl rfl 13 (by decide) _ rfl rfl rfl rfl (by unfold Ord.untl spanS; rw [if_pos (.inr rfl), if_pos rfl])
def Sal.firstW (S : Sal) : Option POrd := match queueS S.os with
 | [] => none
 | q :: _ => some (pordOf S.C q (S.os.getD q ord0))
theorem first_s (h : psx an x S last w own) :
 Calls Tryz.prog 135 #[pt x 0] w fun e w' => e = .returned (.tuple #[(S.firstW.getD pord0).val, .bool S.firstW.isSome]) ∧ Below w.heap.size w w' := by
 have K := keepX an x S last
 have hb : ∀ W, Below w.heap.size w W → psx an x S last W own := fun W hW => K.keep h hW.size (fun k e => hW.block k (K.lt h k e))
 cases hq : queueS S.os with
 | nil =>
   have e : S.firstW = none := by unfold Sal.firstW; rw [hq]
   rw [e]
   refine firstQ_no x 0 w (fun W hW => ?_)
   obtain ⟨V, ⟨g, hm⟩, hr, _⟩ := hb W hW
   have := qfirst_any x 15 g.qt W (hm.cell 15 _ rfl) hm.qt.1
   rw [fstE, hm.qt.2, (turnsQ_none hr.turns).2 hq] at this
   exact this
 | cons q qs =>
   have e : S.firstW = some (pordOf S.C q (S.os.getD q ord0)) := by unfold Sal.firstW; rw [hq]
   obtain ⟨_, h1, h2⟩ := queue_tail hq ord0 (by decide)
   have hk : S.knows q := ⟨h1, .inl (.inl h2)⟩
   rw [e]
   refine firstQ_yes x ((q : Int) + 1) _ _ _ _ _ _ w (fun W hW => ?_) (fun W hW => get_s (hb W hW) hk)
   obtain ⟨V, ⟨g, hm⟩, hr, _⟩ := hb W hW
   have := qfirst_any x 15 g.qt W (hm.cell 15 _ rfl) hm.qt.1
   have hn : V.qt ≠ [] := fun c => by
    have := (turnsQ_none hr.turns).1 c
    rw [hq] at this
    cases this
   rw [fstE, hm.qt.2, turnsQ_first hr.turns hq, decide_eq_true hn] at this
   exact this
theorem promote_s (h : psx an x S last w own) (hK : saleK S) :
 Calls Tryz.prog 104 #[pt x 0] w fun e w' => e = .returned (.tuple #[]) ∧ ansP (psx an x S.promote last) w w' own := by
 have hsome : ∀ (S : Sal) p, S.firstW = some p → ∃ q qs, queueS S.os = q :: qs ∧ p = pordOf S.C q (S.os.getD q ord0) ∧ q < S.os.length ∧ (S.os.getD q ord0).state = 12 := by
  intro S p e
  unfold Sal.firstW at e
  cases hq : queueS S.os with
  | nil => rw [hq] at e; cases e
  | cons q qs =>
    rw [hq] at e
    simp only [Option.some.injEq] at e
    obtain ⟨_, h1, h2⟩ := queue_tail hq ord0 (by decide)
    exact ⟨q, qs, rfl, e.symm, h1, h2⟩
 refine promote_walk x (fun S => psx an x S last) (fun S => keepX an x S last) saleK Sal.firstW Sal.free (fun S => S.holds ((queueS S.os).headD 0)) Sal.promote (fun S => (queueS S.os).length) (fun S => POrd.val ⟨((((queueS S.os).headD 0 : Nat) : Int)) + 1, (S.os.getD ((queueS S.os).headD 0) ord0).cust, (S.os.getD ((queueS S.os).headD 0) ord0).units, 13, S.price, S.now + S.C.lease⟩) (fun S p => p.units ≤ S.free) (fun _ _ => Iff.rfl) (fun S _ W o hp => first_s hp) (fun S hK W o hp => free_s hp hK) (fun S p hK e hle W o hp => ?_) (fun S p hK e hle => ?_) (fun S hK hle => ?_) S w own hK h
 ·obtain ⟨q, qs, hq, rfl, h1, h2⟩ := hsome S p e
  simp only [hq, List.headD_cons]
  exact hold_s hp hK ⟨h1, .inl (.inl h2)⟩ h2
 ·obtain ⟨q, qs, hq, rfl, h1, h2⟩ := hsome S p e
  have hf : ¬ S.free < (S.os.getD q ord0).units := by
   have : (S.os.getD q ord0).units ≤ S.free := hle
   omega
  simp only [hq, List.headD_cons]
  have hpr : 0 ≤ S.price ∧ S.price ≤ 1073741824 := priceT_bounds hK.I.prices _ _ (Nat.le_refl _)
  have ho := hK.I.ords _ (ord_mem h1)
  refine ⟨hK.put (salI_hold hK.I h1 h2 hf _ rfl rfl rfl ⟨?_, ho.2⟩), ?_, (promote_go hq hf).symm⟩
  ·rw [price_hold S h1 (by rw [h2]; decide)]; exact hpr
  ·rw [holds_queue hq]; simp
 ·cases hq : queueS S.os with
  | nil => exact promote_nil hq
  | cons q qs =>
    refine promote_stop hq ?_
    have := hle (pordOf S.C q (S.os.getD q ord0)) (by unfold Sal.firstW; rw [hq])
    have : ¬ (S.os.getD q ord0).units ≤ S.free := this
    omega
theorem sizes_unique {Z Z' : List Ent} {os : List Ord} (h : sizesOk Z os) (h' : sizesOk Z' os) : Z = Z' := srt_same h.1 h'.1 (fun e => (h.2 e).trans (h'.2 e).symm)
def headI : List Ent → Option Nat
 | [] => none
 | e :: _ => some (e.1.2 - 1).toNat
open Classical in
noncomputable def Sal.greatI (S : Sal) : Option Nat := if h : ∃ Z, sizesOk Z S.os then headI (Classical.choose h) else none
noncomputable def Sal.greatW (S : Sal) : Option POrd := S.greatI.map (fun q => pordOf S.C q (S.os.getD q ord0))
theorem greatI_of {Z : List Ent} (h : sizesOk Z S.os) : S.greatI = headI Z := by
 unfold Sal.greatI
 have hx : ∃ Z, sizesOk Z S.os := ⟨Z, h⟩
 rw [dif_pos hx, sizes_unique (Classical.choose_spec hx) h]
theorem great_spec {Z : List Ent} (h : sizesOk Z S.os) : (queueS S.os = [] ∧ Z = [] ∧ S.greatI = none) ∨ ∃ i, S.greatI = some i ∧ Z ≠ [] ∧ i < S.os.length ∧ (S.os.getD i ord0).state = 12 ∧ Z.headD ((0, 0), 0) = ((-(S.os.getD i ord0).units, (i : Int) + 1), 0) ∧ ∀ j, j < S.os.length → (S.os.getD j ord0).state = 12 → (S.os.getD j ord0).units ≤ (S.os.getD i ord0).units := by
 by_cases hz : Z = []
 ·exact .inl ⟨(sizesQ_none h).1 hz, hz, by rw [greatI_of h, hz]; rfl⟩
 ·obtain ⟨i, a, b, c, d⟩ := sizesQ_first h hz
  refine .inr ⟨i, ?_, hz, a, b, c, d⟩
  rw [greatI_of h]
  cases Z with
  | nil => exact absurd rfl hz
  | cons e l =>
    have c' : e = ((-(S.os.getD i ord0).units, (i : Int) + 1), 0) := c
    rw [c']
    simp [headI]
theorem great_s (h : psx an x S last w own) :
 Calls Tryz.prog 157 #[pt x 0] w fun e w' => e = .returned (.tuple #[(S.greatW.getD pord0).val, .bool S.greatW.isSome]) ∧ Below w.heap.size w w' := by
 have K := keepX an x S last
 have hb : ∀ W, Below w.heap.size w W → psx an x S last W own := fun W hW => K.keep h hW.size (fun k e => hW.block k (K.lt h k e))
 obtain ⟨V0, _, hr0, _⟩ := h
 rcases great_spec hr0.sizes with ⟨hq, hz, hg⟩ | ⟨i, hg, hz, h1, h2, h3, _⟩
 ·have e : S.greatW = none := by unfold Sal.greatW; rw [hg]; rfl
  rw [e]
  refine greatQ_no x 0 w (fun W hW => ?_)
  obtain ⟨V, ⟨g, hm⟩, hr, _⟩ := hb W hW
  have := qgreatest_any x 15 g.qz W (hm.cell 17 _ rfl) hm.qz.1
  rw [fstE, hm.qz.2, (sizesQ_none hr.sizes).2 hq] at this
  exact this
 ·have e : S.greatW = some (pordOf S.C i (S.os.getD i ord0)) := by unfold Sal.greatW; rw [hg]; rfl
  have hk : S.knows i := ⟨h1, .inl (.inl h2)⟩
  rw [e]
  refine greatQ_yes x ((i : Int) + 1) _ _ _ _ _ _ w (fun W hW => ?_) (fun W hW => get_s (hb W hW) hk)
  obtain ⟨V, ⟨g, hm⟩, hr, _⟩ := hb W hW
  have := qgreatest_any x 15 g.qz W (hm.cell 17 _ rfl) hm.qz.1
  have hv : V.qz = V0.qz := sizes_unique hr.sizes hr0.sizes
  rw [fstE, hm.qz.2, hv, h3, decide_eq_true hz] at this
  exact this
theorem ends_s (h : psx an x S last w own) (hK : saleK S) {i : Nat} (hi : S.knows i) (st : Int) (hst : st ≠ 12 ∧ st ≠ 13) :
 Calls Tryz.prog 129 #[pt x 0, (pordOf S.C i (S.os.getD i ord0)).val, iv st] w fun e w' => e = .returned (POrd.val ⟨(i : Int) + 1, (S.os.getD i ord0).cust, (S.os.getD i ord0).units, st, (S.os.getD i ord0).cents, S.now + S.C.keep⟩) ∧ ansP (psx an x (S.ends i st) last) w w' own := by
 have hsp : spanS S.C st = S.C.keep := by unfold spanS; rw [if_neg hst.2, if_neg hst.1]
 have := move_x h hK hi (pordOf S.C i (S.os.getD i ord0)) rfl rfl rfl rfl st hst.1 { S.os.getD i ord0 with state := st, ended := S.now } rfl rfl rfl rfl (by rw [hsp]; exact untl_ended (fun c => c.elim hst.1 hst.2))
 rw [hsp] at this
 exact this
theorem saleK.ends {S : Sal} (h : saleK S) {i : Nat} (hi : i < S.os.length) (st : Int) (hst : st = 14 ∨ (st ≠ 12 ∧ st ≠ 13 ∧ st ≠ 14)) (h14 : st = 14 → (S.os.getD i ord0).state = 13) : saleK (S.ends i st) := h.put (salI_end h.I hi st hst h14)
theorem drain_s (h : psx an x S last w own) (hK : saleK S) :
 Calls Tryz.prog 130 #[pt x 0] w fun e w' => e = .returned (.tuple #[]) ∧ ansP (psx an x S.drained last) w w' own := by
 obtain ⟨V0, _, hr0, _⟩ := id h
 have hz0 : ∃ Z, sizesOk Z S.os := ⟨_, hr0.sizes⟩
 clear hr0
 have hsome : ∀ (S : Sal) p, (∃ Z, sizesOk Z S.os) → S.greatW = some p → ∃ q, S.greatI = some q ∧ p = pordOf S.C q (S.os.getD q ord0) ∧ q < S.os.length ∧ (S.os.getD q ord0).state = 12 ∧ ∀ j, j < S.os.length → (S.os.getD j ord0).state = 12 → (S.os.getD j ord0).units ≤ (S.os.getD q ord0).units := by
  rintro S p ⟨Z, hZ⟩ e
  rcases great_spec hZ with ⟨_, _, hg⟩ | ⟨i, hg, _, h1, h2, _, h4⟩
  ·unfold Sal.greatW at e; rw [hg] at e; cases e
  ·unfold Sal.greatW at e
   rw [hg] at e
   simp only [Option.map_some, Option.some.injEq] at e
   exact ⟨i, hg, e.symm, h1, h2, h4⟩
 refine drain_walk x (fun S => psx an x S last) (fun S => keepX an x S last) (fun S => saleK S ∧ ∃ Z, sizesOk Z S.os) Sal.greatW Sal.left (fun S => S.ends (S.greatI.getD 0) 18) Sal.drained (fun S => (queueS S.os).length) (fun S => POrd.val ⟨((S.greatI.getD 0 : Nat) : Int) + 1, (S.os.getD (S.greatI.getD 0) ord0).cust, (S.os.getD (S.greatI.getD 0) ord0).units, 18, (S.os.getD (S.greatI.getD 0) ord0).cents, S.now + S.C.keep⟩) (fun S p => S.left < p.units) (fun _ _ => Iff.rfl) (fun S _ W o hp => great_s hp) (fun S hK W o hp => left_s hp hK.1) (fun S p hK e hle W o hp => ?_) (fun S p hK e hle => ?_) (fun S hK hle => ?_) S w own ⟨hK, hz0⟩ h
 ·obtain ⟨q, hg, rfl, h1, h2, _⟩ := hsome S p hK.2 e
  simp only [hg, Option.getD_some]
  exact ends_s hp hK.1 ⟨h1, .inl (.inl h2)⟩ 18 (by decide)
 ·obtain ⟨q, hg, rfl, h1, h2, _⟩ := hsome S p hK.2 e
  have hlt : S.left < (S.os.getD q ord0).units := hle
  simp only [hg, Option.getD_some]
  obtain ⟨Z, hZ⟩ := hK.2
  refine ⟨⟨hK.1.ends h1 18 (.inr (by decide)) (fun c => absurd c (by decide)), _, sizes_out hZ h1 _ (show (18 : Int) ≠ 12 by decide)⟩, ?_, drained_step h1 h2 hlt⟩
  show (queueS (S.os.set q _)).length < _
  rw [queue_set _ h1 (show (18 : Int) ≠ 12 by decide)]
  refine List.length_filter_lt_length_iff_exists.2 ⟨q, (queueT_mem S.os _ q).2 ⟨h1, h2⟩, by simp⟩
 ·obtain ⟨Z, hZ⟩ := hK.2
  refine drained_stop (fun o ho hs => ?_)
  obtain ⟨j, hj, rfl⟩ := getD_of_mem ho
  rcases great_spec hZ with ⟨hq, _, _⟩ | ⟨i, hg, _, h1, h2, _, h4⟩
  ·have := (queueT_mem S.os _ j).2 ⟨hj, hs⟩
   have hq' : queueT S.os S.os.length = [] := hq
   rw [hq'] at this
   cases this
  ·have := h4 j hj hs
   have h5 := hle (pordOf S.C i (S.os.getD i ord0)) (by unfold Sal.greatW; rw [hg]; rfl)
   have h6 : ¬ S.left < (S.os.getD i ord0).units := h5
   omega
end
end
theorem eight_cells {w : World} {R : Nat} {c0 c1 c2 c3 c4 c5 c6 c7 : Value} {T : TypeId} (h : w.heap[R]? = some (.cells #[c0, c1, c2, c3, c4, c5, c6, c7] T (0, 0))) : w.cell? (aq R 0) = some c0 ∧ w.cell? (aq R 1) = some c1 ∧ w.cell? (aq R 2) = some c2 ∧ w.cell? (aq R 3) = some c3 ∧ w.cell? (aq R 4) = some c4 ∧ w.cell? (aq R 5) = some c5 ∧ w.cell? (aq R 6) = some c6 ∧ w.cell? (aq R 7) = some c7 := by
 refine ⟨?_, ?_, ?_, ?_, ?_, ?_, ?_, ?_⟩ <;> (rw [Joins.cell_of_block h]; rfl)
theorem five_far (W : World) (b k : Nat) (h : k ≠ b) (v0 v1 v2 v3 v4 : Value) : (((((W.setCell (aq b 0) v0).setCell (aq b 1) v1).setCell (aq b 2) v2).setCell (aq b 3) v3).setCell (aq b 4) v4).heap[k]? = W.heap[k]? := by
 rw [Below.heap_setCell _ (aq b 4) _ _ h, Below.heap_setCell _ (aq b 3) _ _ h, Below.heap_setCell _ (aq b 2) _ _ h, Below.heap_setCell _ (aq b 1) _ _ h, Below.heap_setCell _ (aq b 0) _ _ h]
theorem newAnswers_w (w : World) : Calls Tryz.prog 36 #[] w fun e w' => ∃ xa oa, e = .returned (.agg #[pt xa 0, .pointer none, iv 0, .slice none 0 0, iv 0]) ∧ pwW w' xa oa 0 [] ∧ (∀ k, oa k → w.heap.size ≤ k) ∧ Below w.heap.size w w' := by
 go_enter Tryz.func36, Tryz.ntmps36
 have rb0 : Hid ((w.alloc (.cells #[.pointer none, .pointer none, iv 0, .slice none 0 0, iv 0] 95)).heap[w.heap.size]? = some (.cells #[.pointer none, .pointer none, iv 0, .slice none 0 0, iv 0] 95 (0, 0))) := heap_alloc_new w _
 have hbl : Hid (Below w.heap.size w (w.alloc (.cells #[.pointer none, .pointer none, iv 0, .slice none 0 0, iv 0] 95))) := (Below.refl _ _).alloc (Nat.le_refl _) _
 go_wp2_with fail
 generalize w.alloc (.cells #[.pointer none, .pointer none, iv 0, .slice none 0 0, iv 0] 95) = W0 at rb0 hbl ⊢
 have lr0 : w.heap.size < W0.heap.size := (blt rb0.out)
 refine (new_any W0 0).mono ?_
 rintro e W1 ⟨xa, oa, rfl, hp, ho, bb⟩
 have hb1 : Hid (Below w.heap.size w W1) := hbl.out.trans (bb.mono hbl.out.size)
 have rb1 : Hid (W1.heap[w.heap.size]? = some (.cells #[.pointer none, .pointer none, iv 0, .slice none 0 0, iv 0] 95 (0, 0))) := (bb.block _ lr0).trans rb0.out
 have lr1 : w.heap.size < W1.heap.size := (blt rb1.out)
 have HE : Hid (∀ v0 v1 v2 v3 v4, pwW (((((W1.setCell (aq w.heap.size 0) v0).setCell (aq w.heap.size 1) v1).setCell (aq w.heap.size 2) v2).setCell (aq w.heap.size 3) v3).setCell (aq w.heap.size 4) v4) xa oa 0 [] ∧ (∀ k, oa k → w.heap.size ≤ k) ∧ Below w.heap.size w (((((W1.setCell (aq w.heap.size 0) v0).setCell (aq w.heap.size 1) v1).setCell (aq w.heap.size 2) v2).setCell (aq w.heap.size 3) v3).setCell (aq w.heap.size 4) v4)) := fun v0 v1 v2 v3 v4 => ⟨pwW_keep hp (by simp [World.setCell]) (fun k e => five_far W1 _ k (by have := ho k e; omega) _ _ _ _ _), fun k e => by have := ho k e; omega, below_set5 hb1.out (Nat.le_refl _)⟩
 obtain ⟨s0, s1, s2, s3, s4⟩ := five_cells rb1.out
 have f0 := row_free rb1.out 0
 have f1 := row_free rb1.out 1
 have f2 := row_free rb1.out 2
 have f3 := row_free rb1.out 3
 have f4 := row_free rb1.out 4
 clear hp ho bb rb0 hbl lr0
 go_wp2
 refine bodyPost_ret (v := .agg #[pt xa 0, .pointer none, iv 0, .slice none 0 0, iv 0]) (by simp [results, Tryz.results36, go_sem, s0, s1, s2, s3, s4]) rfl ⟨xa, oa, rfl, ?_⟩
 exact HE.out _ _ _ _ _
theorem open_no (n0 n1 n2 n3 n4 n5 n6 : Int) (a : Option Addr) (len cap : Nat) (w : World)
 (HC : Hid (∀ W, Below w.heap.size w W → Calls Tryz.prog 34 #[.agg #[iv n0, iv n1, iv n2, iv n3, iv n4, iv n5, iv n6, .slice a len cap]] W fun e w' => e = .returned (iv 1) ∧ Below W.heap.size W w')) :
 Calls Tryz.prog 18 #[.agg #[iv n0, iv n1, iv n2, iv n3, iv n4, iv n5, iv n6, .slice a len cap]] w fun e w' => e = .returned (.tuple #[.pointer none, iv 1]) ∧ Below w.heap.size w w' := by
 have hbl : Hid (Below w.heap.size w (w.alloc (.cells #[iv n0, iv n1, iv n2, iv n3, iv n4, iv n5, iv n6, .slice a len cap] 24))) := (Below.refl _ _).alloc (Nat.le_refl _) _
 go_enter Tryz.func18, Tryz.ntmps18
 go_wp2_with fail
 generalize w.alloc (.cells #[iv n0, iv n1, iv n2, iv n3, iv n4, iv n5, iv n6, .slice a len cap] 24) = W0 at hbl ⊢
 refine (HC.out _ hbl.out).mono ?_
 rintro e W1 ⟨rfl, bb⟩
 have hb1 : Below w.heap.size w W1 := hbl.out.trans (bb.mono hbl.out.size)
 go_wp2
 refine bodyPost_ret (v := .tuple #[.pointer none, iv 1]) (by simp [results, Tryz.results18, go_sem]) rfl ⟨rfl, hb1⟩
def popenAns (w w' : World) (n0 n1 n2 n3 n4 n5 n6 : Int) (len : Nat) (ts : List (Int × Int)) (x : Nat) : Prop :=
 ∃ xt ot xa oa g cp, w'.heap[x]? = some (.cells #[iv n0, iv n1, iv n2, iv n3, iv n4, iv n5, iv n6, .slice (some (aq g 0)) len cp, iv 0, iv 0, pt xt 0, .pointer none, iv 0, .slice none 0 0, iv 0, .pointer none, iv 0, .pointer none, iv 0, iv 0, iv 0, .pointer none, iv 0, pt xa 0, .pointer none, iv 0, .slice none 0 0, iv 0] 105 (0, 0)) ∧ pwW w' xt ot 0 [] ∧ pwW w' xa oa 0 [] ∧ w'.ownsRow w.heap.size 107 2 (.slice (some (aq g 0)) len cp) len (flatT ts) ∧ (∀ k, ot k → w.heap.size ≤ k ∧ k ≠ x ∧ k ≠ g ∧ ¬ oa k) ∧ (∀ k, oa k → w.heap.size ≤ k ∧ k ≠ x ∧ k ≠ g) ∧ g ≠ x ∧ w.heap.size ≤ x ∧ Below w.heap.size w w'
theorem open_w (n0 n1 n2 n3 n4 n5 n6 : Int) (b off len cap : Nat) (ts : List (Int × Int)) (w : World) (hb : b < w.heap.size) (hlen : ts.length = len) (h0 : 0 < len) (hcap : len ≤ cap ∧ cap * 16 ≤ 140737488355328) (hcell : ∀ i, i < len → w.cell? (aq b (off + i * 2)) = some (iv (ts.getD i (0, 0)).1) ∧ w.cell? (aq b (off + i * 2 + 1)) = some (iv (ts.getD i (0, 0)).2))
 (HC : Hid (∀ W, Below w.heap.size w W → Calls Tryz.prog 34 #[.agg #[iv n0, iv n1, iv n2, iv n3, iv n4, iv n5, iv n6, .slice (some (aq b off)) len cap]] W fun e w' => e = .returned (iv 0) ∧ Below W.heap.size W w')) :
 Calls Tryz.prog 18 #[.agg #[iv n0, iv n1, iv n2, iv n3, iv n4, iv n5, iv n6, .slice (some (aq b off)) len cap]] w fun e w' => ∃ x, e = .returned (.tuple #[pt x 0, iv 0]) ∧ popenAns w w' n0 n1 n2 n3 n4 n5 n6 len ts x := by
 obtain ⟨i0, hi, hz0, hz1, hz2⟩ := info_parts Tryz.infoTier
 have HNEWS : Hid (∀ W, Below w.heap.size w W → ∀ j u, (flatT ts)[j]? = some u → W.cell? (((aq b off) : Addr).add j) = some u) := fun W hW j u hu => by
  have hjl : j < len * 2 := by
   have := (List.getElem?_eq_some_iff.1 hu).1
   rw [flatT_len, hlen] at this
   exact this
  obtain ⟨q1, q2⟩ := flatT_at ts (j / 2) (by omega)
  obtain ⟨k1, k2⟩ := hcell (j / 2) (by omega)
  rw [Addr.add_lit]
  rcases Nat.mod_two_eq_zero_or_one j with hm | hm
  ·have e : j / 2 * 2 = j := by omega
   rw [e, hu] at q1
   rw [(hW.cell (p := (aq b (off + j))) hb), ← e, k1]
   rw [← q1]
  ·have e : j / 2 * 2 + 1 = j := by omega
   rw [e, hu] at q2
   rw [(hW.cell (p := (aq b (off + j))) hb)]
   have e' : off + j = off + j / 2 * 2 + 1 := by omega
   rw [e', k2]
   rw [← q2]
 have hfl : (flatT ts).length = len * 2 := by rw [flatT_len, hlen]
 have hone : ∀ u ∈ flatT ts, u.oneCell' = true := flatT_one ts
 have cb0 : Hid ((w.alloc (.cells #[iv n0, iv n1, iv n2, iv n3, iv n4, iv n5, iv n6, .slice (some (aq b off)) len cap] 24)).heap[w.heap.size]? = some (.cells #[iv n0, iv n1, iv n2, iv n3, iv n4, iv n5, iv n6, .slice (some (aq b off)) len cap] 24 (0, 0))) := heap_alloc_new w _
 have hbl : Hid (Below w.heap.size w (w.alloc (.cells #[iv n0, iv n1, iv n2, iv n3, iv n4, iv n5, iv n6, .slice (some (aq b off)) len cap] 24))) := (Below.refl _ _).alloc (Nat.le_refl _) _
 clear hcell
 go_enter Tryz.func18, Tryz.ntmps18
 go_wp2_with fail
 generalize w.alloc (.cells #[iv n0, iv n1, iv n2, iv n3, iv n4, iv n5, iv n6, .slice (some (aq b off)) len cap] 24) = W0 at cb0 hbl ⊢
 have lc0 : w.heap.size < W0.heap.size := (blt cb0.out)
 refine (HC.out _ hbl.out).mono ?_
 rintro e W1 ⟨rfl, bb⟩
 have hb1 : Hid (Below w.heap.size w W1) := hbl.out.trans (bb.mono hbl.out.size)
 have cb1 : Hid (W1.heap[w.heap.size]? = some (.cells #[iv n0, iv n1, iv n2, iv n3, iv n4, iv n5, iv n6, .slice (some (aq b off)) len cap] 24 (0, 0))) := (bb.block _ lc0).trans cb0.out
 have lc1 : w.heap.size < W1.heap.size := (blt cb1.out)
 obtain ⟨s0, s1, s2, s3, s4, s5, s6, s7⟩ := eight_cells cb1.out
 clear bb cb0 hbl lc0 HC
 have HAPP : Hid (∀ v' W2, W2.ownsRow w.heap.size 107 2 v' (0 + len) ([] ++ flatT ts) → (W1.alloc (.cells #[] 107)).grownBy W2 (Value.ownBlock (.slice (some (aq W1.heap.size 0)) 0 0)) → ∃ g cp, v' = .slice (some (aq g 0)) len cp ∧ Hid (W2.ownsRow w.heap.size 107 2 (.slice (some (aq g 0)) len cp) len (flatT ts) ∧ w.heap.size < g ∧ g < W2.heap.size) ∧ Hid (W2.heap[w.heap.size]? = some (.cells #[iv n0, iv n1, iv n2, iv n3, iv n4, iv n5, iv n6, .slice (some (aq b off)) len cap] 24 (0, 0))) ∧ Hid (Below w.heap.size w W2)) := fun v' W2 hown hgrow => by
  rw [Nat.zero_add, List.nil_append] at hown
  obtain ⟨g, cp, rfl, hg1, hg2⟩ := hown.form h0
  have z := hgrow.size
  rw [show (W1.alloc (.cells #[] 107)).heap.size = W1.heap.size + 1 by simp] at z
  have hk : ∀ k, k < W1.heap.size → W2.heap[k]? = W1.heap[k]? := fun k hk => (hgrow.block k (by simp; omega) (fun e => by simp [Value.ownBlock] at e; omega)).trans (Below.heap_alloc _ _ _ hk)
  have hcA := (hk _ lc1).trans cb1.out
  refine ⟨g, cp, rfl, ⟨hown, ?_, hg2⟩, hcA, ⟨hgrow.os.trans hb1.out.os, hgrow.tape.trans hb1.out.tape, hgrow.output.trans hb1.out.output, by have := hb1.out.size; omega, fun k hk' => (hk k (by have := hb1.out.size; omega)).trans (hb1.out.block k hk')⟩⟩
  have hne : g ≠ w.heap.size := fun e => own_type hown hcA (by decide) (by rw [← e]; rfl)
  omega
 go_wp2_with (first
  | (at_builtin; refine wpList_append_own _ rfl _ _ 22 rfl w.heap.size 107 i0 (.agg #[iv 0, iv 0]) 2 16 Tryz.underlying22 hi hz0 hz1 hz2 rfl (by decide) _ _ _ rfl (World.ownsRow_made W1 #[] 0 (by omega) (by unfold maxLen; omega) rfl) (aq b off) len cap (flatT ts) rfl hfl (HNEWS.out _ (hb1.out.alloc (by omega) _)) hone (by unfold maxLen; omega) (by omega) (by simp; omega) ?_
     intro v' W2 hown hgrow _
     obtain ⟨g, cp, rfl, hown, cb2, hb2⟩ := HAPP.out v' W2 hown hgrow
     have f7 := row_free cb2.out 7
     obtain ⟨t0, t1, t2, t3, t4, t5, t6, t7⟩ := eight_cells cb2.out
     have lc2 : w.heap.size < W2.heap.size := (blt cb2.out)
     clear hgrow)
  | fail)
 have cb3 : Hid ((W2.setCell (aq w.heap.size 7) (.slice (some (aq g 0)) len cp)).heap[w.heap.size]? = some (.cells #[iv n0, iv n1, iv n2, iv n3, iv n4, iv n5, iv n6, .slice (some (aq g 0)) len cp] 24 (0, 0))) := Joins.block_setCell (i := 7) cb2.out _
 have hb3 : Hid (Below w.heap.size w (W2.setCell (aq w.heap.size 7) (.slice (some (aq g 0)) len cp))) := hb2.out.setCell (p := (aq w.heap.size 7)) (Nat.le_refl _) _
 have hown3 : Hid ((W2.setCell (aq w.heap.size 7) (.slice (some (aq g 0)) len cp)).ownsRow w.heap.size 107 2 (.slice (some (aq g 0)) len cp) len (flatT ts) ∧ w.heap.size < g ∧ g < (W2.setCell (aq w.heap.size 7) (.slice (some (aq g 0)) len cp)).heap.size) := ⟨owns_keep hown.out.1 (fun k hk => Below.heap_setCell _ (aq w.heap.size 7) _ _ (by have e : g = k := (by simpa [Value.ownBlock] using hk); have := hown.out.2.1; show k ≠ w.heap.size; omega)), hown.out.2.1, by have := hown.out.2.2; simpa [World.setCell] using this⟩
 clear t0 t1 t2 t3 t4 t5 t6 t7 s0 s1 s2 s3 s4 s5 s6 s7 f7 lc2 lc1 cb2 hb2 hown HAPP HNEWS hb1 cb1
 generalize W2.setCell (aq w.heap.size 7) (.slice (some (aq g 0)) len cp) = W3 at cb3 hb3 hown3 ⊢
 refine (new_any W3 0).mono ?_
 rintro e W4 ⟨xt, ot, rfl, hpt, hot, b4⟩
 have lc3 : w.heap.size < W3.heap.size := (blt cb3.out)
 have cb4 : Hid (W4.heap[w.heap.size]? = some (.cells #[iv n0, iv n1, iv n2, iv n3, iv n4, iv n5, iv n6, .slice (some (aq g 0)) len cp] 24 (0, 0))) := (b4.block _ lc3).trans cb3.out
 have lc4 : w.heap.size < W4.heap.size := (blt cb4.out)
 obtain ⟨s0, s1, s2, s3, s4, s5, s6, s7⟩ := eight_cells cb4.out
 have HA : Hid (∀ W, Below W4.heap.size W4 W → Calls Tryz.prog 36 #[] W fun e w' => ∃ xa oa, e = .returned (.agg #[pt xa 0, .pointer none, iv 0, .slice none 0 0, iv 0]) ∧ Hid (popenAns w (w'.alloc (.cells #[iv n0, iv n1, iv n2, iv n3, iv n4, iv n5, iv n6, .slice (some (aq g 0)) len cp, iv 0, iv 0, pt xt 0, .pointer none, iv 0, .slice none 0 0, iv 0, .pointer none, iv 0, .pointer none, iv 0, iv 0, iv 0, .pointer none, iv 0, pt xa 0, .pointer none, iv 0, .slice none 0 0, iv 0] 105)) n0 n1 n2 n3 n4 n5 n6 len ts w'.heap.size) ∧ Below W4.heap.size W4 w') := fun W hW => by
  refine (newAnswers_w W).mono ?_
  rintro e W5 ⟨xa, oa, rfl, hpa, hoa, b5⟩
  have h45 : Below W4.heap.size W4 W5 := hW.trans (b5.mono hW.size)
  have z3 := hb3.out.size
  have z4 := b4.size
  have z5 := h45.size
  have zW := hW.size
  have hW3 : Below W3.heap.size W3 W5 := b4.trans (h45.mono z4)
  have hal : Below W5.heap.size W5 (W5.alloc (.cells #[iv n0, iv n1, iv n2, iv n3, iv n4, iv n5, iv n6, .slice (some (aq g 0)) len cp, iv 0, iv 0, pt xt 0, .pointer none, iv 0, .slice none 0 0, iv 0, .pointer none, iv 0, .pointer none, iv 0, iv 0, iv 0, .pointer none, iv 0, pt xa 0, .pointer none, iv 0, .slice none 0 0, iv 0] 105)) := (Below.refl _ _).alloc (Nat.le_refl _) _
  have hotlt := pwW_lt hpt
  have hoalt := pwW_lt hpa
  have hg := hown3.out
  refine ⟨xa, oa, rfl, ⟨xt, ot, xa, oa, g, cp, heap_alloc_new W5 _, ?_, ?_, ?_, fun k e => ?_, fun k e => ?_, ?_, ?_, ?_⟩, h45⟩
  ·have q1 := pwW_keep hpt h45.size (fun k e => h45.block k (hotlt k e))
   exact pwW_keep q1 hal.size (fun k e => hal.block k (by have := hotlt k e; omega))
  ·exact pwW_keep hpa hal.size (fun k e => hal.block k (hoalt k e))
  ·refine owns_keep hg.1 (fun k hk => ?_)
   have e : g = k := by simpa [Value.ownBlock] using hk
   rw [hal.block k (by omega)]
   exact hW3.block k (by omega)
  ·have h1 := hot k e
   have h2 := hotlt k e
   exact ⟨by omega, by omega, by omega, fun c => by have := hoa k c; omega⟩
  ·have h1 := hoa k e
   have h2 := hoalt k e
   exact ⟨by omega, by omega, by omega⟩
  ·omega
  ·omega
  ·exact (hb3.out.trans (hW3.mono z3)).trans (hal.mono (by omega))
 clear hpt hot hb3 hown3 cb3 lc3
 go_wp2_with fail
 go_region_held3 (fun w' => w'.cell? (aq w.heap.size 0) = some (iv n0) ∧ w'.cell? (aq w.heap.size 1) = some (iv n1) ∧ w'.cell? (aq w.heap.size 2) = some (iv n2) ∧ w'.cell? (aq w.heap.size 3) = some (iv n3) ∧ w'.cell? (aq w.heap.size 4) = some (iv n4) ∧ w'.cell? (aq w.heap.size 5) = some (iv n5) ∧ w'.cell? (aq w.heap.size 6) = some (iv n6) ∧ w'.cell? (aq w.heap.size 7) = some (.slice (some (aq g 0)) len cp)) (simp [go_sem, *])
  (first
    | (go_at_call 36; refine (HA.out _ bL).mono ?_; rintro e W5 ⟨xa, oa, rfl, hans, b5⟩
       have cb5 : Hid (W5.heap[w.heap.size]? = some (.cells #[iv n0, iv n1, iv n2, iv n3, iv n4, iv n5, iv n6, .slice (some (aq g 0)) len cp] 24 (0, 0))) := (b5.block _ lc4).trans cb4.out
       have lc5 : w.heap.size < W5.heap.size := (blt cb5.out)
       obtain ⟨s0', s1', s2', s3', s4', s5', s6', s7'⟩ := eight_cells cb5.out
       clear b5))
 clear s0 s1 s2 s3 s4 s5 s6 s7 s0' s1' s2' s3' s4' s5' s6' s7' cb4 HA
 go_wp2
 refine bodyPost_ret (v := .tuple #[pt W5.heap.size 0, iv 0]) (by simp [results, Tryz.results18, go_sem]) rfl ⟨_, rfl, ?_⟩
 exact hans.out
end Go.Proofs.YtfhncfghblkgeabGreat
