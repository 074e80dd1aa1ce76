import Derived.Test.YtfhncfghblkgeaaGreatL33
set_option maxRecDepth 100000
set_option maxHeartbeats 2000000
namespace Go.Proofs.YtfhncfghblkgeaaGreat
open Go.RowKit
theorem step_open (p : Nat) (a : Option Addr) (len cap : Nat) (o : OpV) (w : World) (hk : o.k = 10) (ho : -9223372036854775808 ≤ o.a ∧ o.a ≤ 9223372036854775807) (h0 : w.cell? (aq p 0) = some (.slice a len cap)) (W0 : World) (hbW : Below W0.heap.size W0 w) (hc : cfgsAt W0 a len) (Q : World → Prop)
 (HB : Hid (∀ w', Below w.heap.size w w' → Q w'))
 (HOP : Hid (∀ W n0 n1 n2 n3 n4 n5 n6 a' len' cap' ts, Below w.heap.size w W → tiersAt W0 a' len' cap' ts → len' * 16 ≤ 140737488351232 → Calls Tryz.prog 50 #[pt p 0, .agg #[iv n0, iv n1, iv n2, iv n3, iv n4, iv n5, iv n6, .slice a' len' cap']] W fun e w' => e = .returned (.bool true) ∧ Q w')) :
 Calls Tryz.prog 24 #[pt p 0, o.val] w fun e w' => e = .returned (.bool true) ∧ Q w' := by
 obtain ⟨k, oa, ob, oc, od, oe, os⟩ := o
 simp only at hk ho
 subst hk
 unfold OpV.val
 simp only
 have hpw : p < w.heap.size := World.block_lt_of_cell? w _ h0
 by_cases hz : len = 0
 ·subst hz
  go_enter Tryz.func24, Tryz.ntmps24
  go_wp2
  go_ret
  exact ⟨rfl, HB.out _ ((Below.refl _ _).alloc (Nat.le_refl _) _)⟩
 ·have hz' : ((len : Int) == 0) = false := by simp; omega
  obtain ⟨hl80, hcs⟩ := hc
  obtain ⟨b, off, rfl, hbw, hcfg⟩ := hcs (by omega)
  have HC : Hid (∀ i, i < len → cfgAt W0 b (off + i * 8)) := hcfg
  have hb0 := hbw
  replace hbw : b < w.heap.size := Nat.lt_of_lt_of_le hbw hbW.size
  have HO : Hid (-9223372036854775808 ≤ oa ∧ oa ≤ 9223372036854775807) := ho
  clear hcs hcfg ho
  go_enter Tryz.func24, Tryz.ntmps24
  go_wp2
  have hr : pickN oa len < len := pickN_lt oa (by omega)
  have HPK : Hid (∀ w' : World, Calls Tryz.prog 48 #[iv oa, iv len] w' fun e w2 => e = .returned (iv (pickN oa len)) ∧ w' = w2) := fun w' => pick_any oa len w' HO.out (by omega) (by omega)
  generalize pickN oa len = r at hr HPK
  obtain ⟨n0, n1, n2, n3, n4, n5, n6, a', len', cap', ts, c0, c1, c2, c3, c4, c5, c6, c7, ht, hl⟩ := HC.out r hr
  have HT : Hid (tiersAt W0 a' len' cap' ts) := ht
  have hr' : (r : Int) < (len : Int) := by omega
  replace c0 := (hbW.cell (p := (aq b (off + r * 8))) hb0).trans c0
  replace c1 := (hbW.cell (p := (aq b (off + r * 8 + 1))) hb0).trans c1
  replace c2 := (hbW.cell (p := (aq b (off + r * 8 + 2))) hb0).trans c2
  replace c3 := (hbW.cell (p := (aq b (off + r * 8 + 3))) hb0).trans c3
  replace c4 := (hbW.cell (p := (aq b (off + r * 8 + 4))) hb0).trans c4
  replace c5 := (hbW.cell (p := (aq b (off + r * 8 + 5))) hb0).trans c5
  replace c6 := (hbW.cell (p := (aq b (off + r * 8 + 6))) hb0).trans c6
  replace c7 := (hbW.cell (p := (aq b (off + r * 8 + 7))) hb0).trans c7
  clear ht hb0
  replace hbW : Hid _ := hbW
  go_region_held3 (fun w' => w'.cell? (aq p 0) = some (.slice (some (aq b off)) len cap) ∧ w'.cell? (aq w.heap.size 1) = some (iv oa) ∧ w'.cell? (aq b (off + r * 8)) = some (iv n0) ∧ w'.cell? (aq b (off + r * 8 + 1)) = some (iv n1) ∧ w'.cell? (aq b (off + r * 8 + 2)) = some (iv n2) ∧ w'.cell? (aq b (off + r * 8 + 3)) = some (iv n3) ∧ w'.cell? (aq b (off + r * 8 + 4)) = some (iv n4) ∧ w'.cell? (aq b (off + r * 8 + 5)) = some (iv n5) ∧ w'.cell? (aq b (off + r * 8 + 6)) = some (iv n6) ∧ w'.cell? (aq b (off + r * 8 + 7)) = some (.slice a' len' cap')) (simp [go_sem, World.cell?_alloc_past, *])
   (first
     | (go_at_call 48; refine (HPK.out _).mono ?_; rintro e w' ⟨rfl, rfl⟩))
  all_goals
   clear c0 c1 c2 c3 c4 c5 c6 c7
   go_wp2_with (go_at_call 50; refine (HOP.out _ n0 n1 n2 n3 n4 n5 n6 a' len' cap' ts bL HT.out hl).mono ?_; rintro e w2 ⟨rfl, hq⟩)
   go_ret
   exact ⟨rfl, hq⟩
theorem step_none (p : Nat) (a : Option Addr) (cap : Nat) (o : OpV) (w : World) (hk : 11 ≤ o.k ∧ o.k ≤ 16) (h1 : w.cell? (aq p 1) = some (.slice a 0 cap)) :
 Calls Tryz.prog 24 #[pt p 0, o.val] w fun e w' => e = .returned (.bool true) ∧ Below w.heap.size w w' := by
 obtain ⟨k, oa, ob, oc, od, oe, os⟩ := o
 simp only at hk
 unfold OpV.val
 simp only
 have hpw : p < w.heap.size := World.block_lt_of_cell? w _ h1
 have q2 : (k == 2) = false := by simp; omega
 have q3 : (k == 3) = false := by simp; omega
 have q4 : decide (4 ≤ k) = true := by simp; omega
 have q9 : decide (k ≤ 9) = false := by simp; omega
 have q1 : (k == 1) = false := by simp; omega
 have q10 : (k == 10) = false := by simp; omega
 have q11 : decide (k < 11) = false := by simp; omega
 have q16 : decide (16 < k) = false := by simp; omega
 clear hk
 go_enter Tryz.func24, Tryz.ntmps24
 go_wp2
 go_ret
 exact ⟨rfl, (Below.refl _ _).alloc (Nat.le_refl _) _⟩
theorem step_sold (p rt n cap x R : Nat) (o : OpV) (w : World) (hk : 11 ≤ o.k ∧ o.k ≤ 16) (ho : -9223372036854775808 ≤ o.a ∧ o.a ≤ 9223372036854775807) (h1 : w.cell? (aq p 1) = some (.slice (some (aq rt 0)) n cap)) (hn : 0 < n) (hn' : n < 4611686018427387904)
 (hx : w.cell? (aq rt (pickN o.a n * 2)) = some (pt x 0)) (hR : w.cell? (aq rt (pickN o.a n * 2 + 1)) = some (pt R 0)) (fp : Nat → Prop) (hfp : ∀ b, fp b → b < w.heap.size) (hfp1 : ¬ fp p) (hfp2 : ¬ fp rt) (Q : World → Prop)
 (HS : Hid (∀ W, Below w.heap.size w W → Calls Tryz.prog 51 #[.agg #[pt x 0, pt R 0], o.val] W fun e w' => e = .returned (.bool true) ∧ Q w' ∧ Same fp W w')) :
 Calls Tryz.prog 24 #[pt p 0, o.val] w fun e w' => e = .returned (.bool true) ∧ Q w' := by
 obtain ⟨k, oa, ob, oc, od, oe, os⟩ := o
 simp only at hk ho hx hR
 unfold OpV.val at HS ⊢
 simp only at HS ⊢
 have hpw : p < w.heap.size := World.block_lt_of_cell? w _ h1
 have hrw : rt < w.heap.size := World.block_lt_of_cell? w _ hx
 have q2 : (k == 2) = false := by simp; omega
 have q3 : (k == 3) = false := by simp; omega
 have q4 : decide (4 ≤ k) = true := by simp; omega
 have q9 : decide (k ≤ 9) = false := by simp; omega
 have q1 : (k == 1) = false := by simp; omega
 have q10 : (k == 10) = false := by simp; omega
 have q11 : decide (k < 11) = false := by simp; omega
 have q16 : decide (16 < k) = false := by simp; omega
 have hlen : ((n : Int) == 0) = false := by simp; omega
 have hr' : pickN oa n < n := pickN_lt oa hn
 have HPK : Hid (∀ w' : World, Calls Tryz.prog 48 #[iv oa, iv n] w' fun e w2 => e = .returned (iv (pickN oa n)) ∧ w' = w2) := fun w' => pick_any oa n w' ho hn hn'
 generalize pickN oa n = r at hr' HPK hx hR
 have hrn : (r : Int) < (n : Int) := by omega
 clear hk ho
 go_enter Tryz.func24, Tryz.ntmps24
 go_wp2_with fail
 go_region_held3 (fun w' => w'.cell? (aq p 1) = some (.slice (some (aq rt 0)) n cap) ∧ w'.cell? (aq rt (r * 2)) = some (pt x 0) ∧ w'.cell? (aq rt (r * 2 + 1)) = some (pt R 0) ∧ w'.cell? (aq w.heap.size 0) = some (iv k) ∧ w'.cell? (aq w.heap.size 1) = some (iv oa) ∧ w'.cell? (aq w.heap.size 2) = some (iv ob) ∧ w'.cell? (aq w.heap.size 3) = some (iv oc) ∧ w'.cell? (aq w.heap.size 4) = some (iv od) ∧ w'.cell? (aq w.heap.size 5) = some (iv oe) ∧ w'.cell? (aq w.heap.size 6) = some (.string os)) (simp [go_sem, *])
  (first
    | (go_at_call 48; refine (HPK.out _).mono ?_; rintro e w' ⟨rfl, rfl⟩)
    | (go_at_call 51; refine (HS.out _ bL).mono ?_; rintro e w2 ⟨rfl, hq, hs2⟩
       have d1 := (hs2.cell (b := p) (o := 1) (by simp <;> omega) hfp1).trans (by simp [go_sem, *] : _ = some (.slice (some (aq rt 0)) n cap))
       have d2 := (hs2.cell (b := rt) (o := r * 2) (by simp <;> omega) hfp2).trans (by simp [go_sem, *] : _ = some (pt x 0))
       have d3 := (hs2.cell (b := rt) (o := r * 2 + 1) (by simp <;> omega) hfp2).trans (by simp [go_sem, *] : _ = some (pt R 0))
       obtain ⟨f0, f1, f2, f3, f4, f5, f6⟩ := seven_cells ((hs2.block w.heap.size (by simp) (fun e => by have := hfp _ e; omega)).trans (heap_alloc_new w _))
       clear hs2))
 all_goals
  go_wp2
  go_ret
  exact ⟨rfl, hq⟩
theorem cfgsAt.below {w w' : World} {a : Option Addr} {len B : Nat} (h : cfgsAt w a len) (hb : Below B w w') (hB : w.heap.size ≤ B) : cfgsAt w' a len :=
 ⟨h.1, fun h0 => by
   obtain ⟨b, off, ha, hbw, hc⟩ := h.2 h0
   exact ⟨b, off, ha, Nat.lt_of_lt_of_le hbw hb.size, fun i hi => (hc i hi).below hb hB (Nat.lt_of_lt_of_le hbw hB)⟩⟩
theorem scriptAt.below {w w' : World} {a : Option Addr} {len B : Nat} {ops : List OpV} (h : scriptAt w a len ops) (hb : Below B w w') (hB : w.heap.size ≤ B) : scriptAt w' a len ops :=
 ⟨h.1, fun h0 => by
   obtain ⟨b, off, ha, hbw, hc⟩ := h.2 h0
   exact ⟨b, off, ha, Nat.lt_of_lt_of_le hbw hb.size, fun i hi => (hc i hi).below hb (Nat.lt_of_lt_of_le hbw hB)⟩⟩
section
def SE.cells (e : SE) : List Value := [pt e.x 0, pt e.R 0]
def flatS (Es : List SE) : List Value := Es.flatMap SE.cells
theorem flatS_at : ∀ {Es : List SE} {i : Nat} {e : SE}, Es[i]? = some e → (flatS Es)[i * 2]? = some (pt e.x 0) ∧ (flatS Es)[i * 2 + 1]? = some (pt e.R 0)
 | [], _, _, h => by simp at h
 | e0 :: Es, 0, e, h => by
   simp at h
   subst h
   exact ⟨rfl, rfl⟩
 | e0 :: Es, i + 1, e, h => by
   have := flatS_at (Es := Es) (i := i) (e := e) (by simpa using h)
   have e1 : (i + 1) * 2 = i * 2 + 1 + 1 := by omega
   rw [e1]
   exact ⟨by simpa [flatS, SE.cells] using this.1, by simpa [flatS, SE.cells] using this.2⟩
theorem flatS_set : ∀ {Es : List SE} {i : Nat} {e e' : SE}, Es[i]? = some e → e'.x = e.x → e'.R = e.R → flatS (Es.set i e') = flatS Es
 | [], _, _, _, h, _, _ => by simp at h
 | e0 :: Es, 0, e, e', h, hx, hR => by
   simp at h
   subst h
   simp [flatS, SE.cells, hx, hR]
 | e0 :: Es, i + 1, e, e', h, hx, hR => by
   have := flatS_set (Es := Es) (i := i) (e := e) (e' := e') (by simpa using h) hx hR
   simp only [List.set_cons_succ, flatS, List.flatMap_cons] at this ⊢
   rw [this]
theorem flatS_snoc (Es : List SE) (e : SE) : flatS (Es ++ [e]) = flatS Es ++ e.cells := by simp [flatS]
structure SS where
 Es : List SE
 vs : Value
structure invS (PS : World → Nat → (Nat → Prop) → Sal → Prop) (W : World) (ac : Option Addr) (lc cc : Nat) (j : Nat) (σ : SS) (w : World) : Prop where
 bel : Below W.heap.size W w
 world : w.heap[W.heap.size]? = some (.cells #[.slice ac lc cc, σ.vs, .slice none 0 0, .slice none 0 0, .slice none 0 0] 67 (0, 0))
 ss : w.ownsRow (W.heap.size + 1) 127 2 σ.vs σ.Es.length (flatS σ.Es)
 lenE : σ.Es.length ≤ j
 ent : ∀ (a : Nat) (e : SE), σ.Es[a]? = some e → entS PS w W.heap.size j e
 sep : ∀ (a a' : Nat) (e e' : SE), σ.Es[a]? = some e → σ.Es[a']? = some e' → a ≠ a' → ∀ b, e.fp b → ¬ e'.fp b
 far : ∀ (a : Nat) (e : SE), σ.Es[a]? = some e → ∀ b, e.fp b → W.heap.size < b ∧ σ.vs.ownBlock ≠ some b
def ownS (W : World) (σ : SS) (b : Nat) : Prop := b = W.heap.size ∨ σ.vs.ownBlock = some b ∨ ∃ (a : Nat) (e : SE), σ.Es[a]? = some e ∧ e.fp b
section
variable {PS : World → Nat → (Nat → Prop) → Sal → Prop} {W : World} {ac : Option Addr} {lc cc j : Nat} {σ : SS} {w w' : World}
theorem ent_below (T : SendOK PS) {B : Nat} {e : SE} (h : entS PS w B j e) (hb : Below w.heap.size w w') : entS PS w' B j e :=
 ⟨T.keep h.ps hb.size (fun k hk => hb.block k (T.lt h.ps k hk)), saleAt_below h.ref hb, h.J, h.hBR, h.apart, h.low, h.ans⟩
theorem ent_skip {B : Nat} {e : SE} (h : entS PS w B j e) : entS PS w B (j + 1) e := ⟨h.ps, h.ref, h.J, h.hBR, h.apart, h.low, Nat.le_succ_of_le h.ans⟩
theorem invS_below (T : SendOK PS) (h : invS PS W ac lc cc j σ w) (hb : Below w.heap.size w w') : invS PS W ac lc cc j σ w' :=
 ⟨h.bel.trans (hb.mono h.bel.size), (hb.block _ (blt h.world)).trans h.world, ownsRow_below h.ss hb (Nat.le_refl _), h.lenE, fun a e he => ent_below T (h.ent a e he) hb, h.sep, h.far⟩
theorem invS_skip (h : invS PS W ac lc cc j σ w) : invS PS W ac lc cc (j + 1) σ w :=
 ⟨h.bel, h.world, h.ss, Nat.le_succ_of_le h.lenE, fun a e he => ent_skip (h.ent a e he), h.sep, h.far⟩
theorem ownS_lt (T : SendOK PS) (h : invS PS W ac lc cc j σ w) {b : Nat} (hb : ownS W σ b) : b < w.heap.size := by
 rcases hb with rfl | hb | ⟨a, e, he, hb⟩
 ·exact (blt h.world)
 ·exact (World.ownsRow.lt h.ss b hb).2
 ·exact ent_lt T (h.ent a e he) hb
theorem invS_start (W : World) (ac : Option Addr) (lc cc : Nat) : invS PS W ac lc cc 0 ⟨[], .slice none 0 0⟩ (W.alloc (.cells #[.slice ac lc cc, .slice none 0 0, .slice none 0 0, .slice none 0 0, .slice none 0 0] 67)) :=
 ⟨(Below.refl _ _).alloc (Nat.le_refl _) _, heap_alloc_new W _, World.ownsRow_nil _ _ _ _, Nat.le_refl _, fun a e he => by simp at he, fun a a' e e' he => by simp at he, fun a e he => by simp at he⟩
theorem invS_same (T : SendOK PS) (h : invS PS W ac lc cc j σ w) (hb : Below w.heap.size w w') : (∃ σ', invS PS W ac lc cc (j + 1) σ' w') ∧ Same (ownS W σ) w w' := ⟨⟨σ, invS_skip (invS_below T h hb)⟩, Same.of_below hb⟩
theorem invS_turn (T : SendOK PS) {i : Nat} {e e' : SE} (h : invS PS W ac lc cc j σ w) (hi : σ.Es[i]? = some e) (he : entS PS w' W.heap.size (j + 1) e') (ht : e.then e' w) (hs : Same e.fp w w') :
 (∃ σ', invS PS W ac lc cc (j + 1) σ' w') ∧ Same (ownS W σ) w w' := by
 have hP : W.heap.size < w.heap.size := (blt h.world)
 have hil : i < σ.Es.length := (List.getElem?_eq_some_iff.1 hi).1
 have hvs := World.ownsRow.lt h.ss
 have hfar := h.far i e hi
 obtain ⟨hx, hR, hf⟩ := ht
 have hset : ∀ (a : Nat) (e2 : SE), (σ.Es.set i e')[a]? = some e2 → (a = i ∧ e2 = e') ∨ (a ≠ i ∧ σ.Es[a]? = some e2) := by
  intro a e2 ha
  rw [List.getElem?_set] at ha
  by_cases hai : i = a
  ·rw [if_pos hai, if_pos hil] at ha
   exact .inl ⟨hai.symm, (Option.some.inj ha).symm⟩
  ·rw [if_neg hai] at ha
   exact .inr ⟨fun e => hai e.symm, ha⟩
 refine ⟨⟨⟨σ.Es.set i e', σ.vs⟩, ⟨?_, ?_, ?_, by simpa using Nat.le_succ_of_le h.lenE, ?_, ?_, ?_⟩⟩, ⟨hs.os, hs.tape, hs.output, hs.size, fun k hk hn => hs.block k hk (fun c => hn (.inr (.inr ⟨i, e, hi, c⟩)))⟩⟩
 ·refine ⟨hs.os.trans h.bel.os, hs.tape.trans h.bel.tape, hs.output.trans h.bel.output, Nat.le_trans h.bel.size hs.size, fun b hb => ?_⟩
  rw [hs.block b (by omega) (fun c => by have := (hfar b c).1; omega)]
  exact h.bel.block b hb
 ·exact (hs.block _ hP (fun c => by have := (hfar _ c).1; omega)).trans h.world
 ·show w'.ownsRow _ _ 2 σ.vs (σ.Es.set i e').length (flatS (σ.Es.set i e'))
  rw [flatS_set hi hx hR, List.length_set]
  exact owns_keep h.ss (fun k hk => hs.block k (hvs k hk).2 (fun c => (hfar k c).2 hk))
 ·intro a e2 ha
  rcases hset a e2 ha with ⟨_, rfl⟩ | ⟨hai, ha⟩
  ·exact he
  ·exact ent_same T (h.ent a e2 ha) hs (fun k hk c => h.sep a i e2 e ha hi hai k hk c) (fun k hk => Nat.le_of_lt (hfar k hk).1)
 ·intro a a' e2 e3 ha ha' hne b hb hb'
  rcases hset a e2 ha with ⟨ea, rfl⟩ | ⟨hai, h2⟩ <;> rcases hset a' e3 ha' with ⟨ea', rfl⟩ | ⟨hai', h3⟩
  ·exact hne (ea.trans ea'.symm)
  ·rcases hf b hb with c | c
   ·exact h.sep _ _ _ _ hi h3 (fun e => hne (ea.trans e)) b c hb'
   ·have := ent_lt T (h.ent _ _ h3) hb'; omega
  ·rcases hf b hb' with c | c
   ·exact h.sep _ _ _ _ h2 hi (fun e => hne (e.trans ea'.symm)) b hb c
   ·have := ent_lt T (h.ent _ _ h2) hb; omega
  ·exact h.sep _ _ _ _ h2 h3 hne b hb hb'
 ·intro a e2 ha b hb
  rcases hset a e2 ha with ⟨rfl, rfl⟩ | ⟨hai, ha⟩
  ·rcases hf b hb with c | c
   ·exact hfar b c
   ·exact ⟨by omega, fun c' => by have := (hvs b c').2; omega⟩
  ·exact h.far a e2 ha b hb
theorem salJ_start {n0 n1 n2 n3 n4 n5 n6 : Int} {ts : List (Int × Int)} (hc : cfgB [n0, n1, n2, n3, n4, n5, n6] ts = true) (hp : ∀ p ∈ ts, 0 ≤ p.2 ∧ p.2 ≤ 1073741824) : salJ ⟨⟨n0, n1, n2, n3, n4, n5, n6, ts⟩, 0, [], []⟩ := by
 unfold cfgB numB at hc
 simp at hc
 refine ⟨⟨fun o ho => by simp at ho, ?_, fun c _ => by simp [unitsS], ⟨?_, ?_, ?_, ?_, ?_, ?_⟩, by simp, fun o ho => by simp at ho, hp⟩, ?_, ?_, by simp, fun a ha => by simp at ha⟩
 ·show unitsS [] 13 0 + unitsS [] 14 0 ≤ n0
  simp [unitsS]; omega
 all_goals (simp only; omega)
theorem invS_new (T : SendOK PS) (h : invS PS W ac lc cc j σ w) {n0 n1 n2 n3 n4 n5 n6 : Int} {x : Addr} {len cap : Nat} {ts : List (Int × Int)} (ht : tiersAt w (some x) len cap ts) (hlow : x.block < W.heap.size) (hJ : salJ ⟨⟨n0, n1, n2, n3, n4, n5, n6, ts⟩, 0, [], []⟩)
 (hA : openAns PS w w' W.heap.size (.slice ac lc cc) σ.vs (.slice none 0 0) (.slice none 0 0) (.slice none 0 0) σ.Es.length (flatS σ.Es) #[iv n0, iv n1, iv n2, iv n3, iv n4, iv n5, iv n6, .slice (some x) len cap, iv 0, .slice none 0 0, .slice none 0 0] ⟨⟨n0, n1, n2, n3, n4, n5, n6, ts⟩, 0, [], []⟩) :
 (∃ σ', invS PS W ac lc cc (j + 1) σ' w') ∧ Same (ownS W σ) w w' := by
 obtain ⟨xs, own, R, vs', h1, h2, h3, h4, h5, h6, h7, h8, h9, h10, h11⟩ := hA
 have hP : W.heap.size < w.heap.size := (blt h.world)
 have hvs := World.ownsRow.lt h.ss
 generalize hE : (⟨xs, R, own, some x, len, cap, .slice none 0 0, .slice none 0 0, ⟨⟨n0, n1, n2, n3, n4, n5, n6, ts⟩, 0, [], []⟩⟩ : SE) = E
 have hEx : E.cells = [pt xs 0, pt R 0] := by rw [← hE]; rfl
 have hnew : ∀ b, E.fp b → w.heap.size ≤ b := by
  rw [← hE]
  rintro b (c | c | c | c)
  ·exact h6 b c
  ·have c' : b = R := c
   omega
  ·simp [Value.ownBlock] at c
  ·simp [Value.ownBlock] at c
 have hvs' : ∀ b, E.fp b → vs'.ownBlock ≠ some b := by
  rw [← hE]
  rintro b (c | c | c | c)
  ·exact fun c' => h10 b c' c
  ·have c' : b = R := c
   rw [c']; exact h11
  ·simp [Value.ownBlock] at c
  ·simp [Value.ownBlock] at c
 have hent : entS PS w' W.heap.size (j + 1) E := by
  rw [← hE]
  refine ⟨h3, ⟨h4, tiers_same ht h5 (fun b off e => ?_), fun b off e => ?_, World.ownsRow_nil _ _ _ _, World.ownsRow_nil _ _ _ _⟩, hJ, by show W.heap.size ≤ R; omega, ⟨h8, fun k hk => by simp [Value.ownBlock] at hk, fun k hk => by simp [Value.ownBlock] at hk⟩, fun k hk => by have := h6 k hk; omega, by simp⟩
  ·have e' : x.block = b := by have := Option.some.inj e; rw [this]
   rintro (c | c)
   ·omega
   ·have := (hvs b c).1; omega
  ·have e' : x.block = b := by have := Option.some.inj e; rw [this]
   omega
 have hget : ∀ (a : Nat) (e2 : SE), (σ.Es ++ [E])[a]? = some e2 → (a = σ.Es.length ∧ e2 = E) ∨ (a < σ.Es.length ∧ σ.Es[a]? = some e2) := by
  intro a e2 ha
  by_cases hal : a < σ.Es.length
  ·rw [List.getElem?_append_left hal] at ha
   exact .inr ⟨hal, ha⟩
  ·have hl := (List.getElem?_eq_some_iff.1 ha).1
   have : a = σ.Es.length := by simp at hl; omega
   subst this
   simp at ha
   exact .inl ⟨rfl, ha.symm⟩
 refine ⟨⟨⟨σ.Es ++ [E], vs'⟩, ⟨?_, h1, ?_, by simp; exact h.lenE, ?_, ?_, ?_⟩⟩, ⟨h5.os, h5.tape, h5.output, h5.size, fun k hk hn => h5.block k hk (fun c => hn (c.imp id .inl))⟩⟩
 ·refine ⟨h5.os.trans h.bel.os, h5.tape.trans h.bel.tape, h5.output.trans h.bel.output, Nat.le_trans h.bel.size h5.size, fun b hb => ?_⟩
  rw [h5.block b (by omega) (fun c => c.elim (fun c => by omega) (fun c => by have := (hvs b c).1; omega))]
  exact h.bel.block b hb
 ·show w'.ownsRow _ _ 2 vs' (σ.Es ++ [E]).length (flatS (σ.Es ++ [E]))
  rw [flatS_snoc, List.length_append, List.length_singleton, hEx]
  exact h2
 ·intro a e2 ha
  rcases hget a e2 ha with ⟨_, rfl⟩ | ⟨_, ha⟩
  ·exact hent
  ·exact ent_same T (h.ent a e2 ha) h5 (fun k hk c => c.elim (fun c => by have := (h.far a e2 ha k hk).1; omega) (h.far a e2 ha k hk).2) (fun k c => c.elim (fun c => Nat.le_of_eq c.symm) (fun c => by have := (hvs k c).1; omega))
 ·intro a a' e2 e3 ha ha' hne b hb hb'
  rcases hget a e2 ha with ⟨ea, rfl⟩ | ⟨_, h2'⟩ <;> rcases hget a' e3 ha' with ⟨ea', rfl⟩ | ⟨_, h3'⟩
  ·exact hne (ea.trans ea'.symm)
  ·have := hnew b hb; have := ent_lt T (h.ent _ _ h3') hb'; omega
  ·have := hnew b hb'; have := ent_lt T (h.ent _ _ h2') hb; omega
  ·exact h.sep _ _ _ _ h2' h3' hne b hb hb'
 ·intro a e2 ha b hb
  rcases hget a e2 ha with ⟨_, rfl⟩ | ⟨_, ha⟩
  ·exact ⟨by have := hnew b hb; omega, hvs' b hb⟩
  ·have hfa := h.far a e2 ha b hb
   refine ⟨hfa.1, fun c => ?_⟩
   rcases h9 b c with c | c
   ·exact hfa.2 c
   ·have := ent_lt T (h.ent _ _ ha) hb; omega
end
end
section
theorem at_flatS {w : World} {B g n cap : Nat} {Es : List SE} (h : w.ownsRow B 127 2 (.slice (some (aq g 0)) n cap) n (flatS Es)) {i : Nat} {e : SE} (hi : Es[i]? = some e) :
 w.cell? (aq g (i * 2)) = some (pt e.x 0) ∧ w.cell? (aq g (i * 2 + 1)) = some (pt e.R 0) := by
 have hf := flatS_at hi
 have c0 := h.cells (g := g) rfl _ _ hf.1
 have c1 := h.cells (g := g) rfl _ _ hf.2
 rw [Addr.add_lit, Nat.zero_add] at c0 c1
 exact ⟨c0, c1⟩
theorem cfg_prices {ns : List Int} {ts : List (Int × Int)} (hc : cfgB ns ts = true) : (∀ p ∈ ts, 0 ≤ p.2 ∧ p.2 ≤ 1073741824) ∧ ts ≠ [] := by
 unfold cfgB pricesB at hc
 simp only [Bool.and_eq_true, decide_eq_true_eq, List.all_eq_true, List.mem_range] at hc
 obtain ⟨_, ⟨h1, _⟩, h3⟩ := hc
 refine ⟨fun p hp => ?_, fun e => by rw [e] at h1; simp at h1⟩
 obtain ⟨i, hi, rfl⟩ := List.mem_iff_getElem.1 hp
 have := h3 i hi
 unfold tierB at this
 simp only [List.getD, List.getElem?_eq_getElem hi, Option.getD_some, Bool.and_eq_true, decide_eq_true_eq] at this
 omega
section
variable {PS : World → Nat → (Nat → Prop) → Sal → Prop} {W : World} {ac : Option Addr} {lc cc j : Nat} {σ : SS} {w : World}
theorem opened_inv (T : SendOK PS) (K : OpenOK PS) (h : invS PS W ac lc cc j σ w) (hj : j * 64 + 64 ≤ 140737488351232) (n0 n1 n2 n3 n4 n5 n6 : Int) (a : Option Addr) (len cap : Nat) (ts : List (Int × Int)) (ht : tiersAt W a len cap ts) (hb : len * 16 ≤ 140737488351232) :
 Calls Tryz.prog 50 #[pt W.heap.size 0, .agg #[iv n0, iv n1, iv n2, iv n3, iv n4, iv n5, iv n6, .slice a len cap]] w fun e w' => e = .returned (.bool true) ∧ (∃ σ', invS PS W ac lc cc (j + 1) σ' w') ∧ Same (ownS W σ) w w' := by
 have ht' := ht.below h.bel (Nat.le_refl _)
 have hlE := h.lenE
 cases a with
 | none =>
   obtain ⟨rfl, rfl⟩ := ht.2.2.2.1 rfl
   have hts : ts = [] := List.length_eq_zero_iff.1 ht.1
   subst hts
   have hc : cfgB [n0, n1, n2, n3, n4, n5, n6] [] = false := by
    cases hc : cfgB [n0, n1, n2, n3, n4, n5, n6] [] with
    | false => rfl
    | true => exact absurd rfl (cfg_prices hc).2
   exact (opened_nil K W.heap.size n0 n1 n2 n3 n4 n5 n6 w hc).mono (by rintro e w' ⟨rfl, b⟩; exact ⟨rfl, invS_same T h b⟩)
 | some x =>
   cases hc : cfgB [n0, n1, n2, n3, n4, n5, n6] ts with
   | false => exact (opened_no K W.heap.size n0 n1 n2 n3 n4 n5 n6 x len cap ts w ht' hb hc).mono (by rintro e w' ⟨rfl, b⟩; exact ⟨rfl, invS_same T h b⟩)
   | true =>
     obtain ⟨hp, hne⟩ := cfg_prices hc
     have hlow : x.block < W.heap.size := by
      obtain ⟨b, off, hx, hbw, _⟩ := ht.2.2.2.2 hne
      have := Option.some.inj hx
      rw [this]
      exact hbw
     refine (opened_yes K T W.heap.size σ.Es.length _ σ.vs _ _ _ (flatS σ.Es) n0 n1 n2 n3 n4 n5 n6 x len cap ts w ht' hb hc h.world h.ss (by omega)).mono ?_
     rintro e w' ⟨rfl, A⟩
     exact ⟨rfl, invS_new T h ht' hlow (salJ_start hc hp) A⟩
theorem step_inv (T : SendOK PS) (K : OpenOK PS) (h : invS PS W ac lc cc j σ w) (hcf : cfgsAt W ac lc) (o : OpV) (ho : opOK o) (hj : j * 64 + 64 ≤ 140737488351232) (hk : o.k = 10 ∨ o.k = 11 ∨ o.k = 12 ∨ ((o.k = 13 ∨ o.k = 14) ∧ BookOK PS) ∨ ((o.k = 15 ∨ o.k = 16) ∧ TickOK PS)) :
 Calls Tryz.prog 24 #[worldPtr W, o.val] w fun e w' => e = .returned (.bool true) ∧ (∃ σ', invS PS W ac lc cc (j + 1) σ' w') ∧ Same (ownS W σ) w w' := by
 have hP : W.heap.size < w.heap.size := (blt h.world)
 have hlE := h.lenE
 unfold worldPtr
 rcases hk with hk | hk
 ·have c0 : w.cell? (aq W.heap.size 0) = some (.slice ac lc cc) := by rw [Joins.cell_of_block h.world]; rfl
  refine step_open W.heap.size ac lc cc o w hk ho.2.1 c0 W h.bel hcf _ (fun w' hb => invS_same T h hb) (fun W2 n0 n1 n2 n3 n4 n5 n6 a' len' cap' ts hb ht hl => ?_)
  refine (opened_inv T K (invS_below T h hb) hj n0 n1 n2 n3 n4 n5 n6 a' len' cap' ts ht hl).mono ?_
  rintro e w3 ⟨rfl, hi, hs3⟩
  exact ⟨rfl, hi, Same.trans (Same.of_below (own := fun _ => False) hb) hs3 (fun k _ e => e.elim False.elim id)⟩
 ·have hr : 11 ≤ o.k ∧ o.k ≤ 16 := by omega
  have c1 : w.cell? (aq W.heap.size 1) = some σ.vs := by rw [Joins.cell_of_block h.world]; rfl
  by_cases hne : σ.Es.length = 0
  ·obtain ⟨a, c, hv⟩ := own_slice h.ss
   rw [hne] at hv
   exact (step_none W.heap.size a c o w hr (by rw [c1, hv])).mono (by rintro e w' ⟨rfl, b⟩; exact ⟨rfl, invS_same T h b⟩)
  ·have hpos : 0 < σ.Es.length := by omega
   have hpick := pickN_lt o.a hpos
   obtain ⟨rt, cap, hvt⟩ : ∃ rt cap, σ.vs = .slice (some (aq rt 0)) σ.Es.length cap := by
    rcases h.ss.2 with ⟨_, h0⟩ | ⟨g, c, cur, hv, _⟩
    ·omega
    ·exact ⟨g, c, hv⟩
   have hi : σ.Es[pickN o.a σ.Es.length]? = some σ.Es[pickN o.a σ.Es.length] := List.getElem?_eq_getElem hpick
   generalize σ.Es[pickN o.a σ.Es.length] = e at hi
   have he := h.ent _ e hi
   have hss := h.ss
   rw [hvt] at hss c1
   obtain ⟨x0, x1⟩ := at_flatS hss hi
   have hfar := h.far _ e hi
   refine step_sold W.heap.size rt σ.Es.length cap e.x e.R o w hr ho.2.1 c1 hpos (by omega) x0 x1 e.fp (fun b hb => ent_lt T he hb) (fun c => by have := (hfar _ c).1; omega) (fun c => (hfar _ c).2 (by rw [hvt]; rfl)) _ (fun W2 hb => ?_)
   refine (sold_ent T (ent_below T he hb) o ho (by omega) hk).mono ?_
   rintro r w3 ⟨rfl, e2, a1, a2, a3⟩
   have hz := hb.size
   exact ⟨rfl, invS_turn T h hi a1 ⟨a2.1, a2.2.1, fun k hk => (a2.2.2 k hk).imp id (fun c => by omega)⟩ (Same.trans (Same.of_below (own := fun _ => False) hb) a3 (fun k _ e => e.elim False.elim id)), a3⟩
end
theorem sales_plays {PS : World → Nat → (Nat → Prop) → Sal → Prop} (T : SendOK PS) (K : OpenOK PS) (W : World) (ac : Option Addr) (lc cc : Nat) (hcf : cfgsAt W ac lc) (a : Option Addr) (len cap : Nat) (ops : List OpV) (bp cp bh ch : Nat) (play hold : List Int) (hs : scriptAt W a len ops) (hok : ∀ o ∈ ops, opOK o) (hlen : len * 64 ≤ 140737488351232) (hp : rowAt W bp play) (hh : rowAt W bh hold)
 (hpl : ∀ k, play.any (· == k) = true → k = 10 ∨ k = 11 ∨ k = 12 ∨ ((k = 13 ∨ k = 14) ∧ BookOK PS) ∨ ((k = 15 ∨ k = 16) ∧ TickOK PS)) :
 Calls Tryz.prog 12 #[.slice ac lc cc, .slice a len cap, .slice (some (aq bp 0)) play.length cp, .slice (some (aq bh 0)) hold.length ch] W fun e w' => e = .returned (.bool true) ∧ Below W.heap.size W w' := by
 refine plays_any (invS PS W ac lc cc) (ownS W) W ac lc cc a len cap ops bp cp bh ch play hold hs hlen hp hh (fun j σ w' b h hb => ownS_lt T h hb) (fun j σ w1 w2 h hb => invS_below T h hb) (fun j σ w1 h => invS_skip h) (fun _ _ _ h => h.bel) ⟨_, invS_start W ac lc cc⟩ ?_ ?_
 ·intro j σ w1 o hj ho hk h
  exact step_inv T K h hcf o (hok o ho) (by omega) (hpl o.k hk)
 ·intro j σ w1 hj h
  have c3 : w1.cell? (aq W.heap.size 3) = some (.slice none 0 0) := by rw [Joins.cell_of_block h.world]; rfl
  have c4 : w1.cell? (aq W.heap.size 4) = some (.slice none 0 0) := by rw [Joins.cell_of_block h.world]; rfl
  refine (looks_none W.heap.size w1 c3 c4).mono ?_
  rintro e w2 ⟨rfl, rfl⟩
  exact ⟨rfl, h⟩
end
end Go.Proofs.YtfhncfghblkgeaaGreat
