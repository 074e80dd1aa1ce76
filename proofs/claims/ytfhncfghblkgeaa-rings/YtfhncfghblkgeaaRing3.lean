/-
  salekeep's step on timers: Set and Unset.
-/
import Derived.Test.YtfhncfghblkgeaaRing2
import Derived.Deep.AppendLies
import Derived.Deep.RegionLaw
namespace Go.Proofs.Ytfhncfghblkgeaa
open Go.RowKit

/-- Both lists are apart. -/
def apartK (R : Nat) (v : Value) (own : Nat → Prop) : Prop := ¬ own R ∧ ∀ k, v.ownBlock = some k → ¬ own k

/-- Before and behind a step: salekeep's timers and the program's. -/
structure ringSt (w : World) (B R x : Nat) (own : Nat → Prop) (v : Value) (now : Int) (L : List (Int × Int)) : Prop where
  pend : pendAt w B R now v L
  pw : pwW w x own now L
  apart : apartK R v own

/-- What a step leaves. -/
def ringAns (w w' : World) (B R x : Nat) (own : Nat → Prop) (v : Value) (n : Nat) : Prop :=
  ∃ own' v' now' L', ringSt w' B R x own' v' now' L' ∧ L'.length ≤ n ∧ Same (fun b => own b ∨ b = R ∨ v.ownBlock = some b) w w' ∧ (∀ k, own' k → own k ∨ w.heap.size ≤ k) ∧ (∀ k, v'.ownBlock = some k → v.ownBlock = some k ∨ w.heap.size ≤ k)

theorem pend_ne {w : World} {B R : Nat} {now : Int} {v : Value} {L : List (Int × Int)} (h : pendAt w B R now v L) : v.ownBlock ≠ some R := own_type h.2 h.1 (by decide)

theorem pend_slice {w : World} {B R : Nat} {now : Int} {v : Value} {L : List (Int × Int)} (h : pendAt w B R now v L) : ∃ a c, v = .slice a L.length c := own_slice h.2

theorem pend_below {w w' : World} {B R : Nat} {now : Int} {v : Value} {L : List (Int × Int)} (h : pendAt w B R now v L) (hb : Below w.heap.size w w') : pendAt w' B R now v L :=
  ⟨(hb.block R (Array.getElem?_eq_some_iff.1 h.1).1).trans h.1, ownsRow_below h.2 hb (Nat.le_refl _)⟩

/-- Salekeep's timers behind a call on the program's. -/
theorem pend_behind {w w1 : World} {B R : Nat} {own : Nat → Prop} {v : Value} {now : Int} {L : List (Int × Int)} (h : pendAt w B R now v L) (hs : Same own w w1) (ha : apartK R v own) : pendAt w1 B R now v L :=
  ⟨(hs.block R (Array.getElem?_eq_some_iff.1 h.1).1 ha.1).trans h.1, owns_keep h.2 (fun k hk => hs.block k (World.ownsRow.lt h.2 k hk).2 (ha.2 k hk))⟩

/-- Behind a call on the program's timers that leaves salekeep's as they are to be. -/
theorem ring_end {w W w2 : World} {B R x : Nat} {own : Nat → Prop} {v : Value} {now : Int} {L L' : List (Int × Int)} {n : Nat} (h : ringSt w B R x own v now L) (hb : Below w.heap.size w W) (h2 : pwAns pwW W w2 x own now L') (e : L' = L) (hn : L.length ≤ n) : ringAns w w2 B R x own v n := by
  subst e
  obtain ⟨own', hp, hs, hf⟩ := h2
  have hz := hb.size
  have hR : R < w.heap.size := (Array.getElem?_eq_some_iff.1 h.pend.1).1
  refine ⟨own', v, now, L', ⟨pend_behind (pend_below h.pend hb) hs h.apart, hp, ?_, ?_⟩, hn, Same.trans (Same.of_below (own := fun _ => False) hb) hs (fun k _ e => e.elim False.elim .inl), fun k hk => (hf k hk).imp id (Nat.le_trans hz), fun k hk => .inl hk⟩
  · exact fun e => (hf R e).elim h.apart.1 (fun h' => by omega)
  · exact fun k hk e => (hf k e).elim (h.apart.2 k hk) (fun h' => by have := (World.ownsRow.lt h.pend.2 k hk).2; omega)

theorem ringAns_below {w w2 w3 : World} {B R x n : Nat} {own : Nat → Prop} {v : Value} (h : ringAns w w2 B R x own v n) (hb : Below w2.heap.size w2 w3) : ringAns w w3 B R x own v n := by
  obtain ⟨own', v', now', L', hs, hn, hm, hf, hv⟩ := h
  exact ⟨own', v', now', L', ⟨pend_below hs.pend hb, pw_below hs.pw hb, hs.apart⟩, hn, Same.trans hm (Same.of_below (own := fun _ => False) hb) (fun k _ e => e.elim id False.elim), hf, hv⟩

theorem pwAns_below {W w2 w3 : World} {x : Nat} {own : Nat → Prop} {now : Int} {L : List (Int × Int)} (h : pwAns pwW W w2 x own now L) (hb : Below w2.heap.size w2 w3) : pwAns pwW W w3 x own now L := by
  obtain ⟨own', h1, h2, h3⟩ := h
  exact ⟨own', pw_below h1 hb, Same.trans h2 (Same.of_below (own := fun _ => False) hb) (fun k _ e => e.elim id False.elim), h3⟩

/-- Behind Set: one timer more in both. -/
theorem ring_more {w W w2 w3 : World} {B R x : Nat} {own : Nat → Prop} {v v' : Value} {now : Int} {L : List (Int × Int)} {p : Int × Int} {O : Obj} (h : ringSt w B R x own v now L) (hb : Below w.heap.size w W) (h2 : pwAns pwW W w2 x own now (L ++ [p]))
    (hown3 : w3.ownsRow B 62 2 v' (L.length + 1) (flatT L ++ [.int .i64 p.1, .int .i64 p.2])) (hg : (w2.alloc O).grownBy w3 v.ownBlock) (hat : v'.ownBlock = v.ownBlock ∨ v'.ownBlock = some (w2.alloc O).heap.size) :
    ringAns w (w3.setCell ⟨R, 1, none⟩ v') B R x own v (L.length + 1) := by
  obtain ⟨own', hp, hs, hf⟩ := h2
  have hz := hb.size
  have z2 := hs.size
  have z3 : w2.heap.size + 1 ≤ w3.heap.size := by have := hg.size; simpa using this
  have lt2 := pwW_lt hp
  have hR : R < w.heap.size := (Array.getElem?_eq_some_iff.1 h.pend.1).1
  have hp2 := pend_behind (pend_below h.pend hb) hs h.apart
  have hvR := pend_ne hp2
  have kv := World.ownsRow.lt h.pend.2
  have nR : ¬ own' R := fun e => (hf R e).elim h.apart.1 (fun h' => by omega)
  have nv : ∀ k, v.ownBlock = some k → ¬ own' k := fun k hk e => (hf k e).elim (h.apart.2 k hk) (fun h' => by have := (kv k hk).2; omega)
  have k3 : ∀ k, k < w2.heap.size → v.ownBlock ≠ some k → w3.heap[k]? = w2.heap[k]? := fun k hk hn => (hg.block k (by simp; omega) (fun e => hn e.symm)).trans (Below.heap_alloc w2 O k hk)
  have ks : ∀ k, k ≠ R → (w3.setCell ⟨R, 1, none⟩ v').heap[k]? = w3.heap[k]? := fun k hk => Below.heap_setCell _ ⟨R, 1, none⟩ _ _ hk
  have hR3 : w3.heap[R]? = some (.cells #[.int .i64 now, v] 39 (0, 0)) := (k3 R (by omega) hvR).trans hp2.1
  have nv' : ∀ k, v'.ownBlock = some k → ¬ own' k ∧ k ≠ R := by
    intro k hk
    rcases hat with e | e
    · exact ⟨nv k (e.symm.trans hk), fun e' => hvR (e'.symm ▸ e.symm.trans hk)⟩
    · rw [hk] at e
      simp at e
      exact ⟨fun e' => by have := lt2 k e'; omega, by omega⟩
  refine ⟨own', v', now, L ++ [p], ⟨⟨?_, ?_⟩, ?_, nR, fun k hk => (nv' k hk).1⟩, by simp, ?_, fun k hk => (hf k hk).imp id (Nat.le_trans hz), ?_⟩
  · rw [Joins.block_setCell hR3]; rfl
  · rw [flatT_snoc, List.length_append, List.length_singleton]
    exact owns_keep hown3 (fun k hk => ks k (nv' k hk).2)
  · exact pwW_keep hp (by simp [World.setCell]; omega) (fun k hk => (ks k (fun e => nR (e ▸ hk))).trans (k3 k (lt2 k hk) (fun e => nv k e hk)))
  · refine ⟨hg.os.trans (hs.os.trans hb.os), hg.tape.trans (hs.tape.trans hb.tape), hg.output.trans (hs.output.trans hb.output), by simp [World.setCell]; omega, fun k hk hn => ?_⟩
    rw [ks k (fun e => hn (.inr (.inl e))), k3 k (by omega) (fun e => hn (.inr (.inr e))), hs.block k (by omega) (fun e => hn (.inl e))]
    exact hb.block k hk
  · intro k hk
    rcases hat with e | e
    · exact .inl (e.symm.trans hk)
    · rw [hk] at e; simp at e; exact .inr (by omega)

set_option maxRecDepth 100000 in
set_option maxHeartbeats 4000000 in
theorem rings_set_arg (B R x : Nat) (own : Nat → Prop) (v : Value) (now : Int) (L : List (Int × Int)) (id a : Int) (w : World) (h : ringSt w B R x own v now L) (hl : L.length * 16 + 16 ≤ 140737488351232) (ha : a ≤ now) :
    Calls Try.prog 11 #[.pointer (some ⟨R, 0, none⟩), .pointer (some ⟨x, 0, none⟩), .agg #[.int .i64 0, .int .i64 id, .int .i64 a]] w fun e w' => e = .returned (.bool true) ∧ ringAns w w' B R x own v (L.length + 1) := by
  have HFI : Hid (∀ W, Below w.heap.size w W → Calls Try.prog 20 #[.pointer (some ⟨R, 0, none⟩), .int .i64 id] W fun e w' => e = .returned (.int .i64 (idxT L id)) ∧ W = w') :=
    fun W hW => find_any R v L id W (rw_cells (pend_below h.pend hW).1).2 (duesAt_of (pend_below h.pend hW).2) (by omega)
  have HB : Hid (∀ W w2, Below w.heap.size w W → w.heap.size < W.heap.size → Same own W w2 → pendAt w2 B R now v L ∧ w2.heap[w.heap.size]? = W.heap[w.heap.size]?) := fun W w2 hW hz hs =>
    ⟨pend_behind (pend_below h.pend hW) hs h.apart, hs.block _ hz (fun e => by have := pwW_lt h.pw _ e; omega)⟩
  have HE : Hid (∀ W w2 n, Below w.heap.size w W → pwAns pwW W w2 x own now L → L.length ≤ n → ringAns w w2 B R x own v n) := fun W w2 n hW ha hn => ring_end h hW ha rfl hn
  have HSE : Hid (∀ W, Below w.heap.size w W → Calls Try.prog 21 #[.pointer (some ⟨x, 0, none⟩), .int .i64 id, .int .i64 a] W fun e w' => e = .returned (.int .i64 (setE now L id a)) ∧ pwAns pwW W w' x own now (setL now L id a)) :=
    fun W hW => set_any id a (pw_below h.pw hW) hl
  have hse : setE now L id a = 3 ∧ setL now L id a = L := by simp [setE, setL, ha]
  rw [hse.1, hse.2] at HSE
  generalize idxT L id = q at HFI
  clear h hse
  go_enter Try.func11, Try.ntmps11
  go_wp2_with fail
  refine (HFI.out _ (by repeat (first | exact Below.refl _ _ | assumption | refine Below.drew ?_ | refine below_drawn ?_ _ | refine Below.alloc ?_ (by first | exact Nat.le_refl _ | (simp <;> omega)) _))).mono ?_
  rintro e w1 ⟨rfl, rfl⟩
  go_wp2_with fail
  refine (HSE.out _ (by repeat (first | exact Below.refl _ _ | assumption | refine Below.drew ?_ | refine below_drawn ?_ _ | refine Below.alloc ?_ (by first | exact Nat.le_refl _ | (simp <;> omega)) _))).mono ?_
  rintro e w2 ⟨rfl, A⟩
  obtain ⟨hpd, hblk⟩ := HB.out (w.alloc (.cells #[.int .i64 0, .int .i64 id, .int .i64 a] 42)) w2 (by repeat (first | exact Below.refl _ _ | assumption | refine Below.drew ?_ | refine below_drawn ?_ _ | refine Below.alloc ?_ (by first | exact Nat.le_refl _ | (simp <;> omega)) _)) (by simp) (by obtain ⟨_, _, hs, _⟩ := A; exact hs)
  rw [heap_alloc_new] at hblk
  obtain ⟨o0, o1, o2⟩ := three_cells hblk
  obtain ⟨r0, r1⟩ := rw_cells hpd.1
  have hRw2 : R < w2.heap.size := (Array.getElem?_eq_some_iff.1 hpd.1).1
  have how2 : w.heap.size < w2.heap.size := (Array.getElem?_eq_some_iff.1 hblk).1
  clear hpd hblk
  go_wp2_with fail
  go_quiet (fail)
  go_wp2
  go_ret
  exact ⟨rfl, ringAns_below (HE.out _ _ _ (show Below w.heap.size w (w.alloc (.cells #[.int .i64 0, .int .i64 id, .int .i64 a] 42)) from (by repeat (first | exact Below.refl _ _ | assumption | refine Below.drew ?_ | refine below_drawn ?_ _ | refine Below.alloc ?_ (by first | exact Nat.le_refl _ | (simp <;> omega)) _))) A (by omega)) (by repeat (first | exact Below.refl _ _ | assumption | refine Below.drew ?_ | refine below_drawn ?_ _ | refine Below.alloc ?_ (by first | exact Nat.le_refl _ | (simp <;> omega)) _))⟩

set_option maxRecDepth 100000 in
set_option maxHeartbeats 4000000 in
theorem rings_set_taken (B R x : Nat) (own : Nat → Prop) (v : Value) (now : Int) (L : List (Int × Int)) (id a : Int) (w : World) (h : ringSt w B R x own v now L) (hl : L.length * 16 + 16 ≤ 140737488351232) (ha : ¬ a ≤ now) (hq : 0 ≤ idxT L id) :
    Calls Try.prog 11 #[.pointer (some ⟨R, 0, none⟩), .pointer (some ⟨x, 0, none⟩), .agg #[.int .i64 0, .int .i64 id, .int .i64 a]] w fun e w' => e = .returned (.bool true) ∧ ringAns w w' B R x own v (L.length + 1) := by
  have HFI : Hid (∀ W, Below w.heap.size w W → Calls Try.prog 20 #[.pointer (some ⟨R, 0, none⟩), .int .i64 id] W fun e w' => e = .returned (.int .i64 (idxT L id)) ∧ W = w') :=
    fun W hW => find_any R v L id W (rw_cells (pend_below h.pend hW).1).2 (duesAt_of (pend_below h.pend hW).2) (by omega)
  have HB : Hid (∀ W w2, Below w.heap.size w W → w.heap.size < W.heap.size → Same own W w2 → pendAt w2 B R now v L ∧ w2.heap[w.heap.size]? = W.heap[w.heap.size]?) := fun W w2 hW hz hs =>
    ⟨pend_behind (pend_below h.pend hW) hs h.apart, hs.block _ hz (fun e => by have := pwW_lt h.pw _ e; omega)⟩
  have HE : Hid (∀ W w2 n, Below w.heap.size w W → pwAns pwW W w2 x own now L → L.length ≤ n → ringAns w w2 B R x own v n) := fun W w2 n hW ha hn => ring_end h hW ha rfl hn
  have HSE : Hid (∀ W, Below w.heap.size w W → Calls Try.prog 21 #[.pointer (some ⟨x, 0, none⟩), .int .i64 id, .int .i64 a] W fun e w' => e = .returned (.int .i64 (setE now L id a)) ∧ pwAns pwW W w' x own now (setL now L id a)) :=
    fun W hW => set_any id a (pw_below h.pw hW) hl
  have hse : setE now L id a = 4 ∧ setL now L id a = L := by simp [setE, setL, ha, hq]
  rw [hse.1, hse.2] at HSE
  have ha' : decide (a ≤ now) = false := by simpa using ha
  generalize idxT L id = q at HFI hq
  clear h hse
  go_enter Try.func11, Try.ntmps11
  go_wp2_with fail
  refine (HFI.out _ (by repeat (first | exact Below.refl _ _ | assumption | refine Below.drew ?_ | refine below_drawn ?_ _ | refine Below.alloc ?_ (by first | exact Nat.le_refl _ | (simp <;> omega)) _))).mono ?_
  rintro e w1 ⟨rfl, rfl⟩
  go_wp2_with fail
  refine (HSE.out _ (by repeat (first | exact Below.refl _ _ | assumption | refine Below.drew ?_ | refine below_drawn ?_ _ | refine Below.alloc ?_ (by first | exact Nat.le_refl _ | (simp <;> omega)) _))).mono ?_
  rintro e w2 ⟨rfl, A⟩
  obtain ⟨hpd, hblk⟩ := HB.out (w.alloc (.cells #[.int .i64 0, .int .i64 id, .int .i64 a] 42)) w2 (by repeat (first | exact Below.refl _ _ | assumption | refine Below.drew ?_ | refine below_drawn ?_ _ | refine Below.alloc ?_ (by first | exact Nat.le_refl _ | (simp <;> omega)) _)) (by simp) (by obtain ⟨_, _, hs, _⟩ := A; exact hs)
  rw [heap_alloc_new] at hblk
  obtain ⟨o0, o1, o2⟩ := three_cells hblk
  obtain ⟨r0, r1⟩ := rw_cells hpd.1
  have hRw2 : R < w2.heap.size := (Array.getElem?_eq_some_iff.1 hpd.1).1
  have how2 : w.heap.size < w2.heap.size := (Array.getElem?_eq_some_iff.1 hblk).1
  clear hpd hblk
  go_wp2_with fail
  go_quiet (fail)
  go_wp2
  go_ret
  exact ⟨rfl, ringAns_below (HE.out _ _ _ (show Below w.heap.size w (w.alloc (.cells #[.int .i64 0, .int .i64 id, .int .i64 a] 42)) from (by repeat (first | exact Below.refl _ _ | assumption | refine Below.drew ?_ | refine below_drawn ?_ _ | refine Below.alloc ?_ (by first | exact Nat.le_refl _ | (simp <;> omega)) _))) A (by omega)) (by repeat (first | exact Below.refl _ _ | assumption | refine Below.drew ?_ | refine below_drawn ?_ _ | refine Below.alloc ?_ (by first | exact Nat.le_refl _ | (simp <;> omega)) _))⟩

set_option maxRecDepth 100000 in
set_option maxHeartbeats 4000000 in
theorem rings_set_new (B R x : Nat) (own : Nat → Prop) (v : Value) (now : Int) (L : List (Int × Int)) (id a : Int) (w : World) (hB : B ≤ w.heap.size) (h : ringSt w B R x own v now L) (hl : L.length * 16 + 16 ≤ 140737488351232) (ha : ¬ a ≤ now) (hq : ¬ 0 ≤ idxT L id) :
    Calls Try.prog 11 #[.pointer (some ⟨R, 0, none⟩), .pointer (some ⟨x, 0, none⟩), .agg #[.int .i64 0, .int .i64 id, .int .i64 a]] w fun e w' => e = .returned (.bool true) ∧ ringAns w w' B R x own v (L.length + 1) := by
  obtain ⟨i0, hi, hz0, hz1, hz2⟩ := info_parts Try.infoDue
  have HFI : Hid (∀ W, Below w.heap.size w W → Calls Try.prog 20 #[.pointer (some ⟨R, 0, none⟩), .int .i64 id] W fun e w' => e = .returned (.int .i64 (idxT L id)) ∧ W = w') :=
    fun W hW => find_any R v L id W (rw_cells (pend_below h.pend hW).1).2 (duesAt_of (pend_below h.pend hW).2) (by omega)
  have HB : Hid (∀ W w2, Below w.heap.size w W → w.heap.size < W.heap.size → Same own W w2 → pendAt w2 B R now v L ∧ w2.heap[w.heap.size]? = W.heap[w.heap.size]?) := fun W w2 hW hz hs =>
    ⟨pend_behind (pend_below h.pend hW) hs h.apart, hs.block _ hz (fun e => by have := pwW_lt h.pw _ e; omega)⟩
  have HE : Hid (∀ W w2 n, Below w.heap.size w W → pwAns pwW W w2 x own now L → L.length ≤ n → ringAns w w2 B R x own v n) := fun W w2 n hW ha hn => ring_end h hW ha rfl hn
  have HSE : Hid (∀ W, Below w.heap.size w W → Calls Try.prog 21 #[.pointer (some ⟨x, 0, none⟩), .int .i64 id, .int .i64 a] W fun e w' => e = .returned (.int .i64 (setE now L id a)) ∧ pwAns pwW W w' x own now (setL now L id a)) :=
    fun W hW => set_any id a (pw_below h.pw hW) hl
  have hse : setE now L id a = 0 ∧ setL now L id a = L ++ [(a, id)] := by simp [setE, setL, ha, hq]
  rw [hse.1, hse.2] at HSE
  have ha' : decide (a ≤ now) = false := by simpa using ha
  have hq' : decide (0 ≤ idxT L id) = false := by simpa using hq
  have HX : Hid (∀ W w2 w3 v' O, Below w.heap.size w W → pwAns pwW W w2 x own now (L ++ [(a, id)]) → w3.ownsRow B 62 2 v' (L.length + 1) (flatT L ++ [.int .i64 a, .int .i64 id]) → (w2.alloc O).grownBy w3 v.ownBlock → (v'.ownBlock = v.ownBlock ∨ v'.ownBlock = some (w2.alloc O).heap.size) → ringAns w (w3.setCell ⟨R, 1, none⟩ v') B R x own v (L.length + 1)) := fun W w2 w3 v' O a b c d e => ring_more h a b c d e
  obtain ⟨va, vc, rfl⟩ := pend_slice h.pend
  have hBw : B ≤ w.heap.size := hB
  generalize idxT L id = q at HFI hq hq'
  clear h hse HE
  go_enter Try.func11, Try.ntmps11
  go_wp2_with fail
  refine (HFI.out _ (by repeat (first | exact Below.refl _ _ | assumption | refine Below.drew ?_ | refine below_drawn ?_ _ | refine Below.alloc ?_ (by first | exact Nat.le_refl _ | (simp <;> omega)) _))).mono ?_
  rintro e w1 ⟨rfl, rfl⟩
  go_wp2_with fail
  refine (HSE.out _ (by repeat (first | exact Below.refl _ _ | assumption | refine Below.drew ?_ | refine below_drawn ?_ _ | refine Below.alloc ?_ (by first | exact Nat.le_refl _ | (simp <;> omega)) _))).mono ?_
  rintro e w2 ⟨rfl, A⟩
  obtain ⟨hpd, hblk⟩ := HB.out (w.alloc (.cells #[.int .i64 0, .int .i64 id, .int .i64 a] 42)) w2 (by repeat (first | exact Below.refl _ _ | assumption | refine Below.drew ?_ | refine below_drawn ?_ _ | refine Below.alloc ?_ (by first | exact Nat.le_refl _ | (simp <;> omega)) _)) (by simp) (by obtain ⟨_, _, hs, _⟩ := A; exact hs)
  rw [heap_alloc_new] at hblk
  obtain ⟨o0, o1, o2⟩ := three_cells hblk
  obtain ⟨r0, r1⟩ := rw_cells hpd.1
  have hRw2 : R < w2.heap.size := (Array.getElem?_eq_some_iff.1 hpd.1).1
  have how2 : w.heap.size < w2.heap.size := (Array.getElem?_eq_some_iff.1 hblk).1
  have f1 := row_free hpd.1 1
  have HO := hpd.2
  go_wp2_with fail
  go_quiet (fail)
  have hO3 := ownsRow_below HO (show Below w2.heap.size w2 (w2.drewN nq) from (by repeat (first | exact Below.refl _ _ | assumption | refine Below.drew ?_ | refine below_drawn ?_ _ | refine Below.alloc ?_ (by first | exact Nat.le_refl _ | (simp <;> omega)) _))) (Nat.le_refl _)
  have hRb : (w2.drewN nq).heap[R]? = some (.cells #[.int .i64 now, .slice va L.length vc] 39 (0, 0)) := hpd.1
  have hOb : (w2.drewN nq).heap[w.heap.size]? = some (.cells #[.int .i64 0, .int .i64 id, .int .i64 a] 42 (0, 0)) := hblk
  have hvR : Value.ownBlock (.slice va L.length vc) ≠ some R := pend_ne hpd
  have A3 := pwAns_below A (show Below w2.heap.size w2 (w2.drewN nq) from (by repeat (first | exact Below.refl _ _ | assumption | refine Below.drew ?_ | refine below_drawn ?_ _ | refine Below.alloc ?_ (by first | exact Nat.le_refl _ | (simp <;> omega)) _)))
  clear o0 o1 o2 r0 r1 f1 hpd hblk A HO hRw2 how2
  generalize w2.drewN nq = wq at *
  clear w2 HFI HSE HB
  obtain ⟨o0, o1, o2⟩ := three_cells hOb
  obtain ⟨r0, r1⟩ := rw_cells hRb
  have hRwq : R < wq.heap.size := (Array.getElem?_eq_some_iff.1 hRb).1
  have howq : w.heap.size < wq.heap.size := (Array.getElem?_eq_some_iff.1 hOb).1
  have HX2 : Hid (∀ w3 v' O, w3.ownsRow B 62 2 v' (L.length + 1) (flatT L ++ [.int .i64 a, .int .i64 id]) → (wq.alloc O).grownBy w3 (Value.ownBlock (.slice va L.length vc)) → (v'.ownBlock = Value.ownBlock (.slice va L.length vc) ∨ v'.ownBlock = some (wq.alloc O).heap.size) → ringAns w (w3.setCell ⟨R, 1, none⟩ v') B R x own (.slice va L.length vc) (L.length + 1)) := fun w3 v' O h1 h2 h3 => HX.out _ _ _ _ _ (show Below w.heap.size w (w.alloc (.cells #[.int .i64 0, .int .i64 id, .int .i64 a] 42)) from (by repeat (first | exact Below.refl _ _ | assumption | refine Below.drew ?_ | refine below_drawn ?_ _ | refine Below.alloc ?_ (by first | exact Nat.le_refl _ | (simp <;> omega)) _))) A3 h1 h2 h3
  clear A3 HX
  go_wp2_with fail
  go_region_law ((refine step_append_lies _ (by rfl) _ _ _ (by rfl) B 62 i0 (.agg #[.int .i64 0, .int .i64 0]) 2 16 Try.underlying37 hi hz0 hz1 hz2 rfl (by omega) (.slice va L.length vc) L.length (flatT L) (by rfl) ((hO3.alloc _).drew) ⟨wq.heap.size, 0, none⟩ 1 1 [.int .i64 a, .int .i64 id] (by rfl) (by rfl) (World.news_of_block (cs := #[.int .i64 a, .int .i64 id]) (t := 62) (fr := (0, 0)) (heap_alloc_new wq _)) (by simp [Value.oneCell']) (by omega) (by unfold maxLen; omega) (by omega) (by simp; omega) (wq.heap.size + 1) (by simp) ?_
                  intro gg cap w3 hown3 hgrow hat hlt
                  have hR3 : w3.heap[R]? = some (.cells #[.int .i64 now, .slice va L.length vc] 39 (0, 0)) := (hgrow.block R (by simp; omega) (fun e => hvR e.symm)).trans ((Below.heap_alloc wq _ R hRwq).trans hRb)
                  have g1 := (rw_cells hR3).2
                  have gf := row_free hR3 1))
  all_goals (go_wp2; go_ret)
  all_goals exact ⟨rfl, ringAns_below (HX2.out w3 _ (.cells #[.int .i64 a, .int .i64 id] 62) hown3 ⟨hgrow.os, hgrow.tape, hgrow.output, hgrow.size, hgrow.block⟩ (hat.elim (fun e => .inl (by rw [e]; rfl)) (fun e => .inr (by rw [e]; simp [Value.ownBlock])))) (by repeat (first | exact Below.refl _ _ | assumption | refine Below.drew ?_ | refine below_drawn ?_ _ | refine Below.alloc ?_ (by first | exact Nat.le_refl _ | (simp <;> omega)) _))⟩

end Go.Proofs.Ytfhncfghblkgeaa
