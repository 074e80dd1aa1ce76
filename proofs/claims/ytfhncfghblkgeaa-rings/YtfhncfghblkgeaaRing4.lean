/-
  salekeep's step on timers: Unset and Advance. (Written by ringgen4.py.)
-/
import Derived.Test.YtfhncfghblkgeaaRing3
namespace Go.Proofs.Ytfhncfghblkgeaa
open Go.RowKit

/-- Behind Unset and drop: one timer less in both. -/
theorem ring_less {w W w2 W3 w4 : World} {B R x : Nat} {own : Nat → Prop} {v v' : Value} {now : Int} {L L2 : List (Int × Int)} {n : Nat} (h : ringSt w B R x own v now L) (hb : Below w.heap.size w W) (h2 : pwAns pwW W w2 x own now L2) (hb3 : Below w2.heap.size w2 W3)
    (hp4 : pendAt w4 B R now v' L2) (hv : v'.ownBlock = v.ownBlock) (hs4 : Same (fun b => b = R ∨ v.ownBlock = some b) W3 w4) (hn : L2.length ≤ n) : ringAns w w4 B R x own v n := by
  obtain ⟨own', hp, hs, hf⟩ := h2
  have hz := hb.size
  have z2 := hs.size
  have hR : R < w.heap.size := (Array.getElem?_eq_some_iff.1 h.pend.1).1
  have kv := World.ownsRow.lt h.pend.2
  have nR : ¬ own' R := fun e => (hf R e).elim h.apart.1 (fun h' => by omega)
  have nv : ∀ k, v.ownBlock = some k → ¬ own' k := fun k hk e => (hf k e).elim (h.apart.2 k hk) (fun h' => by have := (kv k hk).2; omega)
  have lt2 := pwW_lt hp
  refine ⟨own', v', now, L2, ⟨hp4, ?_, nR, fun k hk => nv k (hv ▸ hk)⟩, hn, ?_, fun k hk => (hf k hk).imp id (Nat.le_trans hz), fun k hk => .inl (hv ▸ hk)⟩
  · exact pwW_keep (pw_below hp hb3) hs4.size (fun k hk => hs4.block k (Nat.lt_of_lt_of_le (lt2 k hk) hb3.size) (fun e => e.elim (fun e => nR (e ▸ hk)) (fun e => nv k e hk)))
  · exact Same.trans (Same.trans (Same.trans (Same.of_below (own := fun _ => False) hb) hs (o := own) (fun k _ e => e.elim False.elim id)) (Same.of_below (own := fun _ => False) hb3) (o := own) (fun k _ e => e.elim id False.elim)) hs4 (fun k _ e => e.elim .inl .inr)

theorem below_set_drawn (w2 : World) (nq : Nat) (p : Addr) (u : Value) (n : Nat) : Below n (w2.setCell p u) ((w2.drewN nq).setCell p u) := ⟨rfl, rfl, rfl, Nat.le_refl _, fun _ _ => rfl⟩

/-- Behind Advance. -/
theorem ring_adv {w W w2 w4 : World} {B R x : Nat} {own own' : Nat → Prop} {v v' : Value} {now to : Int} {L L2 : List (Int × Int)} {n : Nat} (h : ringSt w B R x own v now L) (hb : Below w.heap.size w W) (hp : pwW w2 x own' to L2) (hs : Same own W w2) (hf : ∀ k, own' k → own k ∨ W.heap.size ≤ k)
    (hp4 : pendAt w4 B R to v' L2) (hv : v'.ownBlock = v.ownBlock) (hs4 : Same (fun b => b = R ∨ v.ownBlock = some b) w2 w4) (hn : L2.length ≤ n) : ringAns w w4 B R x own v n := by
  have hz := hb.size
  have z2 := hs.size
  have hR : R < w.heap.size := (Array.getElem?_eq_some_iff.1 h.pend.1).1
  have kv := World.ownsRow.lt h.pend.2
  have nR : ¬ own' R := fun e => (hf R e).elim h.apart.1 (fun h' => by omega)
  have nv : ∀ k, v.ownBlock = some k → ¬ own' k := fun k hk e => (hf k e).elim (h.apart.2 k hk) (fun h' => by have := (kv k hk).2; omega)
  have lt2 := pwW_lt hp
  refine ⟨own', v', to, L2, ⟨hp4, ?_, nR, fun k hk => nv k (hv ▸ hk)⟩, hn, ?_, fun k hk => (hf k hk).imp id (Nat.le_trans hz), fun k hk => .inl (hv ▸ hk)⟩
  · exact pwW_keep hp hs4.size (fun k hk => hs4.block k (lt2 k hk) (fun e => e.elim (fun e => nR (e ▸ hk)) (fun e => nv k e hk)))
  · exact Same.trans (Same.trans (Same.of_below (own := fun _ => False) hb) hs (o := own) (fun k _ e => e.elim False.elim id)) hs4 (fun k _ e => e.elim .inl .inr)

set_option maxRecDepth 100000 in
set_option maxHeartbeats 4000000 in
theorem rings_unset_none (B R x : Nat) (own : Nat → Prop) (v : Value) (now : Int) (L : List (Int × Int)) (id a : Int) (w : World) (h : ringSt w B R x own v now L) (hl : L.length * 16 + 16 ≤ 140737488351232) (hq : idxT L id < 0) :
    Calls Try.prog 11 #[.pointer (some ⟨R, 0, none⟩), .pointer (some ⟨x, 0, none⟩), .agg #[.int .i64 1, .int .i64 id, .int .i64 a]] w fun e w' => e = .returned (.bool true) ∧ ringAns w w' B R x own v (L.length + 1) := by
  have HFI : Hid (∀ W, Below w.heap.size w W → Calls Try.prog 20 #[.pointer (some ⟨R, 0, none⟩), .int .i64 id] W fun e w' => e = .returned (.int .i64 (idxT L id)) ∧ W = w') :=
    fun W hW => find_any R v L id W (rw_cells (pend_below h.pend hW).1).2 (duesAt_of (pend_below h.pend hW).2) (by omega)
  have HB : Hid (∀ W w2, Below w.heap.size w W → w.heap.size < W.heap.size → Same own W w2 → pendAt w2 B R now v L ∧ w2.heap[w.heap.size]? = W.heap[w.heap.size]?) := fun W w2 hW hz hs =>
    ⟨pend_behind (pend_below h.pend hW) hs h.apart, hs.block _ hz (fun e => by have := pwW_lt h.pw _ e; omega)⟩
  have HE : Hid (∀ W w2 n, Below w.heap.size w W → pwAns pwW W w2 x own now L → L.length ≤ n → ringAns w w2 B R x own v n) := fun W w2 n hW ha hn => ring_end h hW ha rfl hn
  have HSE : Hid (∀ W, Below w.heap.size w W → Calls Try.prog 22 #[.pointer (some ⟨x, 0, none⟩), .int .i64 id] W fun e w' => e = .returned (.int .i64 (unsetE L id)) ∧ pwAns pwW W w' x own now (unsetL L id)) :=
    fun W hW => unset_any id (pw_below h.pw hW) hl
  have hse : unsetE L id = 5 ∧ unsetL L id = L := by simp [unsetE, unsetL, hq]
  rw [hse.1, hse.2] at HSE
  generalize idxT L id = q at HFI hq
  clear h hse
  go_enter Try.func11, Try.ntmps11
  go_wp2_with fail
  refine (HFI.out _ (by repeat (first | exact Below.refl _ _ | assumption | refine Below.drew ?_ | refine below_drawn ?_ _ | refine Below.alloc ?_ (by first | exact Nat.le_refl _ | (simp <;> omega)) _))).mono ?_
  rintro e w1 ⟨rfl, rfl⟩
  go_wp2_with fail
  refine (HSE.out _ (by repeat (first | exact Below.refl _ _ | assumption | refine Below.drew ?_ | refine below_drawn ?_ _ | refine Below.alloc ?_ (by first | exact Nat.le_refl _ | (simp <;> omega)) _))).mono ?_
  rintro e w2 ⟨rfl, A⟩
  obtain ⟨hpd, hblk⟩ := HB.out (w.alloc (.cells #[.int .i64 1, .int .i64 id, .int .i64 a] 42)) w2 (by repeat (first | exact Below.refl _ _ | assumption | refine Below.drew ?_ | refine below_drawn ?_ _ | refine Below.alloc ?_ (by first | exact Nat.le_refl _ | (simp <;> omega)) _)) (by simp) (by obtain ⟨_, _, hs, _⟩ := A; exact hs)
  rw [heap_alloc_new] at hblk
  obtain ⟨o0, o1, o2⟩ := three_cells hblk
  obtain ⟨r0, r1⟩ := rw_cells hpd.1
  have hRw2 : R < w2.heap.size := (Array.getElem?_eq_some_iff.1 hpd.1).1
  have how2 : w.heap.size < w2.heap.size := (Array.getElem?_eq_some_iff.1 hblk).1
  clear hpd hblk
  go_wp2
  go_ret
  exact ⟨rfl, ringAns_below (HE.out _ _ _ (show Below w.heap.size w (w.alloc (.cells #[.int .i64 1, .int .i64 id, .int .i64 a] 42)) from (by repeat (first | exact Below.refl _ _ | assumption | refine Below.drew ?_ | refine below_drawn ?_ _ | refine Below.alloc ?_ (by first | exact Nat.le_refl _ | (simp <;> omega)) _))) A (by omega)) (by repeat (first | exact Below.refl _ _ | assumption | refine Below.drew ?_ | refine below_drawn ?_ _ | refine Below.alloc ?_ (by first | exact Nat.le_refl _ | (simp <;> omega)) _))⟩

set_option maxRecDepth 100000 in
set_option maxHeartbeats 4000000 in
theorem rings_unset_some (B R x : Nat) (own : Nat → Prop) (v : Value) (now : Int) (L : List (Int × Int)) (id a : Int) (w : World) (h : ringSt w B R x own v now L) (hl : L.length * 16 + 16 ≤ 140737488351232) (q : Nat) (hq : idxT L id = q) (hql : q < L.length) :
    Calls Try.prog 11 #[.pointer (some ⟨R, 0, none⟩), .pointer (some ⟨x, 0, none⟩), .agg #[.int .i64 1, .int .i64 id, .int .i64 a]] w fun e w' => e = .returned (.bool true) ∧ ringAns w w' B R x own v (L.length + 1) := by
  have HFI : Hid (∀ W, Below w.heap.size w W → Calls Try.prog 20 #[.pointer (some ⟨R, 0, none⟩), .int .i64 id] W fun e w' => e = .returned (.int .i64 (idxT L id)) ∧ W = w') :=
    fun W hW => find_any R v L id W (rw_cells (pend_below h.pend hW).1).2 (duesAt_of (pend_below h.pend hW).2) (by omega)
  have HB : Hid (∀ W w2, Below w.heap.size w W → w.heap.size < W.heap.size → Same own W w2 → pendAt w2 B R now v L ∧ w2.heap[w.heap.size]? = W.heap[w.heap.size]?) := fun W w2 hW hz hs =>
    ⟨pend_behind (pend_below h.pend hW) hs h.apart, hs.block _ hz (fun e => by have := pwW_lt h.pw _ e; omega)⟩
  have HE : Hid (∀ W w2 n, Below w.heap.size w W → pwAns pwW W w2 x own now L → L.length ≤ n → ringAns w w2 B R x own v n) := fun W w2 n hW ha hn => ring_end h hW ha rfl hn
  have HSE : Hid (∀ W, Below w.heap.size w W → Calls Try.prog 22 #[.pointer (some ⟨x, 0, none⟩), .int .i64 id] W fun e w' => e = .returned (.int .i64 (unsetE L id)) ∧ pwAns pwW W w' x own now (unsetL L id)) :=
    fun W hW => unset_any id (pw_below h.pw hW) hl
  have hse : unsetE L id = 0 ∧ unsetL L id = L.eraseIdx q := by rw [unsetE, unsetL, hq, if_neg (by omega), if_neg (by omega), Int.toNat_natCast]; exact ⟨rfl, rfl⟩
  rw [hse.1, hse.2] at HSE
  rw [hq] at HFI
  have hel : (L.eraseIdx q).length = L.length - 1 := List.length_eraseIdx_of_lt hql
  have HDR : Hid (∀ W w2 W3, Below w.heap.size w W → pwAns pwW W w2 x own now (L.eraseIdx q) → pendAt w2 B R now v L → Below w2.heap.size w2 W3 → Calls Try.prog 23 #[.pointer (some ⟨R, 0, none⟩), .int .i64 q] W3 fun e w' => e = .returned (.tuple #[]) ∧ ringAns w w' B R x own v (L.length + 1)) := by
    intro W w2 W3 hb h2 hp hb3
    have hp3 := pend_below hp hb3
    obtain ⟨va, vc, rfl, hvc⟩ := duesAt_of hp3.2
    obtain ⟨g, rfl, _, _⟩ := hvc (by omega)
    refine (pdrop_any B R now g vc L q W3 hp3 hql (by omega)).mono ?_
    rintro e w' ⟨rfl, hp', hs'⟩
    exact ⟨rfl, ring_less h hb h2 hb3 hp' rfl ⟨hs'.os, hs'.tape, hs'.output, hs'.size, fun k hk hn => hs'.block k hk (fun e => hn (e.imp (fun e => e) (fun e => by rw [e]; rfl)))⟩ (by omega)⟩
  have hq0 : decide ((q : Int) < 0) = false := by simp
  clear h hse HE hel
  go_enter Try.func11, Try.ntmps11
  go_wp2_with fail
  refine (HFI.out _ (by repeat (first | exact Below.refl _ _ | assumption | refine Below.drew ?_ | refine below_drawn ?_ _ | refine Below.alloc ?_ (by first | exact Nat.le_refl _ | (simp <;> omega)) _))).mono ?_
  rintro e w1 ⟨rfl, rfl⟩
  go_wp2_with fail
  refine (HSE.out _ (by repeat (first | exact Below.refl _ _ | assumption | refine Below.drew ?_ | refine below_drawn ?_ _ | refine Below.alloc ?_ (by first | exact Nat.le_refl _ | (simp <;> omega)) _))).mono ?_
  rintro e w2 ⟨rfl, A⟩
  obtain ⟨hpd, hblk⟩ := HB.out (w.alloc (.cells #[.int .i64 1, .int .i64 id, .int .i64 a] 42)) w2 (by repeat (first | exact Below.refl _ _ | assumption | refine Below.drew ?_ | refine below_drawn ?_ _ | refine Below.alloc ?_ (by first | exact Nat.le_refl _ | (simp <;> omega)) _)) (by simp) (by obtain ⟨_, _, hs, _⟩ := A; exact hs)
  rw [heap_alloc_new] at hblk
  obtain ⟨o0, o1, o2⟩ := three_cells hblk
  obtain ⟨r0, r1⟩ := rw_cells hpd.1
  have hRw2 : R < w2.heap.size := (Array.getElem?_eq_some_iff.1 hpd.1).1
  have how2 : w.heap.size < w2.heap.size := (Array.getElem?_eq_some_iff.1 hblk).1
  have HD2 : Hid (∀ W3, Below w2.heap.size w2 W3 → Calls Try.prog 23 #[.pointer (some ⟨R, 0, none⟩), .int .i64 q] W3 fun e w' => e = .returned (.tuple #[]) ∧ ringAns w w' B R x own v (L.length + 1)) := fun W3 hb3 => HDR.out _ _ W3 (show Below w.heap.size w (w.alloc (.cells #[.int .i64 1, .int .i64 id, .int .i64 a] 42)) from (by repeat (first | exact Below.refl _ _ | assumption | refine Below.drew ?_ | refine below_drawn ?_ _ | refine Below.alloc ?_ (by first | exact Nat.le_refl _ | (simp <;> omega)) _))) A hpd hb3
  clear hpd hblk A
  go_wp2_with (go_at_call 23; refine (HD2.out _ (by repeat (first | exact Below.refl _ _ | assumption | refine Below.drew ?_ | refine below_drawn ?_ _ | refine Below.alloc ?_ (by first | exact Nat.le_refl _ | (simp <;> omega)) _))).mono ?_; rintro e w4 ⟨rfl, HA⟩)
  go_ret
  exact ⟨rfl, HA⟩

set_option maxRecDepth 100000 in
set_option maxHeartbeats 4000000 in
theorem rings_adv_arg (B R x : Nat) (own : Nat → Prop) (v : Value) (now : Int) (L : List (Int × Int)) (id a : Int) (w : World) (h : ringSt w B R x own v now L) (hl : L.length * 16 + 16 ≤ 140737488351232) (kind : Int) (hk0 : (kind == 0) = false) (hk1 : (kind == 1) = false) (ha : a < now) :
    Calls Try.prog 11 #[.pointer (some ⟨R, 0, none⟩), .pointer (some ⟨x, 0, none⟩), .agg #[.int .i64 kind, .int .i64 id, .int .i64 a]] w fun e w' => e = .returned (.bool true) ∧ ringAns w w' B R x own v (L.length + 1) := by
  have HFI : Hid (∀ W, Below w.heap.size w W → Calls Try.prog 20 #[.pointer (some ⟨R, 0, none⟩), .int .i64 id] W fun e w' => e = .returned (.int .i64 (idxT L id)) ∧ W = w') :=
    fun W hW => find_any R v L id W (rw_cells (pend_below h.pend hW).1).2 (duesAt_of (pend_below h.pend hW).2) (by omega)
  have HAD : Hid (∀ W, Below w.heap.size w W → Calls Try.prog 24 #[.pointer (some ⟨x, 0, none⟩), .int .i64 a] W fun e w' => ∃ out own', e = .returned (.tuple #[out, .int .i64 (advE now a)]) ∧ w'.ownsRow W.heap.size 62 2 out (advO now a L).length (flatT (advO now a L)) ∧
      (advE now a ≠ 0 → out = .slice none 0 0) ∧ pwW w' x own' (advT now a) (advL now a L) ∧ Same own W w' ∧ (∀ k, own' k → own k ∨ W.heap.size ≤ k) ∧ (∀ k, out.ownBlock = some k → ¬ own' k)) := fun W hW => advance_any a (pw_below h.pw hW) hl
  have HB : Hid (∀ W w2, Below w.heap.size w W → w.heap.size < W.heap.size → Same own W w2 → pendAt w2 B R now v L ∧ w2.heap[w.heap.size]? = W.heap[w.heap.size]?) := fun W w2 hW hz hs =>
    ⟨pend_behind (pend_below h.pend hW) hs h.apart, hs.block _ hz (fun e => by have := pwW_lt h.pw _ e; omega)⟩
  have hse : advE now a = 3 ∧ advO now a L = [] ∧ advT now a = now ∧ advL now a L = L := by simp [advE, advO, advT, advL, ha]
  rw [hse.1, hse.2.1, hse.2.2.1, hse.2.2.2] at HAD
  have HQ : Hid (∀ w2 w4 own', pwW w2 x own' now L → Same own (w.alloc (.cells #[.int .i64 kind, .int .i64 id, .int .i64 a] 42)) w2 → (∀ k, own' k → own k ∨ ((w.alloc (.cells #[.int .i64 kind, .int .i64 id, .int .i64 a] 42))).heap.size ≤ k) → pendAt w2 B R now v L → Below w2.heap.size w2 w4 → ringAns w w4 B R x own v (L.length + 1)) := fun w2 w4 own' b1 b2 b3 b4 b5 => ringAns_below (ring_adv h (show Below w.heap.size w (w.alloc (.cells #[.int .i64 kind, .int .i64 id, .int .i64 a] 42)) from (by repeat (first | exact Below.refl _ _ | assumption | refine Below.drew ?_ | refine below_drawn ?_ _ | refine Below.alloc ?_ (by first | exact Nat.le_refl _ | (simp <;> omega)) _))) b1 b2 b3 b4 rfl ⟨rfl, rfl, rfl, Nat.le_refl _, fun _ _ _ => rfl⟩ (by omega)) b5
  generalize idxT L id = q at HFI
  clear h hse
  go_enter Try.func11, Try.ntmps11
  go_wp2_with fail
  refine (HFI.out _ (by repeat (first | exact Below.refl _ _ | assumption | refine Below.drew ?_ | refine below_drawn ?_ _ | refine Below.alloc ?_ (by first | exact Nat.le_refl _ | (simp <;> omega)) _))).mono ?_
  rintro e w1 ⟨rfl, rfl⟩
  go_wp2_with fail
  refine (HAD.out (w.alloc (.cells #[.int .i64 kind, .int .i64 id, .int .i64 a] 42)) (by repeat (first | exact Below.refl _ _ | assumption | refine Below.drew ?_ | refine below_drawn ?_ _ | refine Below.alloc ?_ (by first | exact Nat.le_refl _ | (simp <;> omega)) _))).mono ?_
  rintro e w2 ⟨out, own', rfl, a1, a2, a3, a4, a5, a6⟩
  obtain ⟨hpd, hblk⟩ := HB.out (w.alloc (.cells #[.int .i64 kind, .int .i64 id, .int .i64 a] 42)) w2 (by repeat (first | exact Below.refl _ _ | assumption | refine Below.drew ?_ | refine below_drawn ?_ _ | refine Below.alloc ?_ (by first | exact Nat.le_refl _ | (simp <;> omega)) _)) (by simp) a4
  rw [heap_alloc_new] at hblk
  obtain ⟨o0, o1, o2⟩ := three_cells hblk
  obtain ⟨r0, r1⟩ := rw_cells hpd.1
  have f0 := row_free hpd.1 0
  have hRw2 : R < w2.heap.size := (Array.getElem?_eq_some_iff.1 hpd.1).1
  have how2 : w.heap.size < w2.heap.size := (Array.getElem?_eq_some_iff.1 hblk).1
  have a2' := a2 (by decide)
  subst a2'
  have HQ2 : Hid (∀ w4, Below w2.heap.size w2 w4 → ringAns w w4 B R x own v (L.length + 1)) := fun w4 hb => HQ.out _ _ _ a3 a4 a5 hpd hb
  clear a1 a2 a3 a4 a5 a6 hpd hblk HQ
  go_wp2_with fail
  go_quiet (fail)
  have hnl : ∀ w', (binOp .eql 37 (.slice none 0 0) (.slice none 0 0)).run Try.prog w' = .ok (.bool true) w' := fun w' => Lib.run_eql_slice_nil w' 37 62 none 0 0 0 0 (by kernel_rfl)
  go_wp2
  go_ret
  exact ⟨rfl, HQ2.out _ (by repeat (first | exact Below.refl _ _ | assumption | refine Below.drew ?_ | refine below_drawn ?_ _ | refine Below.alloc ?_ (by first | exact Nat.le_refl _ | (simp <;> omega)) _))⟩

set_option maxRecDepth 100000 in
set_option maxHeartbeats 4000000 in
theorem rings_adv_go (B R x : Nat) (own : Nat → Prop) (v : Value) (now : Int) (L : List (Int × Int)) (id a : Int) (w : World) (h : ringSt w B R x own v now L) (hl : L.length * 16 + 16 ≤ 140737488351232) (kind : Int) (hk0 : (kind == 0) = false) (hk1 : (kind == 1) = false) (ha : ¬ a < now) :
    Calls Try.prog 11 #[.pointer (some ⟨R, 0, none⟩), .pointer (some ⟨x, 0, none⟩), .agg #[.int .i64 kind, .int .i64 id, .int .i64 a]] w fun e w' => e = .returned (.bool true) ∧ ringAns w w' B R x own v (L.length + 1) := by
  have HFI : Hid (∀ W, Below w.heap.size w W → Calls Try.prog 20 #[.pointer (some ⟨R, 0, none⟩), .int .i64 id] W fun e w' => e = .returned (.int .i64 (idxT L id)) ∧ W = w') :=
    fun W hW => find_any R v L id W (rw_cells (pend_below h.pend hW).1).2 (duesAt_of (pend_below h.pend hW).2) (by omega)
  have HAD : Hid (∀ W, Below w.heap.size w W → Calls Try.prog 24 #[.pointer (some ⟨x, 0, none⟩), .int .i64 a] W fun e w' => ∃ out own', e = .returned (.tuple #[out, .int .i64 (advE now a)]) ∧ w'.ownsRow W.heap.size 62 2 out (advO now a L).length (flatT (advO now a L)) ∧
      (advE now a ≠ 0 → out = .slice none 0 0) ∧ pwW w' x own' (advT now a) (advL now a L) ∧ Same own W w' ∧ (∀ k, own' k → own k ∨ W.heap.size ≤ k) ∧ (∀ k, out.ownBlock = some k → ¬ own' k)) := fun W hW => advance_any a (pw_below h.pw hW) hl
  have HB : Hid (∀ W w2, Below w.heap.size w W → w.heap.size < W.heap.size → Same own W w2 → pendAt w2 B R now v L ∧ w2.heap[w.heap.size]? = W.heap[w.heap.size]?) := fun W w2 hW hz hs =>
    ⟨pend_behind (pend_below h.pend hW) hs h.apart, hs.block _ hz (fun e => by have := pwW_lt h.pw _ e; omega)⟩
  have hse : advE now a = 0 ∧ advO now a L = (adv a L).1 ∧ advT now a = a ∧ advL now a L = (adv a L).2 := by simp [advE, advO, advT, advL, ha]
  rw [hse.1, hse.2.1, hse.2.2.1, hse.2.2.2] at HAD
  have ha' : decide (a < now) = false := by simpa using ha
  have ho : onceT L := by obtain ⟨_, _, _, _, _, _, h, _⟩ := h.pw; exact h
  have hll : (adv a L).2.length ≤ L.length := by have := advL_len now a L; rwa [hse.2.2.2] at this
  have HGO : Hid (∀ w2 W3 out own', w2.ownsRow ((w.alloc (.cells #[.int .i64 kind, .int .i64 id, .int .i64 a] 42))).heap.size 62 2 out (adv a L).1.length (flatT (adv a L).1) → pwW w2 x own' a (adv a L).2 → Same own (w.alloc (.cells #[.int .i64 kind, .int .i64 id, .int .i64 a] 42)) w2 → (∀ k, own' k → own k ∨ ((w.alloc (.cells #[.int .i64 kind, .int .i64 id, .int .i64 a] 42))).heap.size ≤ k) → pendAt w2 B R now v L → Below w2.heap.size (w2.setCell ⟨R, 0, none⟩ (.int .i64 a)) W3 →
      Calls Try.prog 25 #[.pointer (some ⟨R, 0, none⟩), out, .int .i64 a] W3 fun e w' => e = .returned (.bool true) ∧ ringAns w w' B R x own v (L.length + 1)) := by
    intro w2 W3 out own' a1 a3 a4 a5 hp hb3
    have hR : R < w.heap.size := (Array.getElem?_eq_some_iff.1 h.pend.1).1
    have kv := World.ownsRow.lt h.pend.2
    have hvR := pend_ne hp
    have ko := World.ownsRow.lt a1
    have hzA : ((w.alloc (.cells #[.int .i64 kind, .int .i64 id, .int .i64 a] 42))).heap.size = w.heap.size + 1 := by simp
    rw [hzA] at ko
    have hz2 := a4.size
    rw [hzA] at hz2
    have ks : ∀ k, k ≠ R → (w2.setCell ⟨R, 0, none⟩ (.int .i64 a)).heap[k]? = w2.heap[k]? := fun k hk => Below.heap_setCell _ ⟨R, 0, none⟩ _ _ hk
    have hzs : (w2.setCell ⟨R, 0, none⟩ (.int .i64 a)).heap.size = w2.heap.size := by simp [World.setCell]
    have hp0 : pendAt (w2.setCell ⟨R, 0, none⟩ (.int .i64 a)) B R a v L := ⟨by rw [Joins.block_setCell hp.1]; rfl, owns_keep hp.2 (fun k hk => ks k (fun e => hvR (e ▸ hk)))⟩
    have hb3' : Below (w2.setCell ⟨R, 0, none⟩ (.int .i64 a)).heap.size (w2.setCell ⟨R, 0, none⟩ (.int .i64 a)) W3 := by rw [hzs]; exact hb3
    have hp3 := pend_below hp0 hb3'
    have ho3 : W3.ownsRow ((w.alloc (.cells #[.int .i64 kind, .int .i64 id, .int .i64 a] 42))).heap.size 62 2 out (adv a L).1.length (flatT (adv a L).1) := ownsRow_below (owns_keep a1 (fun k hk => ks k (fun e => by have := (ko k hk).1; omega))) hb3' (Nat.le_refl _)
    have hs3 : Same (fun b => b = R ∨ v.ownBlock = some b) w2 W3 := ⟨hb3.os, hb3.tape, hb3.output, by have := hb3'.size; omega, fun k hk hn => (hb3.block k hk).trans (ks k (fun e => hn (.inl e)))⟩
    refine (gone_any B R a a v out L W3 hp3 (duesAt_of ho3) (fun k hk => ⟨by have := (ko k hk).1; omega, fun e => by have := (ko k hk).1; have := (kv k e).2; omega⟩) ho (by omega)).mono ?_
    rintro e w' ⟨rfl, v', hp', hs', hv'⟩
    exact ⟨rfl, ring_adv h (show Below w.heap.size w (w.alloc (.cells #[.int .i64 kind, .int .i64 id, .int .i64 a] 42)) from (by repeat (first | exact Below.refl _ _ | assumption | refine Below.drew ?_ | refine below_drawn ?_ _ | refine Below.alloc ?_ (by first | exact Nat.le_refl _ | (simp <;> omega)) _))) a3 a4 a5 hp' hv' (Same.trans hs3 hs' (fun k _ e => e.elim (fun e => e) (fun e => e))) (by omega)⟩
  generalize idxT L id = q at HFI
  clear h hse ho hll
  go_enter Try.func11, Try.ntmps11
  go_wp2_with fail
  refine (HFI.out _ (by repeat (first | exact Below.refl _ _ | assumption | refine Below.drew ?_ | refine below_drawn ?_ _ | refine Below.alloc ?_ (by first | exact Nat.le_refl _ | (simp <;> omega)) _))).mono ?_
  rintro e w1 ⟨rfl, rfl⟩
  go_wp2_with fail
  refine (HAD.out (w.alloc (.cells #[.int .i64 kind, .int .i64 id, .int .i64 a] 42)) (by repeat (first | exact Below.refl _ _ | assumption | refine Below.drew ?_ | refine below_drawn ?_ _ | refine Below.alloc ?_ (by first | exact Nat.le_refl _ | (simp <;> omega)) _))).mono ?_
  rintro e w2 ⟨out, own', rfl, a1, a2, a3, a4, a5, a6⟩
  obtain ⟨hpd, hblk⟩ := HB.out (w.alloc (.cells #[.int .i64 kind, .int .i64 id, .int .i64 a] 42)) w2 (by repeat (first | exact Below.refl _ _ | assumption | refine Below.drew ?_ | refine below_drawn ?_ _ | refine Below.alloc ?_ (by first | exact Nat.le_refl _ | (simp <;> omega)) _)) (by simp) a4
  rw [heap_alloc_new] at hblk
  obtain ⟨o0, o1, o2⟩ := three_cells hblk
  obtain ⟨r0, r1⟩ := rw_cells hpd.1
  have f0 := row_free hpd.1 0
  have hRw2 : R < w2.heap.size := (Array.getElem?_eq_some_iff.1 hpd.1).1
  have how2 : w.heap.size < w2.heap.size := (Array.getElem?_eq_some_iff.1 hblk).1
  have HG2 : Hid (∀ W3, Below w2.heap.size (w2.setCell ⟨R, 0, none⟩ (.int .i64 a)) W3 → Calls Try.prog 25 #[.pointer (some ⟨R, 0, none⟩), out, .int .i64 a] W3 fun e w' => e = .returned (.bool true) ∧ ringAns w w' B R x own v (L.length + 1)) := fun W3 hb => HGO.out _ _ _ _ a1 a3 a4 a5 hpd hb
  obtain ⟨ob, oc, rfl⟩ := own_slice a1
  clear a1 a2 a3 a4 a5 a6 hpd hblk HGO
  go_wp2_with fail
  go_quiet (fail)
  go_wp2_with (go_at_call 25; refine (HG2.out _ ?_).mono ?_; exact below_set_drawn _ _ _ _ _; rintro e w4 ⟨rfl, HA⟩)
  go_ret
  exact ⟨rfl, HA⟩

end Go.Proofs.Ytfhncfghblkgeaa
