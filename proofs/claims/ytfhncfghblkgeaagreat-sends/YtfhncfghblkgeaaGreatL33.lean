import Derived.Test.YtfhncfghblkgeaaGreatL30
import Derived.Test.YtfhncfghblkgeaaGreatL32
set_option maxRecDepth 100000
set_option maxHeartbeats 2000000
namespace Go.Proofs.YtfhncfghblkgeaaGreat
open Go.RowKit
theorem sold_books (x R : Nat) (o : OpV) (w : World) (ho : o.k = 13) (b0 b1 b2 b3 b4 : Int) (own : Nat → Prop) (hown : ∀ b, own b → b < w.heap.size) (Q1 Q2 : World → Prop)
 (H1 : Hid (∀ W, Below w.heap.size w W → Calls Tryz.prog 29 #[pt x 0] W fun e w' => e = .returned (.agg #[iv b0, iv b1, iv b2, iv b3, iv b4]) ∧ Q1 w' ∧ Same own W w'))
 (HQ : Hid (∀ W W', Q1 W → Below W.heap.size W W' → Q1 W'))
 (H2 : Hid (∀ W, Q1 W → Calls Tryz.prog 87 #[pt R 0] W fun e w' => e = .returned (.agg #[iv b0, iv b1, iv b2, iv b3, iv b4]) ∧ Q2 w' ∧ Below W.heap.size W w'))
 (HQ2 : Hid (∀ W W', Q2 W → Below W.heap.size W W' → Q2 W')) :
 Calls Tryz.prog 51 #[.agg #[pt x 0, pt R 0], o.val] w fun r w' => r = .returned (.bool true) ∧ Q2 w' := by
 obtain ⟨ok, oa, ob, oc, od, oe, os⟩ := o
 simp only at ho
 subst ho
 unfold OpV.val
 simp only
 go_enter Tryz.func51, Tryz.ntmps51
 go_wp2_with fail
 refine (H1.out _ bL).mono ?_
 rintro e w1 ⟨rfl, hq1, hs1⟩
 have hz1 : w.heap.size + 2 ≤ w1.heap.size := by have := hs1.size; simpa using this
 have pr1 : Hid (w1.heap[w.heap.size]? = some (.cells #[pt x 0, pt R 0] 127 (0, 0))) := (hs1.block w.heap.size (by simp; omega) (fun e => by have := hown _ e; omega)).trans ((Below.heap_alloc _ _ _ (by simp)).trans (heap_alloc_new w _))
 have qr1 : Hid (w1.heap[w.heap.size + 1]? = some (.cells #[iv 13, iv oa, iv ob, iv oc, iv od, iv oe, .string os] 69 (0, 0))) := (hs1.block (w.heap.size + 1) (by simp) (fun e => by have := hown _ e; omega)).trans (by
  have h := heap_alloc_new (w.alloc (.cells #[pt x 0, pt R 0] 127)) (.cells #[iv 13, iv oa, iv ob, iv oc, iv od, iv oe, .string os] 69)
  rwa [show (w.alloc (.cells #[pt x 0, pt R 0] 127)).heap.size = w.heap.size + 1 by simp] at h)
 obtain ⟨u0, u1⟩ := pair_cells pr1.out
 obtain ⟨v0, v1, v2, v3, v4, v5, v6⟩ := seven_cells qr1.out
 have hw0 : w.heap.size < w1.heap.size := by omega
 have hw1 : w.heap.size + 1 < w1.heap.size := by omega
 clear hs1
 go_wp2_with fail
 refine (H2.out _ (HQ.out w1 _ hq1 ((Below.refl _ _).alloc (Nat.le_refl _) _))).mono ?_
 rintro e w2 ⟨rfl, hq2, b2'⟩
 have r2 : Hid (w2.heap[w1.heap.size]? = some (.cells #[iv b0, iv b1, iv b2, iv b3, iv b4] 78 (0, 0))) := (b2'.block _ (by simp)).trans (heap_alloc_new w1 _)
 obtain ⟨y0, y1, y2, y3, y4⟩ := five_cells r2.out
 have hz2 : w1.heap.size < w2.heap.size := (blt r2.out)
 have hqf := HQ2.out w2 _ hq2 ((Below.refl _ _).alloc (Nat.le_refl _) (.cells #[iv b0, iv b1, iv b2, iv b3, iv b4] 78))
 clear b2' hq1 hq2 u0 u1 v0 v1 v2 v3 v4 v5 v6
 go_wp2
 go_ret
 exact ⟨rfl, hqf⟩
theorem sold_account (x R : Nat) (o : OpV) (w : World) (ho : o.k = 14) (b0 b1 b2 b3 : Int) (own : Nat → Prop) (hown : ∀ b, own b → b < w.heap.size) (Q1 Q2 : World → Prop)
 (H1 : Hid (∀ W, Below w.heap.size w W → Calls Tryz.prog 31 #[pt x 0, iv o.b] W fun e w' => e = .returned (.tuple #[.agg #[iv b0, iv b1, iv b2], iv b3]) ∧ Q1 w' ∧ Same own W w'))
 (HQ : Hid (∀ W W', Q1 W → Below W.heap.size W W' → Q1 W'))
 (H2 : Hid (∀ W, Q1 W → Calls Tryz.prog 88 #[pt R 0, iv o.b] W fun e w' => e = .returned (.tuple #[.agg #[iv b0, iv b1, iv b2], iv b3]) ∧ Q2 w' ∧ Below W.heap.size W w'))
 (HQ2 : Hid (∀ W W', Q2 W → Below W.heap.size W W' → Q2 W')) :
 Calls Tryz.prog 51 #[.agg #[pt x 0, pt R 0], o.val] w fun r w' => r = .returned (.bool true) ∧ Q2 w' := by
 obtain ⟨ok, oa, ob, oc, od, oe, os⟩ := o
 simp only at ho
 subst ho
 unfold OpV.val
 simp only
 go_enter Tryz.func51, Tryz.ntmps51
 go_wp2_with fail
 refine (H1.out _ bL).mono ?_
 rintro e w1 ⟨rfl, hq1, hs1⟩
 have hz1 : w.heap.size + 2 ≤ w1.heap.size := by have := hs1.size; simpa using this
 have pr1 : Hid (w1.heap[w.heap.size]? = some (.cells #[pt x 0, pt R 0] 127 (0, 0))) := (hs1.block w.heap.size (by simp; omega) (fun e => by have := hown _ e; omega)).trans ((Below.heap_alloc _ _ _ (by simp)).trans (heap_alloc_new w _))
 have qr1 : Hid (w1.heap[w.heap.size + 1]? = some (.cells #[iv 14, iv oa, iv ob, iv oc, iv od, iv oe, .string os] 69 (0, 0))) := (hs1.block (w.heap.size + 1) (by simp) (fun e => by have := hown _ e; omega)).trans (by
  have h := heap_alloc_new (w.alloc (.cells #[pt x 0, pt R 0] 127)) (.cells #[iv 14, iv oa, iv ob, iv oc, iv od, iv oe, .string os] 69)
  rwa [show (w.alloc (.cells #[pt x 0, pt R 0] 127)).heap.size = w.heap.size + 1 by simp] at h)
 obtain ⟨u0, u1⟩ := pair_cells pr1.out
 obtain ⟨v0, v1, v2, v3, v4, v5, v6⟩ := seven_cells qr1.out
 have hw0 : w.heap.size < w1.heap.size := by omega
 have hw1 : w.heap.size + 1 < w1.heap.size := by omega
 clear hs1
 go_wp2_with fail
 refine (H2.out _ (HQ.out w1 _ hq1 ((Below.refl _ _).alloc (Nat.le_refl _) _))).mono ?_
 rintro e w2 ⟨rfl, hq2, b2'⟩
 have r2 : Hid (w2.heap[w1.heap.size]? = some (.cells #[iv b0, iv b1, iv b2] 87 (0, 0))) := (b2'.block _ (by simp)).trans (heap_alloc_new w1 _)
 obtain ⟨y0, y1, y2⟩ := three_cells' r2.out
 have hz2 : w1.heap.size < w2.heap.size := (blt r2.out)
 have hqf := HQ2.out w2 _ hq2 ((Below.refl _ _).alloc (Nat.le_refl _) (.cells #[iv b0, iv b1, iv b2] 87))
 clear b2' hq1 hq2 u0 u1 v0 v1 v2 v3 v4 v5 v6
 go_wp2
 go_ret
 exact ⟨rfl, hqf⟩
theorem sold_tick (x R : Nat) (o : OpV) (w : World) (ho : o.k = 15) (b0 b1 : Int) (own : Nat → Prop) (hown : ∀ b, own b → b < w.heap.size) (Q1 Q2 : World → Prop)
 (H1 : Hid (∀ W, Below w.heap.size w W → Calls Tryz.prog 36 #[pt x 0, iv o.b] W fun e w' => e = .returned (.tuple #[iv b0, iv b1]) ∧ Q1 w' ∧ Same own W w'))
 (H2 : Hid (∀ W, Q1 W → Calls Tryz.prog 89 #[pt R 0, iv o.b] W fun e w' => e = .returned (.tuple #[iv b0, iv b1]) ∧ Q2 w')) :
 Calls Tryz.prog 51 #[.agg #[pt x 0, pt R 0], o.val] w fun r w' => r = .returned (.bool true) ∧ Q2 w' := by
 obtain ⟨ok, oa, ob, oc, od, oe, os⟩ := o
 simp only at ho
 subst ho
 unfold OpV.val
 simp only
 go_enter Tryz.func51, Tryz.ntmps51
 go_wp2_with fail
 refine (H1.out _ bL).mono ?_
 rintro e w1 ⟨rfl, hq1, hs1⟩
 have hz1 : w.heap.size + 2 ≤ w1.heap.size := by have := hs1.size; simpa using this
 have pr1 : Hid (w1.heap[w.heap.size]? = some (.cells #[pt x 0, pt R 0] 127 (0, 0))) := (hs1.block w.heap.size (by simp; omega) (fun e => by have := hown _ e; omega)).trans ((Below.heap_alloc _ _ _ (by simp)).trans (heap_alloc_new w _))
 have qr1 : Hid (w1.heap[w.heap.size + 1]? = some (.cells #[iv 15, iv oa, iv ob, iv oc, iv od, iv oe, .string os] 69 (0, 0))) := (hs1.block (w.heap.size + 1) (by simp) (fun e => by have := hown _ e; omega)).trans (by
  have h := heap_alloc_new (w.alloc (.cells #[pt x 0, pt R 0] 127)) (.cells #[iv 15, iv oa, iv ob, iv oc, iv od, iv oe, .string os] 69)
  rwa [show (w.alloc (.cells #[pt x 0, pt R 0] 127)).heap.size = w.heap.size + 1 by simp] at h)
 obtain ⟨u0, u1⟩ := pair_cells pr1.out
 obtain ⟨v0, v1, v2, v3, v4, v5, v6⟩ := seven_cells qr1.out
 have hw0 : w.heap.size < w1.heap.size := by omega
 have hw1 : w.heap.size + 1 < w1.heap.size := by omega
 clear hs1
 go_wp2_with fail
 refine (H2.out _ hq1).mono ?_
 rintro e w2 ⟨rfl, hq2⟩
 clear hq1 u0 u1 v0 v1 v2 v3 v4 v5 v6
 go_wp2
 go_ret
 exact ⟨rfl, hq2⟩
theorem sold_clock (x R : Nat) (o : OpV) (w : World) (ho : o.k = 16) (b0 : Int) (own : Nat → Prop) (hown : ∀ b, own b → b < w.heap.size) (Q1 : World → Prop)
 (H1 : Hid (∀ W, Below w.heap.size w W → Calls Tryz.prog 19 #[pt x 0] W fun e w' => e = .returned (iv b0) ∧ Q1 w' ∧ Same own W w'))
 (H2 : Hid (∀ W, Q1 W → W.cell? (aq R 8) = some (iv b0))) :
 Calls Tryz.prog 51 #[.agg #[pt x 0, pt R 0], o.val] w fun r w' => r = .returned (.bool true) ∧ Q1 w' := by
 obtain ⟨ok, oa, ob, oc, od, oe, os⟩ := o
 simp only at ho
 subst ho
 unfold OpV.val
 simp only
 go_enter Tryz.func51, Tryz.ntmps51
 go_wp2_with fail
 refine (H1.out _ bL).mono ?_
 rintro e w1 ⟨rfl, hq1, hs1⟩
 have hz1 : w.heap.size + 2 ≤ w1.heap.size := by have := hs1.size; simpa using this
 have pr1 : Hid (w1.heap[w.heap.size]? = some (.cells #[pt x 0, pt R 0] 127 (0, 0))) := (hs1.block w.heap.size (by simp; omega) (fun e => by have := hown _ e; omega)).trans ((Below.heap_alloc _ _ _ (by simp)).trans (heap_alloc_new w _))
 have qr1 : Hid (w1.heap[w.heap.size + 1]? = some (.cells #[iv 16, iv oa, iv ob, iv oc, iv od, iv oe, .string os] 69 (0, 0))) := (hs1.block (w.heap.size + 1) (by simp) (fun e => by have := hown _ e; omega)).trans (by
  have h := heap_alloc_new (w.alloc (.cells #[pt x 0, pt R 0] 127)) (.cells #[iv 16, iv oa, iv ob, iv oc, iv od, iv oe, .string os] 69)
  rwa [show (w.alloc (.cells #[pt x 0, pt R 0] 127)).heap.size = w.heap.size + 1 by simp] at h)
 obtain ⟨u0, u1⟩ := pair_cells pr1.out
 obtain ⟨v0, v1, v2, v3, v4, v5, v6⟩ := seven_cells qr1.out
 have hw0 : w.heap.size < w1.heap.size := by omega
 have hw1 : w.heap.size + 1 < w1.heap.size := by omega
 clear hs1
 have r8 := H2.out w1 hq1
 have hRw : R < w1.heap.size := World.block_lt_of_cell? w1 _ r8
 go_wp2
 go_ret
 exact ⟨rfl, hq1⟩
section
def Sal.acc (S : Sal) (c : Int) : Int × Int × Int × Int := if numB c then ((S.account c).1, (S.account c).2.1, (S.account c).2.2, 0) else (0, 0, 0, 3)
structure BookOK (PS : World → Nat → (Nat → Prop) → Sal → Prop) : Prop where
 books : ∀ {w x own S}, PS w x own S → salJ S → Calls Tryz.prog 29 #[pt x 0] w fun e w' => e = .returned (.agg #[iv S.free, iv (unitsS S.os 13 0), iv (unitsS S.os 14 0), iv (queueS S.os).length, iv S.answers]) ∧ psAns PS w w' x own S
 account : ∀ {w x own S} (c : Int), PS w x own S → salJ S → Calls Tryz.prog 31 #[pt x 0, iv c] w fun e w' => e = .returned (.tuple #[.agg #[iv (S.acc c).1, iv (S.acc c).2.1, iv (S.acc c).2.2.1], iv (S.acc c).2.2.2]) ∧ psAns PS w w' x own S
structure TickOK (PS : World → Nat → (Nat → Prop) → Sal → Prop) : Prop where
 tick : ∀ {w x own S} (n : Int), -9223372036854775808 ≤ n → n ≤ 9223372036854775807 → PS w x own S → salJ S → Calls Tryz.prog 36 #[pt x 0, iv n] w fun e w' => e = .returned (.tuple #[iv (S.tick n).1.1, iv (S.tick n).1.2]) ∧ psAns PS w w' x own (S.tick n).2
 clock : ∀ {w x own S}, PS w x own S → salJ S → Calls Tryz.prog 19 #[pt x 0] w fun e w' => e = .returned (iv S.now) ∧ psAns PS w w' x own S
theorem past_keep (S : Sal) (st en : Int) : (S.past st en).C = S.C ∧ (S.past st en).now = S.now ∧ (S.past st en).ansL = S.ansL := by
 obtain ⟨a, b, c⟩ := promote_keep (pastN S st en S.os.length)
 obtain ⟨d, e, f⟩ := pastN_keep S st en S.os.length
 exact ⟨a.trans d, b.trans e, c.trans f⟩
theorem round_keep (S : Sal) (t : Int) : (S.round t).C = S.C ∧ (S.round t).ansL = S.ansL ∧ (S.round t).os.length = S.os.length := by
 obtain ⟨a, _, c⟩ := past_keep (({ S with now := t } : Sal).past 13 15) 12 17
 obtain ⟨d, _, f⟩ := past_keep ({ S with now := t } : Sal) 13 15
 exact ⟨a.trans d, c.trans f, (past_len _ 12 17).trans (past_len _ 13 15)⟩
theorem tickN_keep : ∀ (n : Nat) (S : Sal) (to : Int), (tickN n S to).C = S.C ∧ (tickN n S to).ansL = S.ansL ∧ (tickN n S to).os.length = S.os.length
 | 0, _, _ => ⟨rfl, rfl, rfl⟩
 | n + 1, S, to => by
   unfold tickN
   split
   ·exact ⟨rfl, rfl, rfl⟩
   ·obtain ⟨a, b, c⟩ := tickN_keep n (S.round (S.due to)) to
    obtain ⟨d, e, f⟩ := round_keep S (S.due to)
    exact ⟨a.trans d, b.trans e, c.trans f⟩
theorem tick_keep (S : Sal) (n : Int) : (S.tick n).2.C = S.C ∧ (S.tick n).2.ansL = S.ansL ∧ (S.tick n).2.os.length = S.os.length := by
 unfold Sal.tick
 split
 ·exact ⟨rfl, rfl, rfl⟩
 split <;> exact tickN_keep _ _ _
theorem salJ_tick {S : Sal} (h : salJ S) (n : Int) (hI : salI (S.tick n).2) : salJ (S.tick n).2 := by
 obtain ⟨a, b, c⟩ := tick_keep S n
 exact ⟨hI, by rw [a]; exact h.cap, by rw [a]; exact h.queue, by rw [c]; exact h.len, by rw [b]; exact h.ats⟩
section
variable {PS : World → Nat → (Nat → Prop) → Sal → Prop} {w : World} {B j : Nat} {e : SE}
def midQ (PS : World → Nat → (Nat → Prop) → Sal → Prop) (w : World) (B : Nat) (e : SE) (S2 : Sal) (W : World) : Prop :=
 ∃ own', PS W e.x own' S2 ∧ saleAt W B e.R e.S e.ap e.lp e.cp e.vo e.va ∧ Same e.own w W ∧ ∀ k, own' k → e.own k ∨ w.heap.size ≤ k
theorem mid_of (h : entS PS w B j e) {W w' : World} {S2 : Sal} (hW : Below w.heap.size w W) (ha : psAns PS W w' e.x e.own S2) : midQ PS w B e S2 w' ∧ Same e.own W w' := by
 obtain ⟨own', a1, a2, a3⟩ := ha
 have hz := hW.size
 refine ⟨⟨own', a1, saleAt_same (saleAt_below h.ref hW) a2 h.apart.1 h.apart.2.1 h.apart.2.2 (fun _ b off eq ho => ?_), Same.trans (Same.of_below (own := fun _ => False) hW) a2 (fun k _ eq => eq.elim False.elim id), fun k hk => (a3 k hk).imp id (fun eq => by omega)⟩, a2⟩
 have := h.low b ho
 have := h.ref.low b off eq
 omega
theorem mid_below (T : SendOK PS) {S2 : Sal} {W W' : World} (hq : midQ PS w B e S2 W) (hb : Below W.heap.size W W') : midQ PS w B e S2 W' := by
 obtain ⟨own', a1, a2, a3, a4⟩ := hq
 exact ⟨own', T.keep a1 hb.size (fun k hk => hb.block k (T.lt a1 k hk)), saleAt_below a2 hb, Same.trans a3 (Same.of_below (own := fun _ => False) hb) (fun k _ eq => eq.elim id False.elim), a4⟩
theorem ps_at (T : SendOK PS) (h : entS PS w B j e) {W : World} (hW : Below w.heap.size w W) : PS W e.x e.own e.S := T.keep h.ps hW.size (fun k hk => hW.block k (T.lt h.ps k hk))
theorem mid_apart (T : SendOK PS) (h : entS PS w B j e) {own' : Nat → Prop} (ho : ∀ k, own' k → e.own k ∨ w.heap.size ≤ k) {k : Nat} (hk : own' k) : k ≠ e.R ∧ e.vo.ownBlock ≠ some k ∧ e.va.ownBlock ≠ some k := by
 rcases ho k hk with x | x
 ·exact ⟨fun eq => h.apart.1 (eq ▸ x), fun eq => h.apart.2.1 k eq x, fun eq => h.apart.2.2 k eq x⟩
 ·refine ⟨fun eq => ?_, fun eq => ?_, fun eq => ?_⟩
  ·have := ent_lt T h (k := k) (.inr (.inl eq)); omega
  ·have := ent_lt T h (k := k) (.inr (.inr (.inl eq))); omega
  ·have := ent_lt T h (k := k) (.inr (.inr (.inr eq))); omega
theorem mid_end (T : SendOK PS) (h : entS PS w B j e) {W : World} (hq : midQ PS w B e e.S W) : ∃ e2, entS PS W B (j + 1) e2 ∧ e.then e2 w ∧ Same e.fp w W := by
 obtain ⟨own', a1, a2, a3, a4⟩ := hq
 have hRw := ent_lt T h (k := e.R) (.inr (.inl rfl))
 have hBR := h.hBR
 refine ⟨⟨e.x, e.R, own', e.ap, e.lp, e.cp, e.vo, e.va, e.S⟩, ⟨a1, a2, h.J, h.hBR, ⟨fun ho => (mid_apart T h a4 ho).1 rfl, fun k hk ho => (mid_apart T h a4 ho).2.1 hk, fun k hk ho => (mid_apart T h a4 ho).2.2 hk⟩, fun k hk => ?_, Nat.le_succ_of_le h.ans⟩, ⟨rfl, rfl, fun k hk => ?_⟩, ⟨a3.os, a3.tape, a3.output, a3.size, fun k hk hn => a3.block k hk (fun eq => hn (.inl eq))⟩⟩
 ·rcases a4 k hk with x | x
  ·exact h.low k x
  ·show B ≤ k; omega
 ·rcases hk with hk | hk
  ·exact (a4 k hk).imp .inl id
  ·exact .inl (.inr hk)
theorem sold_ent (T : SendOK PS) (h : entS PS w B j e) (o : OpV) (ho : opOK o) (hj : (j + 1) * 64 ≤ 140737488355328) (hk : o.k = 11 ∨ o.k = 12 ∨ ((o.k = 13 ∨ o.k = 14) ∧ BookOK PS) ∨ ((o.k = 15 ∨ o.k = 16) ∧ TickOK PS)) :
 Calls Tryz.prog 51 #[.agg #[pt e.x 0, pt e.R 0], o.val] w fun r w' => r = .returned (.bool true) ∧ ∃ e2, entS PS w' B (j + 1) e2 ∧ e.then e2 w ∧ Same e.fp w w' := by
 have lt := fun k hk => ent_lt T h (k := k) hk
 have entB : ∀ W, Below w.heap.size w W → entS PS W B j e := fun W hW => ⟨ps_at T h hW, saleAt_below h.ref hW, h.J, h.hBR, h.apart, h.low, h.ans⟩
 have hsent : ∀ s : ByteArray, s.size ≤ 140737488351232 → ∀ W, Below w.heap.size w W → Calls Tryz.prog 85 #[.agg #[pt e.x 0, pt e.R 0], .string s] W fun r w' => r = .returned (.bool true) ∧ (∃ e2, entS PS w' B (j + 1) e2 ∧ e.then e2 w ∧ Same e.fp w w') ∧ Same e.fp W w' := fun s hs W hW => by
  refine (sent_ent T (entB W hW) s hs hj).mono ?_
  rintro r w' ⟨rfl, e2, a1, a2, a3⟩
  have hz := hW.size
  exact ⟨rfl, ⟨e2, a1, ⟨a2.1, a2.2.1, fun k hk => (a2.2.2 k hk).imp id (fun x => by omega)⟩, Same.trans (Same.of_below (own := fun _ => False) hW) a3 (fun k _ eq => eq.elim False.elim id)⟩, a3⟩
 rcases hk with hk | hk | ⟨hk | hk, K⟩ | ⟨hk | hk, K⟩
 ·exact sold_send e.x e.R o w hk ho _ e.fp lt hsent
 ·exact sold_bytes e.x e.R o w hk _ (fun W hW => (hsent o.s ho.2.2.2.2.2.2 W hW).mono (by rintro r w' ⟨rfl, a, _⟩; exact ⟨rfl, a⟩))
 ·refine (sold_books e.x e.R o w hk e.S.free (unitsS e.S.os 13 0) (unitsS e.S.os 14 0) (queueS e.S.os).length e.S.answers e.own (fun b hb => lt b (.inl hb)) (midQ PS w B e e.S) (midQ PS w B e e.S) (fun W hW => ?_) (fun W W' hq hb => mid_below T hq hb) (fun W hq => ?_) (fun W W' hq hb => mid_below T hq hb)).mono (by rintro r w' ⟨rfl, hq⟩; exact ⟨rfl, mid_end T h hq⟩)
  ·refine (K.books (ps_at T h hW) h.J).mono ?_
   rintro r w' ⟨rfl, ha⟩
   exact ⟨rfl, (mid_of h hW ha).1, (mid_of h hW ha).2⟩
  ·obtain ⟨own', a1, a2, a3, a4⟩ := hq
   refine (rbooks_sale a2 h.J.I (sal_len h.J) h.J.ats (by have := h.ans; omega)).mono ?_
   rintro r w' ⟨rfl, hb⟩
   exact ⟨rfl, mid_below T ⟨own', a1, a2, a3, a4⟩ hb, hb⟩
 ·refine (sold_account e.x e.R o w hk (e.S.acc o.b).1 (e.S.acc o.b).2.1 (e.S.acc o.b).2.2.1 (e.S.acc o.b).2.2.2 e.own (fun b hb => lt b (.inl hb)) (midQ PS w B e e.S) (midQ PS w B e e.S) (fun W hW => ?_) (fun W W' hq hb => mid_below T hq hb) (fun W hq => ?_) (fun W W' hq hb => mid_below T hq hb)).mono (by rintro r w' ⟨rfl, hq⟩; exact ⟨rfl, mid_end T h hq⟩)
  ·refine (K.account o.b (ps_at T h hW) h.J).mono ?_
   rintro r w' ⟨rfl, ha⟩
   exact ⟨rfl, (mid_of h hW ha).1, (mid_of h hW ha).2⟩
  ·obtain ⟨own', a1, a2, a3, a4⟩ := hq
   refine (raccount_sale a2 (h.J.I.N (sal_len h.J)) o.b).mono ?_
   rintro r w' ⟨rfl, hb⟩
   refine ⟨?_, mid_below T ⟨own', a1, a2, a3, a4⟩ hb, hb⟩
   unfold Sal.acc
   cases numB o.b <;> rfl
 ·refine (sold_tick e.x e.R o w hk (e.S.tick o.b).1.1 (e.S.tick o.b).1.2 e.own (fun b hb => lt b (.inl hb)) (midQ PS w B e (e.S.tick o.b).2) (fun W => ∃ e2, entS PS W B (j + 1) e2 ∧ e.then e2 w ∧ Same e.fp w W) (fun W hW => ?_) (fun W hq => ?_))
  ·refine (K.tick o.b ho.2.2.1.1 ho.2.2.1.2 (ps_at T h hW) h.J).mono ?_
   rintro r w' ⟨rfl, ha⟩
   exact ⟨rfl, (mid_of h hW ha).1, (mid_of h hW ha).2⟩
  ·obtain ⟨own', a1, a2, a3, a4⟩ := hq
   refine (rtick_sale a2 h.J.I h.hBR (sal_len h.J) o.b ho.2.2.1.2).mono ?_
   rintro r w' ⟨rfl, b1, b2, b3, b4⟩
   have hRw := lt e.R (.inr (.inl rfl))
   have hBR := h.hBR
   refine ⟨rfl, ⟨e.x, e.R, own', e.ap, e.lp, e.cp, e.vo, e.va, (e.S.tick o.b).2⟩, ⟨T.keep a1 b4.size (fun k hk => b4.block k (T.lt a1 k hk) (fun eq => ?_)), b1, salJ_tick h.J o.b b2, h.hBR, ⟨fun ho => (mid_apart T h a4 ho).1 rfl, fun k hk ho => (mid_apart T h a4 ho).2.1 hk, fun k hk ho => (mid_apart T h a4 ho).2.2 hk⟩, fun k hk => ?_, ?_⟩, ⟨rfl, rfl, fun k hk => ?_⟩, Same.trans a3 b4 (fun k _ eq => eq.elim .inl (fun eq => .inr (eq.imp id .inl)))⟩
   ·rcases eq with eq | eq
    ·exact (mid_apart T h a4 hk).1 eq
    ·exact (mid_apart T h a4 hk).2.1 eq
   ·rcases a4 k hk with x | x
    ·exact h.low k x
    ·show B ≤ k; omega
   ·show (e.S.tick o.b).2.ansL.length ≤ j + 1
    rw [(tick_keep e.S o.b).2.1]
    exact Nat.le_succ_of_le h.ans
   ·rcases hk with hk | hk
    ·exact (a4 k hk).imp .inl id
    ·exact .inl (.inr hk)
 ·refine (sold_clock e.x e.R o w hk e.S.now e.own (fun b hb => lt b (.inl hb)) (midQ PS w B e e.S) (fun W hW => ?_) (fun W hq => ?_)).mono (by rintro r w' ⟨rfl, hq⟩; exact ⟨rfl, mid_end T h hq⟩)
  ·refine (K.clock (ps_at T h hW) h.J).mono ?_
   rintro r w' ⟨rfl, ha⟩
   exact ⟨rfl, (mid_of h hW ha).1, (mid_of h hW ha).2⟩
  ·obtain ⟨own', a1, a2, a3, a4⟩ := hq
   exact (cells11 a2.blk).2.2.2.2.2.2.2.2.1
end
end
theorem Tryz.infoPair : (Tryz.prog.info? 127).map (fun i => (i.zero, i.size, i.bytes)) = some (some (.agg #[.pointer none, .pointer none]), 2, 16) := by kernel_rfl
structure OpenOK (PS : World → Nat → (Nat → Prop) → Sal → Prop) : Prop where
 no : ∀ {w : World} {n0 n1 n2 n3 n4 n5 n6 : Int} {a : Option Addr} {len cap : Nat} {ts : List (Int × Int)}, tiersAt w a len cap ts → cfgB [n0, n1, n2, n3, n4, n5, n6] ts = false → Calls Tryz.prog 26 #[.agg #[iv n0, iv n1, iv n2, iv n3, iv n4, iv n5, iv n6, .slice a len cap]] w fun e w' => e = .returned (.tuple #[.pointer none, iv 1]) ∧ Below w.heap.size w w'
 yes : ∀ {w : World} {n0 n1 n2 n3 n4 n5 n6 : Int} {a : Option Addr} {len cap : Nat} {ts : List (Int × Int)}, tiersAt w a len cap ts → cfgB [n0, n1, n2, n3, n4, n5, n6] ts = true → Calls Tryz.prog 26 #[.agg #[iv n0, iv n1, iv n2, iv n3, iv n4, iv n5, iv n6, .slice a len cap]] w fun e w' => ∃ x own, e = .returned (.tuple #[pt x 0, iv 0]) ∧ PS w' x own ⟨⟨n0, n1, n2, n3, n4, n5, n6, ts⟩, 0, [], []⟩ ∧ (∀ k, own k → w.heap.size ≤ k) ∧ Below w.heap.size w w'
theorem opened_nil {PS : World → Nat → (Nat → Prop) → Sal → Prop} (K : OpenOK PS) (P : Nat) (n0 n1 n2 n3 n4 n5 n6 : Int) (w : World) (hc : cfgB [n0, n1, n2, n3, n4, n5, n6] [] = false) :
 Calls Tryz.prog 50 #[pt P 0, .agg #[iv n0, iv n1, iv n2, iv n3, iv n4, iv n5, iv n6, .slice none 0 0]] w fun e w' => e = .returned (.bool true) ∧ Below w.heap.size w w' := by
 have HT : Hid (∀ w' : World, tiersAt w' none 0 0 []) := fun w' => ⟨rfl, Nat.le_refl _, by omega, fun _ => ⟨rfl, rfl⟩, fun h => absurd rfl h⟩
 have HC : Hid (cfgB [n0, n1, n2, n3, n4, n5, n6] [] = false) := hc
 have HO : Hid (∀ W, Calls Tryz.prog 26 #[.agg #[iv n0, iv n1, iv n2, iv n3, iv n4, iv n5, iv n6, .slice none 0 0]] W fun e w' => e = .returned (.tuple #[.pointer none, iv 1]) ∧ Below W.heap.size W w') := fun W => K.no (HT.out W) hc
 have HR : Hid (∀ W, Calls Tryz.prog 57 #[.agg #[iv n0, iv n1, iv n2, iv n3, iv n4, iv n5, iv n6, .slice none 0 0]] W fun e w' => e = .returned (iv 1) ∧ Below W.heap.size W w') := fun W => by
  have := rcheck_any n0 n1 n2 n3 n4 n5 n6 none 0 0 [] W (HT.out W)
  rw [HC.out] at this
  exact this
 clear hc
 go_enter Tryz.func50, Tryz.ntmps50
 go_wp2_with fail
 refine (lent_nil n0 n1 n2 n3 n4 n5 n6 _).mono ?_
 rintro e w1 ⟨rfl, b1⟩
 have hbox : Hid (w1.heap[w.heap.size]? = some (.cells #[iv n0, iv n1, iv n2, iv n3, iv n4, iv n5, iv n6, .slice none 0 0] 29 (0, 0))) := (b1.block w.heap.size (by simp)).trans (heap_alloc_new w _)
 have s1 : w.heap.size < w1.heap.size := by have := b1.size; simp at this; omega
 have w01 : Below w.heap.size w w1 := ((Below.refl _ _).alloc (Nat.le_refl _) _).trans (b1.mono (by simp))
 go_wp2_with fail
 refine (HO.out _).mono ?_
 rintro e w2 ⟨rfl, b2⟩
 have hbox2 : Hid (w2.heap[w.heap.size]? = some (.cells #[iv n0, iv n1, iv n2, iv n3, iv n4, iv n5, iv n6, .slice none 0 0] 29 (0, 0))) := (b2.block w.heap.size (by simp; omega)).trans ((Below.heap_alloc _ _ _ s1).trans hbox.out)
 have hl2 : Hid (w2.heap[w1.heap.size]? = some (.cells #[iv n0, iv n1, iv n2, iv n3, iv n4, iv n5, iv n6, .slice none 0 0] 29 (0, 0))) := (b2.block w1.heap.size (by simp)).trans (heap_alloc_new w1 _)
 have s2 : w1.heap.size < w2.heap.size := by have := b2.size; simp at this; omega
 have w02 : Below w.heap.size w w2 := (w01.alloc (Nat.le_of_lt s1) _).trans (b2.mono (by simp; omega))
 obtain ⟨k0, k1, k2, k3, k4, k5, k6, k7, kf⟩ := cells8 hbox2.out
 go_wp2_with fail
 refine (HR.out _).mono ?_
 rintro e w3 ⟨rfl, b3⟩
 clear k0 k1 k2 k3 k4 k5 k6 k7 kf
 obtain ⟨k0, k1, k2, k3, k4, k5, k6, k7, kf⟩ := cells8 ((b3.block w.heap.size (by omega)).trans hbox2.out)
 obtain ⟨l0, l1, l2, l3, l4, l5, l6, l7, lf⟩ := cells8 ((b3.block w1.heap.size s2).trans hl2.out)
 have w03 : Below w.heap.size w w3 := w02.trans (b3.mono (by omega))
 go_wp2_with fail
 refine (whole_nil n0 n1 n2 n3 n4 n5 n6 n0 n1 n2 n3 n4 n5 n6 _ _).mono ?_
 rintro e w4 ⟨rfl, b4⟩
 clear k0 k1 k2 k3 k4 k5 k6 k7 kf l0 l1 l2 l3 l4 l5 l6 l7 lf
 go_wp2
 go_ret
 exact ⟨rfl, w03.trans (b4.mono (by have := b3.size; omega))⟩
theorem opened_no {PS : World → Nat → (Nat → Prop) → Sal → Prop} (K : OpenOK PS) (P : Nat) (n0 n1 n2 n3 n4 n5 n6 : Int) (x : Addr) (len cap : Nat) (ts : List (Int × Int)) (w : World) (h : tiersAt w (some x) len cap ts) (hb : len * 16 ≤ 140737488351232) (hc : cfgB [n0, n1, n2, n3, n4, n5, n6] ts = false) :
 Calls Tryz.prog 50 #[pt P 0, .agg #[iv n0, iv n1, iv n2, iv n3, iv n4, iv n5, iv n6, .slice (some x) len cap]] w fun e w' => e = .returned (.bool true) ∧ Below w.heap.size w w' := by
 have HT : Hid (tiersAt w (some x) len cap ts) := h
 have hxw : ts ≠ [] → x.block < w.heap.size := fun hn => by
  obtain ⟨b, off, hx, hbw, _⟩ := h.2.2.2.2 hn
  have := Option.some.inj hx
  subst this
  exact hbw
 have HX : Hid (ts ≠ [] → x.block < w.heap.size) := hxw
 have hl : Hid (ts.length = len) := h.1
 have HO : Hid (∀ W a len' cap', tiersAt W a len' cap' ts → Calls Tryz.prog 26 #[.agg #[iv n0, iv n1, iv n2, iv n3, iv n4, iv n5, iv n6, .slice a len' cap']] W fun e w' => e = .returned (.tuple #[.pointer none, iv 1]) ∧ Below W.heap.size W w') := fun W a len' cap' ht => K.no ht hc
 have HR : Hid (∀ W, tiersAt W (some x) len cap ts → Calls Tryz.prog 57 #[.agg #[iv n0, iv n1, iv n2, iv n3, iv n4, iv n5, iv n6, .slice (some x) len cap]] W fun e w' => e = .returned (iv 1) ∧ Below W.heap.size W w') := fun W ht => by
  have := rcheck_any n0 n1 n2 n3 n4 n5 n6 (some x) len cap ts W ht
  rw [hc] at this
  exact this
 clear h hxw hc
 go_enter Tryz.func50, Tryz.ntmps50
 go_wp2_with fail
 refine (lent_some n0 n1 n2 n3 n4 n5 n6 x len cap ts _ (HT.out.below ((Below.refl _ _).alloc (Nat.le_refl _) _) (Nat.le_refl _))).mono ?_
 rintro e w1 ⟨g, rfl, hg, hrow, b1⟩
 have hg' : w.heap.size < g := by simp at hg; omega
 have hbox : Hid (w1.heap[w.heap.size]? = some (.cells #[iv n0, iv n1, iv n2, iv n3, iv n4, iv n5, iv n6, .slice (some x) len cap] 29 (0, 0))) := (b1.block w.heap.size (by simp)).trans (heap_alloc_new w _)
 have hg1 : g < w1.heap.size := (blt hrow)
 have s1 : w.heap.size < w1.heap.size := by omega
 have w01 : Below w.heap.size w w1 := ((Below.refl _ _).alloc (Nat.le_refl _) _).trans (b1.mono (by simp))
 have HROW : Hid (w1.heap[g]? = some (.cells (flatT (lentRow ts)).toArray 137 (0, 0))) := hrow
 clear hrow b1 hg
 go_wp2_with fail
 refine (HO.out _ _ _ _ (lent_tiers ((Below.heap_alloc _ _ _ hg1).trans HROW.out) hl.out hb)).mono ?_
 rintro e w2 ⟨rfl, b2⟩
 have hbox2 : Hid (w2.heap[w.heap.size]? = some (.cells #[iv n0, iv n1, iv n2, iv n3, iv n4, iv n5, iv n6, .slice (some x) len cap] 29 (0, 0))) := (b2.block w.heap.size (by simp; omega)).trans ((Below.heap_alloc _ _ _ s1).trans hbox.out)
 have hl2 : Hid (w2.heap[w1.heap.size]? = some (.cells #[iv n0, iv n1, iv n2, iv n3, iv n4, iv n5, iv n6, .slice (some (aq g 0)) len (len + 8)] 29 (0, 0))) := (b2.block w1.heap.size (by simp)).trans (heap_alloc_new w1 _)
 have HROW2 : Hid (w2.heap[g]? = some (.cells (flatT (lentRow ts)).toArray 137 (0, 0))) := (b2.block g (by simp; omega)).trans ((Below.heap_alloc _ _ _ hg1).trans HROW.out)
 have s2 : w1.heap.size < w2.heap.size := by have := b2.size; simp at this; omega
 have w02 : Below w.heap.size w w2 := (w01.alloc (Nat.le_of_lt s1) _).trans (b2.mono (by simp; omega))
 obtain ⟨k0, k1, k2, k3, k4, k5, k6, k7, kf⟩ := cells8 hbox2.out
 go_wp2_with fail
 refine (HR.out _ (HT.out.below w02 (Nat.le_refl _))).mono ?_
 rintro e w3 ⟨rfl, b3⟩
 clear k0 k1 k2 k3 k4 k5 k6 k7 kf
 obtain ⟨k0, k1, k2, k3, k4, k5, k6, k7, kf⟩ := cells8 ((b3.block w.heap.size (by omega)).trans hbox2.out)
 obtain ⟨l0, l1, l2, l3, l4, l5, l6, l7, lf⟩ := cells8 ((b3.block w1.heap.size s2).trans hl2.out)
 have w03 : Below w.heap.size w w3 := w02.trans (b3.mono (by omega))
 go_wp2_with fail
 refine (whole_some n0 n1 n2 n3 n4 n5 n6 n0 n1 n2 n3 n4 n5 n6 x g len cap ts _ (HT.out.below w03 (Nat.le_refl _)) (fun hn => by have := HX.out hn; omega) ((b3.block g (by omega)).trans HROW2.out)).mono ?_
 rintro e w4 ⟨rfl, g4⟩
 clear k0 k1 k2 k3 k4 k5 k6 k7 kf l0 l1 l2 l3 l4 l5 l6 l7 lf
 go_wp2
 go_ret
 exact ⟨rfl, w03.grown g4 (by have := b3.size; omega) (fun k hk => by simp at hk; omega)⟩
def openAns (PS : World → Nat → (Nat → Prop) → Sal → Prop) (w w' : World) (P : Nat) (c0 vs c2 c3 c4 : Value) (n : Nat) (E : List Value) (C : Array Value) (S0 : Sal) : Prop :=
 ∃ x own R vs', w'.heap[P]? = some (.cells #[c0, vs', c2, c3, c4] 67 (0, 0)) ∧ w'.ownsRow (P + 1) 127 2 vs' (n + 1) (E ++ [pt x 0, pt R 0]) ∧ PS w' x own S0 ∧ w'.heap[R]? = some (.cells C 164 (0, 0)) ∧
  Same (fun b => b = P ∨ vs.ownBlock = some b) w w' ∧ (∀ k, own k → w.heap.size ≤ k) ∧ w.heap.size ≤ R ∧ ¬ own R ∧ (∀ k, vs'.ownBlock = some k → vs.ownBlock = some k ∨ w.heap.size ≤ k) ∧ (∀ k, vs'.ownBlock = some k → ¬ own k) ∧ vs'.ownBlock ≠ some R
theorem openAns_below {PS : World → Nat → (Nat → Prop) → Sal → Prop} (K : SendOK PS) {w w2 w3 : World} {P n : Nat} {c0 vs c2 c3 c4 : Value} {E : List Value} {C : Array Value} {S0 : Sal} (h : openAns PS w w2 P c0 vs c2 c3 c4 n E C S0) (hb : Below w2.heap.size w2 w3) : openAns PS w w3 P c0 vs c2 c3 c4 n E C S0 := by
 obtain ⟨x, own, R, vs', h1, h2, h3, h4, h5, h6, h7, h8, h9, h10, h11⟩ := h
 exact ⟨x, own, R, vs', (hb.block P (blt h1)).trans h1, ownsRow_below h2 hb (Nat.le_refl _), K.keep h3 hb.size (fun k hk => hb.block k (K.lt h3 k hk)), (hb.block R (blt h4)).trans h4, Same.trans h5 (Same.of_below (own := fun _ => False) hb) (fun k _ e => e.elim id False.elim), h6, h7, h8, h9, h10, h11⟩
theorem open_end {PS : World → Nat → (Nat → Prop) → Sal → Prop} (K : SendOK PS) {w w1 w3 : World} {P n x : Nat} {own : Nat → Prop} {c0 vs c2 c3 c4 v' : Value} {E : List Value} {C : Array Value} {S0 : Sal} {O : Obj} (hb : Below w.heap.size w w1) (hP : P < w.heap.size)
 (hP1 : w1.heap[P]? = some (.cells #[c0, vs, c2, c3, c4] 67 (0, 0))) (ht1 : w1.ownsRow (P + 1) 127 2 vs n E) (hvt : ∀ k, vs.ownBlock = some k → k < w.heap.size) (hp : PS w1 x own S0) (ho : ∀ k, own k → w.heap.size ≤ k)
 (hown3 : w3.ownsRow (P + 1) 127 2 v' (n + 1) (E ++ [pt x 0, pt w1.heap.size 0])) (hg : ((w1.alloc (.cells C 164)).alloc O).grownBy w3 vs.ownBlock) (hat : v'.ownBlock = vs.ownBlock ∨ v'.ownBlock = some (w1.heap.size + 2)) :
 openAns PS w (w3.setCell (aq P 1) v') P c0 vs c2 c3 c4 n E C S0 := by
 have z1 := hb.size
 have z3 : w1.heap.size + 2 ≤ w3.heap.size := by have := hg.size; simpa using this
 have lt1 := K.lt hp
 have k3 : ∀ k, k < w1.heap.size + 1 → vs.ownBlock ≠ some k → w3.heap[k]? = (w1.alloc (.cells C 164)).heap[k]? := fun k hk hn => (hg.block k (by simp; omega) (fun e => hn e.symm)).trans (Below.heap_alloc _ O k (by simpa using hk))
 have k1 : ∀ k, k < w1.heap.size → vs.ownBlock ≠ some k → w3.heap[k]? = w1.heap[k]? := fun k hk hn => (k3 k (by omega) hn).trans (Below.heap_alloc w1 _ k hk)
 have ks : ∀ k, k ≠ P → (w3.setCell (aq P 1) v').heap[k]? = w3.heap[k]? := fun k hk => Below.heap_setCell _ (aq P 1) _ _ hk
 have hvP : vs.ownBlock ≠ some P := own_type ht1 hP1 (by decide)
 have hP3 : w3.heap[P]? = some (.cells #[c0, vs, c2, c3, c4] 67 (0, 0)) := (k1 P (by omega) hvP).trans hP1
 have hR3 : w3.heap[w1.heap.size]? = some (.cells C 164 (0, 0)) := (k3 _ (by omega) (fun e => by have := hvt _ e; omega)).trans (heap_alloc_new _ _)
 have nv : ∀ k, v'.ownBlock = some k → k ≠ P := by
  intro k hk
  rcases hat with e | e
  ·exact fun e' => hvP (e' ▸ e.symm.trans hk)
  ·rw [hk] at e; simp at e; omega
 refine ⟨x, own, w1.heap.size, v', ?_, ?_, ?_, ?_, ?_, ho, z1, fun e => by have := lt1 _ e; omega, ?_, ?_, ?_⟩
 ·rw [Joins.block_setCell hP3]; rfl
 ·exact owns_keep hown3 (fun k hk => ks k (nv k hk))
 ·exact K.keep hp (by simp [World.setCell]; omega) (fun k hk => (ks k (fun e => by have := ho k hk; omega)).trans (k1 k (lt1 k hk) (fun e => by have := hvt k e; have := ho k hk; omega)))
 ·exact (ks _ (by omega)).trans hR3
 ·refine ⟨hg.os.trans hb.os, hg.tape.trans hb.tape, hg.output.trans hb.output, by simp [World.setCell]; omega, fun k hk hn => ?_⟩
  rw [ks k (fun e => hn (.inl e)), k1 k (by omega) (fun e => hn (.inr e))]
  exact hb.block k hk
 ·intro k hk
  rcases hat with e | e
  ·exact .inl (e.symm.trans hk)
  ·rw [hk] at e; simp at e; exact .inr (by omega)
 ·intro k hk hk'
  rcases hat with e | e
  ·have := hvt k (e.symm.trans hk); have := ho k hk'; omega
  ·rw [hk] at e; simp at e; have := lt1 k hk'; omega
 ·intro hk
  rcases hat with e | e
  ·have := hvt _ (e.symm.trans hk); omega
  ·rw [hk] at e; simp at e
theorem opened_yes {PS : World → Nat → (Nat → Prop) → Sal → Prop} (K : OpenOK PS) (KS : SendOK PS) (P n : Nat) (c0 vs c2 c3 c4 : Value) (E : List Value) (n0 n1 n2 n3 n4 n5 n6 : Int) (x : Addr) (len cap : Nat) (ts : List (Int × Int)) (w : World) (h : tiersAt w (some x) len cap ts) (hb : len * 16 ≤ 140737488351232) (hc : cfgB [n0, n1, n2, n3, n4, n5, n6] ts = true)
 (hw : w.heap[P]? = some (.cells #[c0, vs, c2, c3, c4] 67 (0, 0))) (ht : w.ownsRow (P + 1) 127 2 vs n E) (hn : n * 16 + 16 ≤ 140737488351232) :
 Calls Tryz.prog 50 #[pt P 0, .agg #[iv n0, iv n1, iv n2, iv n3, iv n4, iv n5, iv n6, .slice (some x) len cap]] w fun e w' => e = .returned (.bool true) ∧ openAns PS w w' P c0 vs c2 c3 c4 n E #[iv n0, iv n1, iv n2, iv n3, iv n4, iv n5, iv n6, .slice (some x) len cap, iv 0, .slice none 0 0, .slice none 0 0] ⟨⟨n0, n1, n2, n3, n4, n5, n6, ts⟩, 0, [], []⟩ := by
 have HT : Hid (tiersAt w (some x) len cap ts) := h
 have hxw : ts ≠ [] → x.block < w.heap.size := fun hn => by
  obtain ⟨b, off, hx, hbw, _⟩ := h.2.2.2.2 hn
  have := Option.some.inj hx
  subst this
  exact hbw
 have HX : Hid (ts ≠ [] → x.block < w.heap.size) := hxw
 have hl : Hid (ts.length = len) := h.1
 have HO : Hid (∀ W a len' cap', tiersAt W a len' cap' ts → Calls Tryz.prog 26 #[.agg #[iv n0, iv n1, iv n2, iv n3, iv n4, iv n5, iv n6, .slice a len' cap']] W fun e w' => ∃ xs own, e = .returned (.tuple #[pt xs 0, iv 0]) ∧ PS w' xs own ⟨⟨n0, n1, n2, n3, n4, n5, n6, ts⟩, 0, [], []⟩ ∧ (∀ k, own k → W.heap.size ≤ k) ∧ Below W.heap.size W w') := fun W a len' cap' ht => K.yes ht hc
 have HR : Hid (∀ W, tiersAt W (some x) len cap ts → Calls Tryz.prog 57 #[.agg #[iv n0, iv n1, iv n2, iv n3, iv n4, iv n5, iv n6, .slice (some x) len cap]] W fun e w' => e = .returned (iv 0) ∧ Below W.heap.size W w') := fun W ht => by
  have := rcheck_any n0 n1 n2 n3 n4 n5 n6 (some x) len cap ts W ht
  rw [hc] at this
  exact this
 obtain ⟨i0, hi, hz0, hz1, hz2⟩ := info_parts Tryz.infoPair
 have hpw : P < w.heap.size := (blt hw)
 have HIN : Hid (w.heap[P]? = some (.cells #[c0, vs, c2, c3, c4] 67 (0, 0)) ∧ w.ownsRow (P + 1) 127 2 vs n E) := ⟨hw, ht⟩
 obtain ⟨va, vc, rfl⟩ := own_slice ht
 clear h hxw hc hw ht
 go_enter Tryz.func50, Tryz.ntmps50
 go_wp2_with fail
 refine (lent_some n0 n1 n2 n3 n4 n5 n6 x len cap ts _ (HT.out.below ((Below.refl _ _).alloc (Nat.le_refl _) _) (Nat.le_refl _))).mono ?_
 rintro e w1 ⟨g, rfl, hg, hrow, b1⟩
 have hg' : w.heap.size < g := by simp at hg; omega
 have hbox : Hid (w1.heap[w.heap.size]? = some (.cells #[iv n0, iv n1, iv n2, iv n3, iv n4, iv n5, iv n6, .slice (some x) len cap] 29 (0, 0))) := (b1.block w.heap.size (by simp)).trans (heap_alloc_new w _)
 have hg1 : g < w1.heap.size := (blt hrow)
 have s1 : w.heap.size < w1.heap.size := by omega
 have w01 : Below w.heap.size w w1 := ((Below.refl _ _).alloc (Nat.le_refl _) _).trans (b1.mono (by simp))
 have HROW : Hid (w1.heap[g]? = some (.cells (flatT (lentRow ts)).toArray 137 (0, 0))) := hrow
 clear hrow b1 hg
 go_wp2_with fail
 refine (HO.out _ _ _ _ (lent_tiers ((Below.heap_alloc _ _ _ hg1).trans HROW.out) hl.out hb)).mono ?_
 rintro e w2 ⟨xs, own, rfl, hps, hfo, b2⟩
 have HPS : Hid (PS w2 xs own ⟨⟨n0, n1, n2, n3, n4, n5, n6, ts⟩, 0, [], []⟩ ∧ ∀ k, own k → w1.heap.size < k) := ⟨hps, fun k hk => by have := hfo k hk; simp at this; omega⟩
 clear hps hfo
 have hbox2 : Hid (w2.heap[w.heap.size]? = some (.cells #[iv n0, iv n1, iv n2, iv n3, iv n4, iv n5, iv n6, .slice (some x) len cap] 29 (0, 0))) := (b2.block w.heap.size (by simp; omega)).trans ((Below.heap_alloc _ _ _ s1).trans hbox.out)
 have hl2 : Hid (w2.heap[w1.heap.size]? = some (.cells #[iv n0, iv n1, iv n2, iv n3, iv n4, iv n5, iv n6, .slice (some (aq g 0)) len (len + 8)] 29 (0, 0))) := (b2.block w1.heap.size (by simp)).trans (heap_alloc_new w1 _)
 have HROW2 : Hid (w2.heap[g]? = some (.cells (flatT (lentRow ts)).toArray 137 (0, 0))) := (b2.block g (by simp; omega)).trans ((Below.heap_alloc _ _ _ hg1).trans HROW.out)
 have s2 : w1.heap.size < w2.heap.size := by have := b2.size; simp at this; omega
 have w02 : Below w.heap.size w w2 := (w01.alloc (Nat.le_of_lt s1) _).trans (b2.mono (by simp; omega))
 obtain ⟨k0, k1, k2, k3, k4, k5, k6, k7, kf⟩ := cells8 hbox2.out
 go_wp2_with fail
 refine (HR.out _ (HT.out.below w02 (Nat.le_refl _))).mono ?_
 rintro e w3 ⟨rfl, b3⟩
 clear k0 k1 k2 k3 k4 k5 k6 k7 kf
 obtain ⟨k0, k1, k2, k3, k4, k5, k6, k7, kf⟩ := cells8 ((b3.block w.heap.size (by omega)).trans hbox2.out)
 obtain ⟨l0, l1, l2, l3, l4, l5, l6, l7, lf⟩ := cells8 ((b3.block w1.heap.size s2).trans hl2.out)
 have w03 : Below w.heap.size w w3 := w02.trans (b3.mono (by omega))
 go_wp2_with fail
 refine (whole_some n0 n1 n2 n3 n4 n5 n6 n0 n1 n2 n3 n4 n5 n6 x g len cap ts _ (HT.out.below w03 (Nat.le_refl _)) (fun hn => by have := HX.out hn; omega) ((b3.block g (by omega)).trans HROW2.out)).mono ?_
 rintro e w4 ⟨rfl, g4⟩
 clear k0 k1 k2 k3 k4 k5 k6 k7 kf l0 l1 l2 l3 l4 l5 l6 l7 lf
 have w04 : Below w.heap.size w w4 := w03.grown g4 (by have := b3.size; omega) (fun k hk => by simp at hk; omega)
 have hz3 := b3.size
 have hz4 := g4.size
 have HP4 : Hid (PS w4 xs own ⟨⟨n0, n1, n2, n3, n4, n5, n6, ts⟩, 0, [], []⟩) := by
  have e3 := KS.keep HPS.out.1 b3.size (fun k hk => b3.block k (KS.lt HPS.out.1 k hk))
  exact KS.keep e3 g4.size (fun k hk => g4.block k (KS.lt e3 k hk) (fun e => by have := HPS.out.2 k hk; simp at e; omega))
 have hfo : Hid (∀ k, own k → w.heap.size ≤ k) := fun k hk => by have := HPS.out.2 k hk; omega
 obtain ⟨k0, k1, k2, k3, k4, k5, k6, k7, kf⟩ := cells8 ((g4.block w.heap.size (by omega) (by simp; omega)).trans ((b3.block w.heap.size (by omega)).trans hbox2.out))
 have hP1 : w4.heap[P]? = some (.cells #[c0, .slice va n vc, c2, c3, c4] 67 (0, 0)) := (w04.block P hpw).trans HIN.out.1
 have hO1 : Hid (w4.ownsRow (P + 1) 127 2 (.slice va n vc) n E) := ownsRow_below HIN.out.2 w04 (Nat.le_refl _)
 have hvt : Hid (∀ k, Value.ownBlock (.slice va n vc) = some k → k < w.heap.size) := fun k hk => (World.ownsRow.lt HIN.out.2 k hk).2
 have p1 : w4.cell? (aq P 1) = some (.slice va n vc) := by rw [Joins.cell_of_block hP1]; rfl
 have hPw4 : P < w4.heap.size := by omega
 have hww4 : w.heap.size < w4.heap.size := by omega
 have hPw : P ≠ w.heap.size := by omega
 have hvP : Value.ownBlock (.slice va n vc) ≠ some P := own_type hO1.out hP1 (by decide)
 have HNE : Hid (∀ w5 v' O, w5.ownsRow (P + 1) 127 2 v' (n + 1) (E ++ [pt xs 0, pt w4.heap.size 0]) → ((w4.alloc (.cells #[iv n0, iv n1, iv n2, iv n3, iv n4, iv n5, iv n6, .slice (some x) len cap, iv 0, .slice none 0 0, .slice none 0 0] 164)).alloc O).grownBy w5 (Value.ownBlock (.slice va n vc)) → (v'.ownBlock = Value.ownBlock (.slice va n vc) ∨ v'.ownBlock = some (w4.heap.size + 2)) → openAns PS w (w5.setCell (aq P 1) v') P c0 (.slice va n vc) c2 c3 c4 n E #[iv n0, iv n1, iv n2, iv n3, iv n4, iv n5, iv n6, .slice (some x) len cap, iv 0, .slice none 0 0, .slice none 0 0] ⟨⟨n0, n1, n2, n3, n4, n5, n6, ts⟩, 0, [], []⟩) :=
  fun w5 v' O h1 h2 h3 => open_end KS w04 hpw hP1 hO1.out hvt.out HP4.out hfo.out h1 h2 h3
 have hnb : Hid (((w4.alloc (.cells #[iv n0, iv n1, iv n2, iv n3, iv n4, iv n5, iv n6, .slice (some x) len cap, iv 0, .slice none 0 0, .slice none 0 0] 164)).alloc (.cells #[pt xs 0, pt w4.heap.size 0] 127)).heap[w4.heap.size + 1]? = some (.cells #[pt xs 0, pt w4.heap.size 0] 127 (0, 0))) := by
  have := heap_alloc_new (w4.alloc (.cells #[iv n0, iv n1, iv n2, iv n3, iv n4, iv n5, iv n6, .slice (some x) len cap, iv 0, .slice none 0 0, .slice none 0 0] 164)) (.cells #[pt xs 0, pt w4.heap.size 0] 127)
  rw [show (w4.alloc (.cells #[iv n0, iv n1, iv n2, iv n3, iv n4, iv n5, iv n6, .slice (some x) len cap, iv 0, .slice none 0 0, .slice none 0 0] 164)).heap.size = w4.heap.size + 1 by simp] at this
  exact this
 clear hbox hbox2 hl2 HROW HROW2 HPS HIN w01 w02 w03 b2 b3 g4 HT HX hl HO HR hz3 hz4 s1 s2 hg1 hg'
 replace hP1 : Hid _ := hP1
 replace hvP : Hid _ := hvP
 go_wp2_with fail
 go_region_law ((refine step_append_lies _ (by rfl) _ _ _ (by rfl) (P + 1) 127 i0 (.agg #[.pointer none, .pointer none]) 2 16 Tryz.underlying62 hi hz0 hz1 hz2 rfl (by omega) (.slice va n vc) n E (by rfl) ((((show w4.ownsRow (P + 1) 127 2 (.slice va n vc) n E from hO1.out).alloc _).alloc _).drew) (aq (w4.heap.size + 1) 0) 1 1 [pt xs 0, pt w4.heap.size 0] (by rfl) (by rfl) (World.news_of_block (cs := #[pt xs 0, pt w4.heap.size 0]) (t := 127) (fr := (0, 0)) hnb.out) (by simp [Value.oneCell']) (by omega) (by unfold maxLen; omega) (by omega) (by simp; omega) (w4.heap.size + 2) (by simp) ?_
                 intro gg cp w5 hown3 hgrow hat hlt
                 have hP3 : w5.heap[P]? = some (.cells #[c0, .slice va n vc, c2, c3, c4] 67 (0, 0)) := (hgrow.block P (by simp; omega) (fun e => hvP.out e.symm)).trans ((Below.heap_alloc (w4.alloc (.cells #[iv n0, iv n1, iv n2, iv n3, iv n4, iv n5, iv n6, .slice (some x) len cap, iv 0, .slice none 0 0, .slice none 0 0] 164)) _ P (by simp; omega)).trans ((Below.heap_alloc w4 _ P hPw4).trans hP1.out))
                 have g1 : w5.cell? (aq P 1) = some (.slice va n vc) := by rw [Joins.cell_of_block hP3]; rfl
                 have gf := row_free hP3 1
                 replace hown3 : Hid _ := hown3
                 replace hgrow : Hid _ := hgrow
                 replace hat : Hid _ := hat))
 all_goals (go_wp2; go_ret)
 all_goals exact ⟨rfl, openAns_below KS (HNE.out w5 _ (.cells #[pt xs 0, pt w4.heap.size 0] 127) hown3.out ⟨hgrow.out.os, hgrow.out.tape, hgrow.out.output, hgrow.out.size, hgrow.out.block⟩ (hat.out.elim (fun e => .inl (by rw [e]; rfl)) (fun e => .inr (by rw [e]; rfl)))) bL⟩
end Go.Proofs.YtfhncfghblkgeaaGreat
