import Derived.Test.YtfhncfghblkgeaaGreatL22
import Derived.Test.YtfhncfghblkgeaaGreatL30
set_option maxRecDepth 100000
set_option maxHeartbeats 2000000
namespace Go.Proofs.YtfhncfghblkgeaaGreat
open Go.RowKit
section
theorem span_w (x : Nat) (st l wt kp : Int) (w : World) (h3 : w.cell? (aq x 3) = some (iv l)) (h4 : w.cell? (aq x 4) = some (iv wt)) (h5 : w.cell? (aq x 5) = some (iv kp)) :
 Calls Tryz.prog 173 #[pt x 0, iv st] w fun e w' => e = .returned (iv (if st = 13 then l else if st = 12 then wt else kp)) ∧ Below w.heap.size w w' := by
 by_cases e1 : st = 13
 ·subst e1
  rw [if_pos rfl]
  go_enter Tryz.func173, Tryz.ntmps173
  go_wp2
  go_ret
  exact ⟨rfl, Below.refl _ _⟩
 ·rw [if_neg e1]
  have q1 : (st == 13) = false := by simpa using e1
  by_cases e2 : st = 12
  ·subst e2
   rw [if_pos rfl]
   go_enter Tryz.func173, Tryz.ntmps173
   go_wp2
   go_ret
   exact ⟨rfl, Below.refl _ _⟩
  ·rw [if_neg e2]
   have q2 : (st == 12) = false := by simpa using e2
   go_enter Tryz.func173, Tryz.ntmps173
   go_wp2
   go_ret
   exact ⟨rfl, Below.refl _ _⟩
theorem left_w (x : Nat) (a b : Int) (w : World) (h0 : w.cell? (aq x 0) = some (iv a)) (h1 : w.cell? (aq x 20) = some (iv b)) (ha : 0 ≤ a ∧ a ≤ 4611686018427387904) (hb : -2305843009213693952 ≤ b ∧ b ≤ 2305843009213693952) :
 Calls Tryz.prog 154 #[pt x 0] w fun e w' => e = .returned (iv (a - b)) ∧ Below w.heap.size w w' := by
 have hw : IntKind.i64.wrap (a - b) = a - b := wrap_in (by omega) (by omega)
 go_enter Tryz.func154, Tryz.ntmps154
 go_wp2_with fail
 go_quiet (fail)
 go_wp2
 go_ret
 exact ⟨rfl, bL⟩
theorem free_w (x : Nat) (a b c : Int) (w : World) (h0 : w.cell? (aq x 0) = some (iv a)) (h1 : w.cell? (aq x 20) = some (iv b)) (h2 : w.cell? (aq x 19) = some (iv c)) (ha : 0 ≤ a ∧ a ≤ 4611686018427387904) (hb : -1152921504606846976 ≤ b ∧ b ≤ 1152921504606846976) (hc : -1152921504606846976 ≤ c ∧ c ≤ 1152921504606846976) :
 Calls Tryz.prog 58 #[pt x 0] w fun e w' => e = .returned (iv (a - b - c)) ∧ Below w.heap.size w w' := by
 have hw : IntKind.i64.wrap (a - b) = a - b := wrap_in (by omega) (by omega)
 have hw2 : IntKind.i64.wrap (a - b - c) = a - b - c := wrap_in (by omega) (by omega)
 go_enter Tryz.func58, Tryz.ntmps58
 go_wp2_with fail
 go_quiet (fail)
 go_wp2
 go_ret
 exact ⟨rfl, bL⟩
theorem price_w (R : Nat) (ap : Option Addr) (lp cp : Nat) (ps : List (Int × Int)) (sold : Int) (w : World) (h7 : w.cell? (aq R 7) = some (.slice ap lp cp)) (h20 : w.cell? (aq R 20) = some (iv sold)) (ht : tiersP w ap lp ps) :
 Calls Tryz.prog 178 #[pt R 0] w fun e w' => e = .returned (iv (priceT ps sold ps.length)) ∧ Below w.heap.size w w' := by
 have hRw : R < w.heap.size := World.block_lt_of_cell? w _ h7
 obtain ⟨⟨t1, t2⟩, t5⟩ := ht
 subst t1
 have HT : Hid (0 < ps.length → ∃ b off, ap = some (aq b off) ∧ b < w.heap.size ∧ ∀ i, i < ps.length → w.cell? (aq b (off + i * 2)) = some (iv (ps.getD i (0, 0)).1) ∧ w.cell? (aq b (off + i * 2 + 1)) = some (iv (ps.getD i (0, 0)).2)) := fun h => t5 (List.length_pos_iff.1 h)
 have H7 : Hid (w.cell? (aq R 7) = some (.slice ap ps.length cp)) := h7
 have H20 : Hid (w.cell? (aq R 20) = some (iv sold)) := h20
 clear t5 h7 h20
 go_enter Tryz.func178, Tryz.ntmps178
 go_wp2_with fail
 go_loopw [3, 4] (fun c i wr => ∃ k : Nat, k ≤ ps.length ∧ i = iv k ∧ c = iv (priceT ps sold k) ∧ Below w.heap.size w wr) (fun _ i _ => ps.length - (intOf i).toNat)
 case atStart => exact ⟨0, Nat.zero_le _, rfl, rfl, Below.refl _ _⟩
 case round =>
  obtain ⟨k, hk, rfl, rfl, hbel⟩ := hrel
  have c7 := (hbel.cell (p := (aq R 7)) hRw).trans H7.out
  have c20 := (hbel.cell (p := (aq R 20)) hRw).trans H20.out
  by_cases hlt : k < ps.length
  ·obtain ⟨b, off, rfl, hbw, hcell⟩ := HT.out (by omega)
   obtain ⟨k0, k1⟩ := hcell k hlt
   have d0 := (hbel.cell (p := (aq b (off + k * 2))) hbw).trans k0
   have d1 := (hbel.cell (p := (aq b (off + k * 2 + 1))) hbw).trans k1
   have HP : Hid (priceT ps sold (k + 1) = if (ps.getD k (0, 0)).1 ≤ sold then (ps.getD k (0, 0)).2 else priceT ps sold k) := rfl
   have b0 : (0 : Int) ≤ (k : Int) := by omega
   have b1' : (k : Int) < (ps.length : Int) := by omega
   clear k0 k1 hcell HT
   generalize ps.getD k (0, 0) = p at d0 d1 HP
   obtain ⟨p0, p1⟩ := p
   simp only at d0 d1 HP
   by_cases hle : p0 ≤ sold
   ·have HP2 : Hid (priceT ps sold (k + 1) = p1) := by rw [Hid, HP.out, if_pos hle]
    go_wp2_with fail
    go_quiet (fail)
    go_wp2
    exact ⟨⟨k + 1, by omega, by go_num, by rw [HP2.out], bL⟩, by simp [intOf]; omega⟩
   ·have HP2 : Hid (priceT ps sold (k + 1) = priceT ps sold k) := by rw [Hid, HP.out, if_neg hle]
    have hle' : decide (p0 ≤ sold) = false := by simpa using hle
    go_wp2_with fail
    go_quiet (fail)
    go_wp2
    exact ⟨⟨k + 1, by omega, by go_num, by rw [HP2.out], bL⟩, by simp [intOf]; omega⟩
  ·have hke : k = ps.length := by omega
   subst hke
   go_wp2
   go_ret
   exact ⟨rfl, hbel⟩
section
variable {W : World} {x : Nat} {own : Nat → Prop} {V : PV}
theorem span_x (st : Int) (h : psm W x own V) :
 Calls Tryz.prog 173 #[pt x 0, iv st] W fun e w' => e = .returned (iv (spanS V.C st)) ∧ Below W.heap.size W w' := by
 obtain ⟨g, h⟩ := h
 exact span_w x st V.C.lease V.C.wait V.C.keep W (h.cell 3 _ rfl) (h.cell 4 _ rfl) (h.cell 5 _ rfl)
theorem left_x (h : psm W x own V) (ha : 0 ≤ V.C.stock ∧ V.C.stock ≤ 4294967296) (hb : 0 ≤ V.sold ∧ V.sold ≤ 4294967296) :
 Calls Tryz.prog 154 #[pt x 0] W fun e w' => e = .returned (iv (V.C.stock - V.sold)) ∧ Below W.heap.size W w' := by
 obtain ⟨g, h⟩ := h
 exact left_w x V.C.stock V.sold W (h.cell 0 _ rfl) (h.cell 20 _ rfl) ⟨ha.1, by omega⟩ ⟨by omega, by omega⟩
theorem free_x (h : psm W x own V) (ha : 0 ≤ V.C.stock ∧ V.C.stock ≤ 4294967296) (hb : 0 ≤ V.sold ∧ V.sold ≤ 4294967296) (hc : 0 ≤ V.held ∧ V.held ≤ 4294967296) :
 Calls Tryz.prog 58 #[pt x 0] W fun e w' => e = .returned (iv (V.C.stock - V.sold - V.held)) ∧ Below W.heap.size W w' := by
 obtain ⟨g, h⟩ := h
 exact free_w x V.C.stock V.sold V.held W (h.cell 0 _ rfl) (h.cell 20 _ rfl) (h.cell 19 _ rfl) ⟨ha.1, by omega⟩ ⟨by omega, by omega⟩ ⟨by omega, by omega⟩
theorem price_x (h : psm W x own V) :
 Calls Tryz.prog 178 #[pt x 0] W fun e w' => e = .returned (iv (priceT V.C.prices V.sold V.C.prices.length)) ∧ Below W.heap.size W w' := by
 obtain ⟨g, h⟩ := h
 exact price_w x V.pa V.pl V.pc V.C.prices V.sold W (h.cell 7 _ rfl) (h.cell 20 _ rfl) h.tiers
theorem oputN_x (o : POrd) (h : psm W x own V) (hs : srt V.ot) (hg : getS (o.num, 0) V.ot = none) (hl : V.ot.length = V.ol.length) (hz : V.ol.length ≤ 4294967296) :
 Calls Tryz.prog 174 #[pt x 11, o.val] W fun e w' => e = .returned (.tuple #[]) ∧ psmAns W w' x own { V with ot := insS (o.num, 0) V.ol.length V.ot, ol := V.ol ++ [o], orm := if V.orm < (V.ol.length : Int) + 1 then (V.ol.length : Int) + 1 else V.orm } := by
 obtain ⟨g, h⟩ := h
 refine (oput_new 0 x 11 V.ol.length g.oc g.oo (pcells V g) 117 (by decide) (by decide) g.ot V.ot.length o.num o.cust o.units o.st o.cents o.upto (flatPO V.ol) W h.blk rfl rfl rfl V.orm _ rfl rfl h.ot.1 (by rw [h.ot.2]; exact hs) (by rw [h.ot.2]; exact hg) ⟨by omega, by omega⟩ h.orow (by omega) (Nat.zero_le _)).mono ?_
 rintro e w' ⟨rfl, t', b, cap, a1, a2, a3, a4, a5, a6, a7⟩
 rw [h.ot.2] at a3
 have e1 : (V.ot.length : Int) + 1 = ((insS (o.num, 0) V.ol.length V.ot).length : Int) := by rw [ins_len hg]; omega
 have e2 : (V.ol ++ [o]).length = V.ol.length + 1 := by simp
 rw [e1] at a1
 have hs' : Same (g.xs V x) W w' := same_mono a5 (fun k e => e.elim .inl (fun e => .inr (.inl e)))
 refine ⟨rfl, h.turn hs' (V' := { V with ot := insS (o.num, 0) V.ol.length V.ot, ol := V.ol ++ [o], orm := if V.orm < (V.ol.length : Int) + 1 then (V.ol.length : Int) + 1 else V.orm }) (g' := { g with ot := t', oo := some (aq b 0), oc := cap }) ?_ rfl ⟨rfl, rfl, rfl⟩ ⟨rfl, rfl, rfl, rfl⟩ ⟨rfl, rfl, rfl, rfl⟩ ⟨a2, a3, a6⟩ ⟨h.stay hs' h.qt.1, h.qt.2, fun _ e => .inl e⟩ ⟨h.stay hs' h.qz.1, h.qz.2, fun _ e => .inl e⟩ ⟨h.stay hs' h.lu.1, h.lu.2, fun _ e => .inl e⟩ ⟨h.stay hs' h.att.1, h.att.2, fun _ e => .inl e⟩ ?_ ?_⟩
 ·rw [a1]
  unfold pcells
  simp only [e2]
  rfl
 ·show w'.ownsRow 0 184 6 (.slice (some (aq b 0)) (V.ol ++ [o]).length cap) (V.ol ++ [o]).length (flatPO (V.ol ++ [o])) ∧ ∀ k, Value.ownBlock (.slice (some (aq b 0)) (V.ol ++ [o]).length cap) = some k → _
  rw [e2]
  refine ⟨?_, fun k e => ?_⟩
  ·have e3 : flatPO (V.ol ++ [o]) = flatPO V.ol ++ o.vals := by simp [flatPO]
   rw [e3]
   exact a4
  ·have e4 : b = k := by simpa [Value.ownBlock] using e
   rw [← e4]
   exact a7
 ·refine ⟨owns_keep h.arow (fun k e => a5.block k (World.ownsRow.lt h.arow k e).2 (fun c => ?_)), fun k e => .inl e⟩
  rcases c with c | c
  ·exact own_type h.arow h.blk (by decide) (by rw [e, show k = x from c])
  ·obtain ⟨Co, hCo⟩ := prow_block h.orow c
   exact own_type h.arow hCo (by decide) e
end
end
def Ord.alive (o : Ord) : Prop := o.state = 12 ∨ o.state = 13
def Sal.knows (S : Sal) (i : Nat) : Prop := i < S.os.length ∧ ((S.os.getD i ord0).alive ∨ S.now < (S.os.getD i ord0).untl S.C)
theorem untl_alive {C : Cfg} {o : Ord} (h : o.alive) : o.untl C = o.upto := if_pos h
theorem untl_ended {C : Cfg} {o : Ord} (h : ¬ o.alive) : o.untl C = o.ended + C.keep := if_neg h
theorem knows_put {S : Sal} {i : Nat} {o : Ord} (hk : S.knows i) (ho : o.alive ∨ S.now < o.untl S.C) : (S.put i o).knows = S.knows := by
 funext k
 have hg : (S.put i o).os.getD k ord0 = if k = i then o else S.os.getD k ord0 := getD_set o hk.1
 have hl : (S.put i o).os.length = S.os.length := by show (S.os.set i o).length = _; simp
 unfold Sal.knows
 rw [hg, hl]
 by_cases e : k = i
 ·rw [if_pos e, e]
  exact propext ⟨fun _ => hk, fun _ => ⟨hk.1, ho⟩⟩
 ·rw [if_neg e]
  rfl
theorem knows_more {S : Sal} {o : Ord} (ho : o.alive) : (S.more o).knows = fun k => S.knows k ∨ k = S.os.length := by
 funext k
 have hl : (S.more o).os.length = S.os.length + 1 := by show (S.os ++ [o]).length = _; simp
 unfold Sal.knows
 rw [hl]
 by_cases hk : k < S.os.length + 1
 ·have hg : (S.more o).os.getD k ord0 = if k = S.os.length then o else S.os.getD k ord0 := getD_snoc hk
  rw [hg]
  by_cases e : k = S.os.length
  ·rw [if_pos e]
   exact propext ⟨fun _ => .inr e, fun _ => ⟨hk, .inl ho⟩⟩
  ·rw [if_neg e]
   exact propext ⟨fun h => .inl ⟨by omega, h.2⟩, fun h => h.elim (fun h => ⟨hk, h.2⟩) (fun h => absurd h e)⟩
 ·exact propext ⟨fun h => absurd h.1 hk, fun h => h.elim (fun h => by have := h.1; omega) (fun h => by omega)⟩
def Sal.stable (S : Sal) : Prop := ∀ q qs, queueS S.os = q :: qs → S.free < (S.os.getD q ord0).units
theorem promoteN_stable : ∀ (n : Nat) (S : Sal), (queueS S.os).length ≤ n → (promoteN n S).stable
 | 0, S, h => by
   have : queueS S.os = [] := List.length_eq_zero_iff.1 (by omega)
   intro q qs hq
   rw [show promoteN 0 S = S from rfl, this] at hq
   cases hq
 | n + 1, S, h => by
   unfold promoteN
   split
   ·next hq => intro q qs hq'; rw [hq] at hq'; cases hq'
   ·next q qs hq =>
    split
    ·next hf =>
     intro q' qs' hq'
     rw [hq] at hq'
     simp only [List.cons.injEq] at hq'
     rw [← hq'.1]
     exact hf
    ·refine promoteN_stable n _ ?_
     rw [holds_queue hq]
     rw [hq] at h
     simpa using h
theorem promote_stable (S : Sal) : S.promote.stable := promoteN_stable _ S (Nat.le_refl _)
theorem promoteN_orders {Q : Ord → Prop} (now : Int) (C : Cfg) (hq : ∀ o c, Q o → o.state = 12 → Q { o with state := 13, cents := c, upto := now + C.lease }) : ∀ (n : Nat) (S : Sal), S.now = now → S.C = C → (∀ o ∈ S.os, Q o) → ∀ o ∈ (promoteN n S).os, Q o
 | 0, S, _, _, h => h
 | n + 1, S, hn, hC, h => by
   unfold promoteN
   split
   ·exact h
   ·next q qs hqq =>
    split
    ·exact h
    ·obtain ⟨_, hl, hs⟩ := queue_tail hqq ord0 (by decide)
     refine promoteN_orders now C hq n _ hn hC (fun o ho => ?_)
     rcases mem_set (show o ∈ S.os.set q _ from ho) with rfl | ho
     ·rw [hn, hC]
      exact hq _ _ (h _ (ord_mem hl)) hs
     ·exact h o ho
theorem promote_orders {Q : Ord → Prop} (S : Sal) (hq : ∀ o c, Q o → o.state = 12 → Q { o with state := 13, cents := c, upto := S.now + S.C.lease }) (h : ∀ o ∈ S.os, Q o) : ∀ o ∈ S.promote.os, Q o := promoteN_orders S.now S.C hq _ S rfl rfl h
theorem getD_of_mem {os : List Ord} {o : Ord} (h : o ∈ os) : ∃ i, i < os.length ∧ os.getD i ord0 = o := by
 obtain ⟨i, hi, rfl⟩ := List.getElem_of_mem h
 exact ⟨i, hi, by simp [List.getD, List.getElem?_eq_getElem hi]⟩
structure restS (S : Sal) : Prop where
 fut : ∀ o ∈ S.os, o.alive → S.now < o.upto
 stable : S.stable
 lease : 1 ≤ S.C.lease ∧ S.C.lease ≤ 4294967296
 wait : 1 ≤ S.C.wait ∧ S.C.wait ≤ 4294967296
 keep : 1 ≤ S.C.keep ∧ S.C.keep ≤ 4294967296
 tokens : 1 ≤ S.C.tokens ∧ S.C.tokens ≤ 4294967296
 queue : 1 ≤ S.C.queue ∧ S.C.queue ≤ 4294967296
theorem queue_snoc (os : List Ord) (o : Ord) : queueS (os ++ [o]) = if o.state = 12 then queueS os ++ [os.length] else queueS os := by
 have key : ∀ k, k ≤ os.length → queueT (os ++ [o]) k = queueT os k := by
  intro k
  induction k with
  | zero => intro _; rfl
  | succ k ih =>
    intro hk
    have hg : (os ++ [o]).getD k ord0 = os.getD k ord0 := by rw [getD_snoc (by omega), if_neg (by omega)]
    unfold queueT
    rw [hg, ih (by omega)]
 unfold queueS
 rw [List.length_append, List.length_singleton]
 have hg : (os ++ [o]).getD os.length ord0 = o := by rw [getD_snoc (by omega), if_pos rfl]
 rw [queueT, hg, key _ (Nat.le_refl _)]
section
def ansP (P : World → (Nat → Prop) → Prop) (w w' : World) (own : Nat → Prop) : Prop := ∃ own', P w' own' ∧ Same own w w' ∧ ∀ k, own' k → own k ∨ w.heap.size ≤ k
structure Keeps (P : World → (Nat → Prop) → Prop) : Prop where
 lt : ∀ {W o}, P W o → ∀ k, o k → k < W.heap.size
 keep : ∀ {W W' o}, P W o → W.heap.size ≤ W'.heap.size → (∀ k, o k → W'.heap[k]? = W.heap[k]?) → P W' o
def seenT (P : World → (Nat → Prop) → Prop) (w : World) (own : Nat → Prop) (m : Nat) (W : World) : Prop :=
 ∃ own', P W own' ∧ Same own w W ∧ (∀ k, own' k → own k ∨ w.heap.size + m ≤ k) ∧ w.heap.size + m ≤ W.heap.size
section
variable {P P' : World → (Nat → Prop) → Prop} {w W W' : World} {own : Nat → Prop} {m : Nat}
theorem ansP_below (K : Keeps P) (h : P w own) (hb : Below w.heap.size w W) : ansP P w W own := ⟨own, K.keep h hb.size (fun k e => hb.block k (K.lt h k e)), Same.of_below hb, fun _ e => .inl e⟩
theorem ansP_front (hb : Below w.heap.size w W) (h : ansP P W W' own) : ansP P w W' own := by
 obtain ⟨o, a1, a2, a3⟩ := h
 have z := hb.size
 exact ⟨o, a1, Same.trans (Same.of_below (own := own) hb) a2 (fun _ _ e => e.elim id id), fun k e => (a3 k e).imp id (fun e => by omega)⟩
theorem seen_start (K : Keeps P) (h : P w own) (hb : Below w.heap.size w W) (hm : w.heap.size + m ≤ W.heap.size) : seenT P w own m W :=
 ⟨own, K.keep h hb.size (fun k e => hb.block k (K.lt h k e)), Same.of_below hb, fun _ e => .inl e, hm⟩
theorem seen_below (K : Keeps P) (h : seenT P w own m W) (hb : Below W.heap.size W W') : seenT P w own m W' := by
 obtain ⟨o1, a1, a2, a3, a4⟩ := h
 have z := hb.size
 exact ⟨o1, K.keep a1 hb.size (fun k e => hb.block k (K.lt a1 k e)), Same.trans a2 (Same.of_below (own := own) hb) (fun k _ e => e.elim id id), a3, by omega⟩
theorem seen_set (K : Keeps P) (h : seenT P w own m W) (hw : ∀ k, own k → k < w.heap.size) {b i : Nat} (h1 : w.heap.size ≤ b) (h2 : b < w.heap.size + m) (v : Value) : seenT P w own m (W.setCell (aq b i) v) := by
 obtain ⟨o1, a1, a2, a3, a4⟩ := h
 have hk : ∀ k, k ≠ b → (W.setCell (aq b i) v).heap[k]? = W.heap[k]? := fun k e => Below.heap_setCell _ (aq b i) _ _ e
 have hz : (W.setCell (aq b i) v).heap.size = W.heap.size := by simp [World.setCell]
 refine ⟨o1, K.keep a1 (by omega) (fun k e => hk k (fun c => ?_)), ⟨a2.os, a2.tape, a2.output, by have := a2.size; omega, fun k hk' hn => (hk k (by omega)).trans (a2.block k hk' hn)⟩, a3, by omega⟩
 subst c
 rcases a3 k e with e | e
 ·have := hw k e; omega
 ·omega
theorem seen_set6 (K : Keeps P) (h : seenT P w own m W) (hw : ∀ k, own k → k < w.heap.size) {b : Nat} (h1 : w.heap.size ≤ b) (h2 : b < w.heap.size + m) (v0 v1 v2 v3 v4 v5 : Value) : seenT P w own m ((((((W.setCell (aq b 0) v0).setCell (aq b 1) v1).setCell (aq b 2) v2).setCell (aq b 3) v3).setCell (aq b 4) v4).setCell (aq b 5) v5) :=
 seen_set K (seen_set K (seen_set K (seen_set K (seen_set K (seen_set K h hw h1 h2 v0) hw h1 h2 v1) hw h1 h2 v2) hw h1 h2 v3) hw h1 h2 v4) hw h1 h2 v5
theorem seen_end (h : seenT P w own m W) : ansP P w W own := by
 obtain ⟨o1, a1, a2, a3, a4⟩ := h
 exact ⟨o1, a1, a2, fun k e => (a3 k e).imp id (fun e => by omega)⟩
theorem seen_call (hw : ∀ k, own k → k < w.heap.size) {f : FuncId} {args : Array Value} {v : Value} (h : ∀ W o, P W o → Calls Tryz.prog f args W fun e w' => e = .returned v ∧ ansP P' W w' o) (W : World) (hT : seenT P w own m W) :
 Calls Tryz.prog f args W fun e w' => e = .returned v ∧ seenT P' w own m w' ∧ ∀ b, w.heap.size ≤ b → b < w.heap.size + m → w'.heap[b]? = W.heap[b]? := by
 obtain ⟨o1, a1, a2, a3, a4⟩ := hT
 refine (h W o1 a1).mono ?_
 rintro e w' ⟨rfl, o2, b1, b2, b3⟩
 have z1 := a2.size
 have z2 := b2.size
 refine ⟨rfl, ⟨o2, b1, Same.trans a2 b2 (fun k hk e => e.elim id (fun e => (a3 k e).elim id (fun e => by omega))), fun k e => (b3 k e).elim (a3 k) (fun e => .inr (by omega)), by omega⟩, fun b h1 h2 => b2.block b (by omega) (fun e => ?_)⟩
 rcases a3 b e with e | e
 ·have := hw b e; omega
 ·omega
theorem seen_look (K : Keeps P) (hw : ∀ k, own k → k < w.heap.size) {f : FuncId} {args : Array Value} {v : Value} (h : ∀ W o, P W o → Calls Tryz.prog f args W fun e w' => e = .returned v ∧ Below W.heap.size W w') (W : World) (hT : seenT P w own m W) :
 Calls Tryz.prog f args W fun e w' => e = .returned v ∧ seenT P w own m w' ∧ ∀ b, w.heap.size ≤ b → b < w.heap.size + m → w'.heap[b]? = W.heap[b]? := by
 refine seen_call hw (fun W o hp => (h W o hp).mono ?_) W hT
 rintro e w' ⟨rfl, hb⟩
 exact ⟨rfl, ansP_below K hp hb⟩
end
def doesP (w : World) (own : Nat → Prop) (m : Nat) (P P' : World → (Nat → Prop) → Prop) (f : FuncId) (args : Array Value) (v : Value) : Prop :=
 ∀ W, seenT P w own m W → Calls Tryz.prog f args W fun e w' => e = .returned v ∧ seenT P' w own m w' ∧ ∀ b, w.heap.size ≤ b → b < w.heap.size + m → w'.heap[b]? = W.heap[b]?
def psx (an : Int) (x : Nat) (S : Sal) (last : Nat) (w : World) (own : Nat → Prop) : Prop := ∃ V, psm w x own V ∧ relO V S last S.knows ∧ relA V.an V.atl V.att V.al S.C.keep S.ansL ∧ V.an = an
theorem keepX (an : Int) (x : Nat) (S : Sal) (last : Nat) : Keeps (psx an x S last) := ⟨fun ⟨_, h, _⟩ => psm_lt h, fun ⟨V, h, hr⟩ hz hk => ⟨V, psm_keep h hz hk, hr⟩⟩
structure saleK (S : Sal) : Prop where
 I : salI S
 len : S.os.length ≤ 4294967296
 lease : 1 ≤ S.C.lease ∧ S.C.lease ≤ 4294967296
 wait : 1 ≤ S.C.wait ∧ S.C.wait ≤ 4294967296
 keep : 1 ≤ S.C.keep ∧ S.C.keep ≤ 4294967296
theorem saleK.span {S : Sal} (h : saleK S) (st : Int) : 1 ≤ spanS S.C st ∧ spanS S.C st ≤ 4294967296 := by
 unfold spanS
 split
 ·exact h.lease
 split
 ·exact h.wait
 ·exact h.keep
section
variable {w : World} {x : Nat} {own : Nat → Prop} {S : Sal} {last : Nat} {an : Int}
theorem psmAns_psx {w' : World} {V' : PV} {S' : Sal} {last' : Nat} (h : psmAns w w' x own V') (h1 : relO V' S' last' S'.knows) (h2 : relA V'.an V'.atl V'.att V'.al S'.C.keep S'.ansL) (h3 : V'.an = an) : ansP (psx an x S' last') w w' own := by
 obtain ⟨o, a1, a2, a3⟩ := h
 exact ⟨o, ⟨V', a1, h1, h2, h3⟩, a2, a3⟩
theorem lift_does {m f : Nat} {V V' : PV} {args : Array Value} {v : Value} (hw : ∀ k, own k → k < w.heap.size) (h : ∀ W own', psm W x own' V → Calls Tryz.prog f args W fun e w' => e = .returned v ∧ psmAns W w' x own' V') : doesT w own m x V V' f args v := psmT_call hw h
theorem look_does {m f : Nat} {V : PV} {args : Array Value} {v : Value} (hw : ∀ k, own k → k < w.heap.size) (h : ∀ W own', psm W x own' V → Calls Tryz.prog f args W fun e w' => e = .returned v ∧ Below W.heap.size W w') : doesT w own m x V V f args v := psmT_look hw h
theorem move_x (h : psx an x S last w own) (hK : saleK S) {i : Nat} (hi : S.knows i) (p : POrd) (h1 : p.num = (i : Int) + 1) (h2 : p.cust = (S.os.getD i ord0).cust) (h3 : p.units = (S.os.getD i ord0).units) (h4 : p.st = (S.os.getD i ord0).state) (st : Int) (hst : st ≠ 12) (o : Ord) (g2 : o.cust = p.cust) (g3 : o.units = p.units) (g4 : o.state = st) (g5 : o.cents = p.cents) (g6 : o.untl S.C = S.now + spanS S.C st) :
 Calls Tryz.prog 157 #[pt x 0, p.val, iv st] w fun e w' => e = .returned (POrd.val { p with st := st, upto := S.now + spanS S.C st }) ∧ ansP (psx an x (S.put i o) last) w w' own := by
 obtain ⟨V, hm, hr, ha, han⟩ := h
 have hw := psm_lt hm
 have hil := hr.kin i hi
 obtain ⟨u1, u2⟩ := hK.I.units _ (ord_mem hil)
 have hc0 : p.cust ≠ 0 := by rw [h2]; exact hr.cust _ (ord_mem hil)
 have hB := hr.bounds hK.I hK.len
 have hsp := hK.span st
 have hnow := hK.I.now
 obtain ⟨j, hj1, hj2⟩ := hr.known hi
 rw [← h1] at hj2
 have hfin := hr.move hi h1 h2 h3 h4 hst g2 g3 g4 g5 g6 hsp.1 hj2
 have hkn : (S.put i o).knows = S.knows := knows_put hi (.inr (by rw [g6]; omega))
 rw [← hkn] at hfin
 have hsv : spanS V.C st = spanS S.C st := by rw [hr.C]
 have hun : 1 ≤ p.units ∧ p.units ≤ 4294967296 := by rw [h3]; exact ⟨u1, u2⟩
 have hf1 := hB.un p.st p.cust
 have L2 := ledg_addA hr.lu (st := p.st) (-p.units) hc0
 have hz2 := addA_le hr.lu.1 p.cust p.st (-p.units) (by omega)
 have hf2 : ∀ s, isL s → -2305843009213693952 ≤ addF (unitsF S.os) p.cust p.st (-p.units) s p.cust ∧ addF (unitsF S.os) p.cust p.st (-p.units) s p.cust ≤ 2305843009213693952 := fun s hs => by
  have := hB.un s p.cust hs hc0
  rw [addF_at]
  split <;> omega
 have hu5 := unsetL_len V.tl p.num
 have b1 := hB.held
 have b2 := hB.sold
 have b3 := hB.lu
 have b4 := hB.tl
 have b5 := hB.qt
 have b6 := hB.qz
 have e0 : V.now + spanS S.C st = S.now + spanS S.C st := by rw [hr.now]
 by_cases h12 : p.st = 12
 ·have hq : (S.os.getD i ord0).state = 12 := h4 ▸ h12
  have t1 : getS (p.num, 0) V.qt = some 0 := (get_iff hr.turns.1).2 ((hr.turns.2 _).2 ⟨i, hil, hq, by rw [h1]⟩)
  have t2 : getS (-p.units, p.num) V.qz = some 0 := (get_iff hr.sizes.1).2 ((hr.sizes.2 _).2 ⟨i, hil, hq, by rw [h1, h3]⟩)
  have hfin' : { V.moved p st with ol := V.ol.set j (p.to V st) } = { ({ (((V.qout p).led p.cust 12 (-p.units)).led p.cust st p.units) with tl := setL V.tn (unsetL V.tl p.num) p.num (V.now + spanS V.C st) } : PV) with ol := V.ol.set j (p.to V st) } := by
   simp only [PV.moved, PV.led, PV.qout, h12, if_neg hst, if_true, if_neg (show ¬ (12 : Int) = 13 by decide), if_neg (show ¬ (12 : Int) = 14 by decide)]
  rw [hfin'] at hfin
  have H := move_out x V.tw own V (V.qout p) ((V.qout p).led p.cust 12 (-p.units)) (((V.qout p).led p.cust 12 (-p.units)).led p.cust st p.units) { (((V.qout p).led p.cust 12 (-p.units)).led p.cust st p.units) with tl := unsetL V.tl p.num } { (((V.qout p).led p.cust 12 (-p.units)).led p.cust st p.units) with tl := setL V.tn (unsetL V.tl p.num) p.num (V.now + spanS S.C st) } { ({ (((V.qout p).led p.cust 12 (-p.units)).led p.cust st p.units) with tl := setL V.tn (unsetL V.tl p.num) p.num (V.now + spanS S.C st) } : PV) with ol := V.ol.set j { p with st := st, upto := V.now + spanS S.C st } }
   p.num p.cust p.units p.cents p.upto st (spanS S.C st) _ _ w hw hm ⟨by omega, hun.2⟩ ⟨by show 0 ≤ V.now + _; rw [hr.now]; omega, by show V.now + _ ≤ _; rw [hr.now]; omega⟩ (by simpa using hst) rfl rfl rfl
   (lift_does hw (fun W own' hp => by rw [← h12]; exact qout_x p hp hr.turns.1 hr.sizes.1 t1 t2 (by omega) (by omega) ⟨by omega, hun.2⟩))
   (lift_does hw (fun W own' hp => led_x p.cust 12 (-p.units) (unitsF S.os) hp hr.lu hc0 (by omega) ⟨by omega, by omega⟩ (fun hs => by have := hB.un 12 p.cust hs hc0; exact ⟨by omega, by omega⟩) (by show V.lu.length ≤ _; omega) ⟨by show _ ≤ V.held; omega, by show V.held ≤ _; omega⟩ ⟨by show _ ≤ V.sold; omega, by show V.sold ≤ _; omega⟩))
   (lift_does hw (fun W own' hp => led_x p.cust st p.units (addF (unitsF S.os) p.cust p.st (-p.units)) hp (by rw [h12] at L2 ⊢; exact L2) hc0 (by omega) ⟨by omega, by omega⟩ (hf2 st) (by show (addA V.lu p.cust 12 (-p.units)).length ≤ _; rw [h12] at hz2; omega) ⟨by show _ ≤ V.held; omega, by show V.held ≤ _; omega⟩ ⟨by show _ ≤ V.sold; omega, by show V.sold ≤ _; omega⟩))
   (look_does hw (fun W own' hp => by have h := span_x st hp; rwa [show spanS (((V.qout p).led p.cust 12 (-p.units)).led p.cust st p.units).C st = spanS S.C st from hsv] at h))
   (lift_does hw (fun W own' hp => unset_x p.num hp (by show V.tl.length ≤ _; omega)))
   (lift_does hw (fun W own' hp => set_x p.num (V.now + spanS S.C st) hp (by show (unsetL V.tl p.num).length ≤ _; omega)))
   (lift_does hw (fun W own' hp => oputT_x { p with st := st, upto := V.now + spanS S.C st } hp hr.ls.srt hj2 hj1))
  have ep : POrd.val p = .agg #[iv p.num, iv p.cust, iv p.units, iv 12, iv p.cents, iv p.upto] := by rw [← h12]; rfl
  rw [ep]
  refine H.mono ?_
  rintro e w' ⟨rfl, hq⟩
  refine ⟨?_, psmAns_psx hq ?_ ha han⟩
  ·rw [show (PV.now (((V.qout p).led p.cust 12 (-p.units)).led p.cust st p.units)) = S.now from hr.now]; rfl
  ·rw [hsv] at hfin
   have : p.to V st = { p with st := st, upto := V.now + spanS S.C st } := by unfold POrd.to; rw [hsv]
   rw [this] at hfin
   exact hfin
 ·have hfin' : { V.moved p st with ol := V.ol.set j (p.to V st) } = { ({ ((V.led p.cust p.st (-p.units)).led p.cust st p.units) with tl := setL V.tn (unsetL V.tl p.num) p.num (V.now + spanS V.C st) } : PV) with ol := V.ol.set j (p.to V st) } := by
   simp only [PV.moved, PV.led, if_neg hst, if_neg h12]
  rw [hfin'] at hfin
  have H := move_on x V.tw own V (V.led p.cust p.st (-p.units)) ((V.led p.cust p.st (-p.units)).led p.cust st p.units) { ((V.led p.cust p.st (-p.units)).led p.cust st p.units) with tl := unsetL V.tl p.num } { ((V.led p.cust p.st (-p.units)).led p.cust st p.units) with tl := setL V.tn (unsetL V.tl p.num) p.num (V.now + spanS S.C st) } { ({ ((V.led p.cust p.st (-p.units)).led p.cust st p.units) with tl := setL V.tn (unsetL V.tl p.num) p.num (V.now + spanS S.C st) } : PV) with ol := V.ol.set j { p with st := st, upto := V.now + spanS S.C st } }
   p.num p.cust p.units p.st p.cents p.upto st (spanS S.C st) _ _ w hw hm ⟨by omega, hun.2⟩ ⟨by show 0 ≤ V.now + _; rw [hr.now]; omega, by show V.now + _ ≤ _; rw [hr.now]; omega⟩ (by simpa using h12) (by simpa using hst) rfl rfl rfl
   (lift_does hw (fun W own' hp => led_x p.cust p.st (-p.units) (unitsF S.os) hp hr.lu hc0 (by omega) ⟨by omega, by omega⟩ (fun hs => by have := hB.un p.st p.cust hs hc0; exact ⟨by omega, by omega⟩) (by show V.lu.length ≤ _; omega) ⟨by show _ ≤ V.held; omega, by show V.held ≤ _; omega⟩ ⟨by show _ ≤ V.sold; omega, by show V.sold ≤ _; omega⟩))
   (lift_does hw (fun W own' hp => led_x p.cust st p.units (addF (unitsF S.os) p.cust p.st (-p.units)) hp L2 hc0 (by omega) ⟨by omega, by omega⟩ (hf2 st) (by show (addA V.lu p.cust p.st (-p.units)).length ≤ _; omega) (by show -2305843009213693952 ≤ (if p.st = 13 then V.held + -p.units else V.held) ∧ (if p.st = 13 then V.held + -p.units else V.held) ≤ 2305843009213693952; split <;> exact ⟨by omega, by omega⟩) (by show -2305843009213693952 ≤ (if p.st = 14 then V.sold + -p.units else V.sold) ∧ (if p.st = 14 then V.sold + -p.units else V.sold) ≤ 2305843009213693952; split <;> exact ⟨by omega, by omega⟩)))
   (look_does hw (fun W own' hp => by have h := span_x st hp; rwa [show spanS ((V.led p.cust p.st (-p.units)).led p.cust st p.units).C st = spanS S.C st from hsv] at h))
   (lift_does hw (fun W own' hp => unset_x p.num hp (by show V.tl.length ≤ _; omega)))
   (lift_does hw (fun W own' hp => set_x p.num (V.now + spanS S.C st) hp (by show (unsetL V.tl p.num).length ≤ _; omega)))
   (lift_does hw (fun W own' hp => oputT_x { p with st := st, upto := V.now + spanS S.C st } hp hr.ls.srt hj2 hj1))
  refine H.mono ?_
  rintro e w' ⟨rfl, hq⟩
  refine ⟨?_, psmAns_psx hq ?_ ha han⟩
  ·rw [show (PV.now ((V.led p.cust p.st (-p.units)).led p.cust st p.units)) = S.now from hr.now]; rfl
  ·rw [hsv] at hfin
   have : p.to V st = { p with st := st, upto := V.now + spanS S.C st } := by unfold POrd.to; rw [hsv]
   rw [this] at hfin
   exact hfin
theorem moveNew_x (h : psx an x S (S.os.length + 1) w own) (hK : saleK S) (p : POrd) (h1 : p.num = (S.os.length : Int) + 1) (h4 : p.st = 0) (hc0 : p.cust ≠ 0) (hun : 1 ≤ p.units ∧ p.units ≤ 4294967296) (st : Int) (hst : st = 12 ∨ st = 13) (o : Ord) (g2 : o.cust = p.cust) (g3 : o.units = p.units) (g4 : o.state = st) (g5 : o.cents = p.cents) (g6 : o.untl S.C = S.now + spanS S.C st) :
 Calls Tryz.prog 157 #[pt x 0, p.val, iv st] w fun e w' => e = .returned (POrd.val { p with st := st, upto := S.now + spanS S.C st }) ∧ ansP (psx an x (S.more o) (S.os.length + 1)) w w' own := by
 obtain ⟨V, hm, hr, ha, han⟩ := h
 have hw := psm_lt hm
 have hB := hr.bounds hK.I hK.len
 have hsp := hK.span st
 have hnow := hK.I.now
 have hfr : ∀ i, S.knows i → p.num ≠ (i : Int) + 1 := fun i hi => by have := hi.1; omega
 have hg := hr.strange hfr
 have hfin := hr.moveNew h1 h4 g2 g3 g4 g5 g6 hsp.1 hc0 (if V.orm < (V.ol.length : Int) + 1 then (V.ol.length : Int) + 1 else V.orm)
 have hkn : (S.more o).knows = fun k => S.knows k ∨ k = S.os.length := knows_more (by rw [Ord.alive, g4]; exact hst)
 rw [← hkn] at hfin
 have hsv : spanS V.C st = spanS S.C st := by rw [hr.C]
 have L1 : addA V.lu p.cust 0 (-p.units) = V.lu := by unfold addA; rw [if_neg (by unfold isL; omega)]
 have l1 : V.led p.cust 0 (-p.units) = V := by
  unfold PV.led
  rw [L1, if_neg (by decide), if_neg (by decide)]
 have b1 := hB.held
 have b2 := hB.sold
 have b3 := hB.lu
 have b4 := hB.tl
 have b5 := hB.qt
 have b6 := hB.qz
 have hu5 := unsetL_len V.tl p.num
 have hol := listed_len hr.ls
 have hq1 : getS (p.num, 0) V.qt = none := get_none.2 (fun e he c => by
  obtain ⟨i, hi, _, rfl⟩ := (hr.turns.2 e).1 he
  have : (i : Int) + 1 = p.num := by simpa using c
  omega)
 have hq2 : getS (-p.units, p.num) V.qz = none := get_none.2 (fun e he c => by
  obtain ⟨i, hi, _, rfl⟩ := (hr.sizes.2 e).1 he
  simp only [Prod.mk.injEq] at c
  have := c.2
  omega)
 have hbu : ∀ W own', psm W x own' V → Calls Tryz.prog 171 #[pt x 19, iv p.cust, iv 0, iv (-p.units)] W fun e w' => e = .returned (.tuple #[]) ∧ psmAns W w' x own' V := fun W own' hp => by
  have := led_x p.cust 0 (-p.units) (unitsF S.os) hp hr.lu hc0 (by omega) ⟨by omega, by omega⟩ (fun hs => by unfold isL at hs; omega) (by omega) ⟨by omega, by omega⟩ ⟨by omega, by omega⟩
  rwa [l1] at this
 have hadd : ∀ W own', psm W x own' V → Calls Tryz.prog 171 #[pt x 19, iv p.cust, iv st, iv p.units] W fun e w' => e = .returned (.tuple #[]) ∧ psmAns W w' x own' (V.led p.cust st p.units) := fun W own' hp =>
  led_x p.cust st p.units (unitsF S.os) hp hr.lu hc0 (by omega) ⟨by omega, by omega⟩ (fun hs => by have := hB.un st p.cust hs hc0; exact ⟨by omega, by omega⟩) (by omega) ⟨by omega, by omega⟩ ⟨by omega, by omega⟩
 rcases hst with rfl | rfl
 ·have hfin' : { V.moved p 12 with ot := insS (p.num, 0) V.ol.length V.ot, ol := V.ol ++ [p.to V 12], orm := if V.orm < (V.ol.length : Int) + 1 then (V.ol.length : Int) + 1 else V.orm } = { ({ ((V.led p.cust 12 p.units).qin { p with st := 12 }) with tl := setL V.tn (unsetL V.tl p.num) p.num (V.now + spanS V.C 12) } : PV) with ot := insS (p.num, 0) V.ol.length V.ot, ol := V.ol ++ [p.to V 12], orm := if V.orm < (V.ol.length : Int) + 1 then (V.ol.length : Int) + 1 else V.orm } := by
   simp only [PV.moved, PV.led, PV.qin, h4, L1, if_true, if_neg (show ¬ (0 : Int) = 12 by decide), if_neg (show ¬ (0 : Int) = 13 by decide), if_neg (show ¬ (0 : Int) = 14 by decide), if_neg (show ¬ (12 : Int) = 13 by decide), if_neg (show ¬ (12 : Int) = 14 by decide)]
  rw [hfin'] at hfin
  have H := move_in x V.tw own V V (V.led p.cust 12 p.units) ((V.led p.cust 12 p.units).qin { p with st := 12 }) { ((V.led p.cust 12 p.units).qin { p with st := 12 }) with tl := unsetL V.tl p.num } { ((V.led p.cust 12 p.units).qin { p with st := 12 }) with tl := setL V.tn (unsetL V.tl p.num) p.num (V.now + spanS S.C 12) } { ({ ((V.led p.cust 12 p.units).qin { p with st := 12 }) with tl := setL V.tn (unsetL V.tl p.num) p.num (V.now + spanS S.C 12) } : PV) with ot := insS (p.num, 0) V.ol.length V.ot, ol := V.ol ++ [{ p with st := 12, upto := V.now + spanS S.C 12 }], orm := if V.orm < (V.ol.length : Int) + 1 then (V.ol.length : Int) + 1 else V.orm }
   p.num p.cust p.units 0 p.cents p.upto (spanS S.C 12) _ _ w hw hm ⟨by omega, hun.2⟩ ⟨by show 0 ≤ V.now + _; rw [hr.now]; omega, by show V.now + _ ≤ _; rw [hr.now]; omega⟩ (by decide) rfl rfl rfl
   (lift_does hw hbu) (lift_does hw hadd)
   (lift_does hw (fun W own' hp => qin_x { p with st := 12 } hp hr.turns.1 hr.sizes.1 hq1 hq2 (by show V.qt.length ≤ _; omega) (by show V.qz.length ≤ _; omega) ⟨by show 0 ≤ p.units; omega, hun.2⟩))
   (look_does hw (fun W own' hp => by have h := span_x 12 hp; rwa [show spanS ((V.led p.cust 12 p.units).qin { p with st := 12 }).C 12 = spanS S.C 12 from hsv] at h))
   (lift_does hw (fun W own' hp => unset_x p.num hp (by show V.tl.length ≤ _; omega)))
   (lift_does hw (fun W own' hp => set_x p.num (V.now + spanS S.C 12) hp (by show (unsetL V.tl p.num).length ≤ _; omega)))
   (lift_does hw (fun W own' hp => oputN_x { p with st := 12, upto := V.now + spanS S.C 12 } hp hr.ls.srt hg hol (by show V.ol.length ≤ _; have := hB.ol; omega)))
  have ep : POrd.val p = .agg #[iv p.num, iv p.cust, iv p.units, iv 0, iv p.cents, iv p.upto] := by rw [← h4]; rfl
  rw [ep]
  refine H.mono ?_
  rintro e w' ⟨rfl, hq⟩
  refine ⟨?_, psmAns_psx hq ?_ ha han⟩
  ·rw [show (PV.now ((V.led p.cust 12 p.units).qin { p with st := 12 })) = S.now from hr.now]; rfl
  ·rw [hsv] at hfin
   have : p.to V 12 = { p with st := 12, upto := V.now + spanS S.C 12 } := by unfold POrd.to; rw [hsv]
   rw [this] at hfin
   exact hfin
 ·have hfin' : { V.moved p 13 with ot := insS (p.num, 0) V.ol.length V.ot, ol := V.ol ++ [p.to V 13], orm := if V.orm < (V.ol.length : Int) + 1 then (V.ol.length : Int) + 1 else V.orm } = { ({ (V.led p.cust 13 p.units) with tl := setL V.tn (unsetL V.tl p.num) p.num (V.now + spanS V.C 13) } : PV) with ot := insS (p.num, 0) V.ol.length V.ot, ol := V.ol ++ [p.to V 13], orm := if V.orm < (V.ol.length : Int) + 1 then (V.ol.length : Int) + 1 else V.orm } := by
   simp only [PV.moved, PV.led, h4, L1, if_true, if_neg (show ¬ (0 : Int) = 12 by decide), if_neg (show ¬ (0 : Int) = 13 by decide), if_neg (show ¬ (0 : Int) = 14 by decide), if_neg (show ¬ (13 : Int) = 12 by decide), if_neg (show ¬ (13 : Int) = 14 by decide)]
  rw [hfin'] at hfin
  have H := move_on x V.tw own V V (V.led p.cust 13 p.units) { (V.led p.cust 13 p.units) with tl := unsetL V.tl p.num } { (V.led p.cust 13 p.units) with tl := setL V.tn (unsetL V.tl p.num) p.num (V.now + spanS S.C 13) } { ({ (V.led p.cust 13 p.units) with tl := setL V.tn (unsetL V.tl p.num) p.num (V.now + spanS S.C 13) } : PV) with ot := insS (p.num, 0) V.ol.length V.ot, ol := V.ol ++ [{ p with st := 13, upto := V.now + spanS S.C 13 }], orm := if V.orm < (V.ol.length : Int) + 1 then (V.ol.length : Int) + 1 else V.orm }
   p.num p.cust p.units 0 p.cents p.upto 13 (spanS S.C 13) _ _ w hw hm ⟨by omega, hun.2⟩ ⟨by show 0 ≤ V.now + _; rw [hr.now]; omega, by show V.now + _ ≤ _; rw [hr.now]; omega⟩ (by decide) (by decide) rfl rfl rfl
   (lift_does hw hbu) (lift_does hw hadd)
   (look_does hw (fun W own' hp => by have h := span_x 13 hp; rwa [show spanS (V.led p.cust 13 p.units).C 13 = spanS S.C 13 from hsv] at h))
   (lift_does hw (fun W own' hp => unset_x p.num hp (by show V.tl.length ≤ _; omega)))
   (lift_does hw (fun W own' hp => set_x p.num (V.now + spanS S.C 13) hp (by show (unsetL V.tl p.num).length ≤ _; omega)))
   (lift_does hw (fun W own' hp => oputN_x { p with st := 13, upto := V.now + spanS S.C 13 } hp hr.ls.srt hg hol (by show V.ol.length ≤ _; have := hB.ol; omega)))
  have ep : POrd.val p = .agg #[iv p.num, iv p.cust, iv p.units, iv 0, iv p.cents, iv p.upto] := by rw [← h4]; rfl
  rw [ep]
  refine H.mono ?_
  rintro e w' ⟨rfl, hq⟩
  refine ⟨?_, psmAns_psx hq ?_ ha han⟩
  ·rw [show (PV.now (V.led p.cust 13 p.units)) = S.now from hr.now]; rfl
  ·rw [hsv] at hfin
   have : p.to V 13 = { p with st := 13, upto := V.now + spanS S.C 13 } := by unfold POrd.to; rw [hsv]
   rw [this] at hfin
   exact hfin
end
end
section
theorem least_of {p : Nat → Prop} (h : ∃ n, p n) : ∃ n, p n ∧ ∀ m, p m → n ≤ m := by
 obtain ⟨n, hn⟩ := h
 induction n using Nat.strongRecOn with
 | _ n ih =>
   by_cases hx : ∃ m, m < n ∧ p m
   ·obtain ⟨m, h1, h2⟩ := hx
    exact ih m h1 h2
   ·exact ⟨n, hn, fun m hm => Nat.le_of_not_lt (fun c => hx ⟨m, c, hm⟩)⟩
open Classical in
noncomputable def fuel (p : Nat → Prop) : Nat := if h : ∃ n, p n then Classical.choose (least_of h) else 0
theorem fuel_at {p : Nat → Prop} (h : ∃ n, p n) : p (fuel p) := by
 unfold fuel
 rw [dif_pos h]
 exact (Classical.choose_spec (least_of h)).1
theorem fuel_le {p : Nat → Prop} {n : Nat} (h : p n) : fuel p ≤ n := by
 unfold fuel
 rw [dif_pos ⟨n, h⟩]
 exact (Classical.choose_spec (least_of ⟨n, h⟩)).2 n h
theorem hold_w (x : Nat) (own : Nat → Prop) (P P' : World → (Nat → Prop) → Prop) (KP : Keeps P) (KP' : Keeps P') (num cust units st cents up c up' : Int) (w : World) (hw : ∀ k, own k → k < w.heap.size) (h : P w own)
 (HP : Hid (doesP w own 2 P P 178 #[pt x 0] (iv c)))
 (HM : Hid (doesP w own 2 P P' 157 #[pt x 0, .agg #[iv num, iv cust, iv units, iv st, iv c, iv up], iv 13] (.agg #[iv num, iv cust, iv units, iv 13, iv c, iv up']))) :
 Calls Tryz.prog 162 #[pt x 0, .agg #[iv num, iv cust, iv units, iv st, iv cents, iv up]] w fun e w' => e = .returned (.agg #[iv num, iv cust, iv units, iv 13, iv c, iv up']) ∧ ansP P' w w' own := by
 go_enter Tryz.func162, Tryz.ntmps162
 have hT0 : Hid (seenT P w own 2 ((w.alloc (.cells #[iv num, iv cust, iv units, iv st, iv cents, iv up] 184)).alloc (.cells #[iv 0, iv 0, iv 0, iv 0, iv 0, iv 0] 184))) := seen_start KP h (((Below.refl _ _).alloc (Nat.le_refl _) _).alloc (by simp) _) (by simp)
 have ob0 : Hid (((w.alloc (.cells #[iv num, iv cust, iv units, iv st, iv cents, iv up] 184)).alloc (.cells #[iv 0, iv 0, iv 0, iv 0, iv 0, iv 0] 184)).heap[w.heap.size]? = some (.cells #[iv num, iv cust, iv units, iv st, iv cents, iv up] 184 (0, 0))) := (Below.heap_alloc _ _ _ (by simp)).trans (heap_alloc_new w _)
 have rb0 : Hid (((w.alloc (.cells #[iv num, iv cust, iv units, iv st, iv cents, iv up] 184)).alloc (.cells #[iv 0, iv 0, iv 0, iv 0, iv 0, iv 0] 184)).heap[w.heap.size + 1]? = some (.cells #[iv 0, iv 0, iv 0, iv 0, iv 0, iv 0] 184 (0, 0))) := by
  have h := heap_alloc_new (w.alloc (.cells #[iv num, iv cust, iv units, iv st, iv cents, iv up] 184)) (.cells #[iv 0, iv 0, iv 0, iv 0, iv 0, iv 0] 184)
  rwa [show (w.alloc (.cells #[iv num, iv cust, iv units, iv st, iv cents, iv up] 184)).heap.size = w.heap.size + 1 by simp] at h
 clear h
 go_wp2_with fail
 generalize (w.alloc (.cells #[iv num, iv cust, iv units, iv st, iv cents, iv up] 184)).alloc (.cells #[iv 0, iv 0, iv 0, iv 0, iv 0, iv 0] 184) = W0 at hT0 ob0 rb0 ⊢
 refine (HP.out _ hT0.out).mono ?_
 rintro e W1 ⟨rfl, hT1, hk⟩
 have ob1 : Hid (W1.heap[w.heap.size]? = some (.cells #[iv num, iv cust, iv units, iv st, iv cents, iv up] 184 (0, 0))) := (hk _ (Nat.le_refl _) (by omega)).trans ob0.out
 have rb1 : Hid (W1.heap[w.heap.size + 1]? = some (.cells #[iv 0, iv 0, iv 0, iv 0, iv 0, iv 0] 184 (0, 0))) := (hk _ (by omega) (by omega)).trans rb0.out
 clear hk hT0 ob0 rb0
 obtain ⟨s0, s1, s2, s3, s4, s5⟩ := six_cells ob1.out
 have f4 := row_free ob1.out 4
 have hT2 : Hid (seenT P w own 2 (W1.setCell (aq w.heap.size 4) (iv c))) := seen_set KP hT1 hw (Nat.le_refl _) (by omega) _
 have rb2 : Hid ((W1.setCell (aq w.heap.size 4) (iv c)).heap[w.heap.size + 1]? = some (.cells #[iv 0, iv 0, iv 0, iv 0, iv 0, iv 0] 184 (0, 0))) := (Below.heap_setCell _ (aq w.heap.size 4) _ _ (by show w.heap.size + 1 ≠ w.heap.size; omega)).trans rb1.out
 have lw1 : w.heap.size < W1.heap.size := (blt ob1.out)
 have lv1 : w.heap.size + 1 < W1.heap.size := (blt rb1.out)
 clear ob1 rb1 hT1
 go_wp2_with fail
 refine (HM.out _ hT2.out).mono ?_
 rintro e W2 ⟨rfl, hT3, hk⟩
 have rb3 : Hid (W2.heap[w.heap.size + 1]? = some (.cells #[iv 0, iv 0, iv 0, iv 0, iv 0, iv 0] 184 (0, 0))) := (hk _ (by omega) (by omega)).trans rb2.out
 have lv2 : w.heap.size + 1 < W2.heap.size := (blt rb3.out)
 have HE : Hid (∀ v0 v1 v2 v3 v4 v5, ansP P' w ((((((W2.setCell (aq (w.heap.size + 1) 0) v0).setCell (aq (w.heap.size + 1) 1) v1).setCell (aq (w.heap.size + 1) 2) v2).setCell (aq (w.heap.size + 1) 3) v3).setCell (aq (w.heap.size + 1) 4) v4).setCell (aq (w.heap.size + 1) 5) v5) own) := fun v0 v1 v2 v3 v4 v5 => seen_end (seen_set6 KP' hT3 hw (by omega) (by omega) v0 v1 v2 v3 v4 v5)
 have g0 := row_free rb3.out 0
 have g1 := row_free rb3.out 1
 have g2 := row_free rb3.out 2
 have g3 := row_free rb3.out 3
 have g4 := row_free rb3.out 4
 have g5 := row_free rb3.out 5
 obtain ⟨r0, r1, r2, r3, r4, r5⟩ := six_cells rb3.out
 clear hk hT2 rb2 hT3 s0 s1 s2 s3 s4 s5 f4
 go_wp2
 refine bodyPost_ret (v := .agg #[iv num, iv cust, iv units, iv 13, iv c, iv up']) (by simp [results, Tryz.results162, go_sem, r0, r1, r2, r3, r4, r5]) rfl ⟨rfl, ?_⟩
 exact HE.out _ _ _ _ _ _
theorem firstQ_no (x : Nat) (n : Int) (w : World)
 (HF : Hid (∀ W, Below w.heap.size w W → Calls Tryz.prog 177 #[pt x 15] W fun e w' => e = .returned (.tuple #[iv n, .bool false]) ∧ Below W.heap.size W w')) :
 Calls Tryz.prog 161 #[pt x 0] w fun e w' => e = .returned (.tuple #[.agg #[iv 0, iv 0, iv 0, iv 0, iv 0, iv 0], .bool false]) ∧ Below w.heap.size w w' := by
 go_enter Tryz.func161, Tryz.ntmps161
 go_wp2_with fail
 refine (HF.out _ ((Below.refl _ _).alloc (Nat.le_refl _) _)).mono ?_
 rintro e w1 ⟨rfl, b1⟩
 have n1 : w1.heap[w.heap.size]? = some (.cells #[iv 0, iv 0, iv 0, iv 0, iv 0, iv 0] 184 (0, 0)) := (b1.block _ (by simp)).trans (heap_alloc_new w _)
 have hb1 : Below w.heap.size w w1 := Below.trans ((Below.refl _ _).alloc (Nat.le_refl _) _) (b1.mono (by simp))
 have z1 : w.heap.size < w1.heap.size := (blt n1)
 obtain ⟨s0, s1, s2, s3, s4, s5⟩ := six_cells n1
 have f0 := row_free n1 0
 have f1 := row_free n1 1
 have f2 := row_free n1 2
 have f3 := row_free n1 3
 have f4 := row_free n1 4
 have f5 := row_free n1 5
 clear b1 n1
 go_wp2
 refine bodyPost_ret (v := .tuple #[.agg #[iv 0, iv 0, iv 0, iv 0, iv 0, iv 0], .bool false]) (by simp [results, Tryz.results161, go_sem, s0, s1, s2, s3, s4, s5]) rfl ⟨rfl, ?_⟩
 exact below_set6 hb1 (Nat.le_refl _)
theorem firstQ_yes (x : Nat) (n num cust units st cents up : Int) (w : World)
 (HF : Hid (∀ W, Below w.heap.size w W → Calls Tryz.prog 177 #[pt x 15] W fun e w' => e = .returned (.tuple #[iv n, .bool true]) ∧ Below W.heap.size W w'))
 (HG : Hid (∀ W, Below w.heap.size w W → Calls Tryz.prog 131 #[pt x 11, iv n] W fun e w' => e = .returned (.tuple #[.agg #[iv num, iv cust, iv units, iv st, iv cents, iv up], .bool true]) ∧ Below W.heap.size W w')) :
 Calls Tryz.prog 161 #[pt x 0] w fun e w' => e = .returned (.tuple #[.agg #[iv num, iv cust, iv units, iv st, iv cents, iv up], .bool true]) ∧ Below w.heap.size w w' := by
 go_enter Tryz.func161, Tryz.ntmps161
 go_wp2_with fail
 refine (HF.out _ ((Below.refl _ _).alloc (Nat.le_refl _) _)).mono ?_
 rintro e w1 ⟨rfl, b1⟩
 have n1 : w1.heap[w.heap.size]? = some (.cells #[iv 0, iv 0, iv 0, iv 0, iv 0, iv 0] 184 (0, 0)) := (b1.block _ (by simp)).trans (heap_alloc_new w _)
 have hb1 : Below w.heap.size w w1 := Below.trans ((Below.refl _ _).alloc (Nat.le_refl _) _) (b1.mono (by simp))
 have z1 : w.heap.size < w1.heap.size := (blt n1)
 clear b1
 go_wp2_with fail
 refine (HG.out _ hb1).mono ?_
 rintro e w2 ⟨rfl, b2⟩
 have n2 := (b2.block _ z1).trans n1
 have hb2 : Below w.heap.size w w2 := Below.trans hb1 (b2.mono hb1.size)
 have z2 : w.heap.size < w2.heap.size := (blt n2)
 obtain ⟨s0, s1, s2, s3, s4, s5⟩ := six_cells n2
 have f0 := row_free n2 0
 have f1 := row_free n2 1
 have f2 := row_free n2 2
 have f3 := row_free n2 3
 have f4 := row_free n2 4
 have f5 := row_free n2 5
 clear b2 n2 n1 HF HG
 go_wp2
 refine bodyPost_ret (v := .tuple #[.agg #[iv num, iv cust, iv units, iv st, iv cents, iv up], .bool true]) (by simp [results, Tryz.results161, go_sem, s0, s1, s2, s3, s4, s5]) rfl ⟨rfl, ?_⟩
 exact below_set6 hb2 (Nat.le_refl _)
theorem greatQ_no (x : Nat) (n : Int) (w : World)
 (HF : Hid (∀ W, Below w.heap.size w W → Calls Tryz.prog 186 #[pt x 15] W fun e w' => e = .returned (.tuple #[iv n, .bool false]) ∧ Below W.heap.size W w')) :
 Calls Tryz.prog 175 #[pt x 0] w fun e w' => e = .returned (.tuple #[.agg #[iv 0, iv 0, iv 0, iv 0, iv 0, iv 0], .bool false]) ∧ Below w.heap.size w w' := by
 go_enter Tryz.func175, Tryz.ntmps175
 go_wp2_with fail
 refine (HF.out _ ((Below.refl _ _).alloc (Nat.le_refl _) _)).mono ?_
 rintro e w1 ⟨rfl, b1⟩
 have n1 : w1.heap[w.heap.size]? = some (.cells #[iv 0, iv 0, iv 0, iv 0, iv 0, iv 0] 184 (0, 0)) := (b1.block _ (by simp)).trans (heap_alloc_new w _)
 have hb1 : Below w.heap.size w w1 := Below.trans ((Below.refl _ _).alloc (Nat.le_refl _) _) (b1.mono (by simp))
 have z1 : w.heap.size < w1.heap.size := (blt n1)
 obtain ⟨s0, s1, s2, s3, s4, s5⟩ := six_cells n1
 have f0 := row_free n1 0
 have f1 := row_free n1 1
 have f2 := row_free n1 2
 have f3 := row_free n1 3
 have f4 := row_free n1 4
 have f5 := row_free n1 5
 clear b1 n1
 go_wp2
 refine bodyPost_ret (v := .tuple #[.agg #[iv 0, iv 0, iv 0, iv 0, iv 0, iv 0], .bool false]) (by simp [results, Tryz.results175, go_sem, s0, s1, s2, s3, s4, s5]) rfl ⟨rfl, ?_⟩
 exact below_set6 hb1 (Nat.le_refl _)
theorem greatQ_yes (x : Nat) (n num cust units st cents up : Int) (w : World)
 (HF : Hid (∀ W, Below w.heap.size w W → Calls Tryz.prog 186 #[pt x 15] W fun e w' => e = .returned (.tuple #[iv n, .bool true]) ∧ Below W.heap.size W w'))
 (HG : Hid (∀ W, Below w.heap.size w W → Calls Tryz.prog 131 #[pt x 11, iv n] W fun e w' => e = .returned (.tuple #[.agg #[iv num, iv cust, iv units, iv st, iv cents, iv up], .bool true]) ∧ Below W.heap.size W w')) :
 Calls Tryz.prog 175 #[pt x 0] w fun e w' => e = .returned (.tuple #[.agg #[iv num, iv cust, iv units, iv st, iv cents, iv up], .bool true]) ∧ Below w.heap.size w w' := by
 go_enter Tryz.func175, Tryz.ntmps175
 go_wp2_with fail
 refine (HF.out _ ((Below.refl _ _).alloc (Nat.le_refl _) _)).mono ?_
 rintro e w1 ⟨rfl, b1⟩
 have n1 : w1.heap[w.heap.size]? = some (.cells #[iv 0, iv 0, iv 0, iv 0, iv 0, iv 0] 184 (0, 0)) := (b1.block _ (by simp)).trans (heap_alloc_new w _)
 have hb1 : Below w.heap.size w w1 := Below.trans ((Below.refl _ _).alloc (Nat.le_refl _) _) (b1.mono (by simp))
 have z1 : w.heap.size < w1.heap.size := (blt n1)
 clear b1
 go_wp2_with fail
 refine (HG.out _ hb1).mono ?_
 rintro e w2 ⟨rfl, b2⟩
 have n2 := (b2.block _ z1).trans n1
 have hb2 : Below w.heap.size w w2 := Below.trans hb1 (b2.mono hb1.size)
 have z2 : w.heap.size < w2.heap.size := (blt n2)
 obtain ⟨s0, s1, s2, s3, s4, s5⟩ := six_cells n2
 have f0 := row_free n2 0
 have f1 := row_free n2 1
 have f2 := row_free n2 2
 have f3 := row_free n2 3
 have f4 := row_free n2 4
 have f5 := row_free n2 5
 clear b2 n2 n1 HF HG
 go_wp2
 refine bodyPost_ret (v := .tuple #[.agg #[iv num, iv cust, iv units, iv st, iv cents, iv up], .bool true]) (by simp [results, Tryz.results175, go_sem, s0, s1, s2, s3, s4, s5]) rfl ⟨rfl, ?_⟩
 exact below_set6 hb2 (Nat.le_refl _)
end
end Go.Proofs.YtfhncfghblkgeaaGreat
