import Derived.Test.YtfhncfghblkgeaaGreatL40
import Derived.Test.YtfhncfghblkgeaaGreatL42
set_option maxRecDepth 100000
set_option maxHeartbeats 2000000
namespace Go.Proofs.YtfhncfghblkgeaaGreat
open Go.RowKit
theorem send_bad (x : Nat) (ba : Option Addr) (bl bc : Nat) (k t c u o er : Int) (w : World) (he : (er != 0) = true)
 (HU : Hid (∀ W, Below w.heap.size w W → Calls Tryz.prog 62 #[.slice ba bl bc] W fun e w' => e = .returned (.tuple #[.agg #[iv k, iv t, iv c, iv u, iv o], iv er]) ∧ Below W.heap.size W w')) :
 Calls Tryz.prog 33 #[pt x 0, .slice ba bl bc] w fun e w' => e = .returned (.agg #[iv 1, iv 0, iv 0, iv 0]) ∧ Below w.heap.size w w' := by
 go_enter Tryz.func33, Tryz.ntmps33
 have rb0 : Hid ((w.alloc (.cells #[iv 0, iv 0, iv 0, iv 0] 42)).heap[w.heap.size]? = some (.cells #[iv 0, iv 0, iv 0, iv 0] 42 (0, 0))) := heap_alloc_new w _
 have hbl : Hid (Below w.heap.size w (w.alloc (.cells #[iv 0, iv 0, iv 0, iv 0] 42))) := (Below.refl _ _).alloc (Nat.le_refl _) _
 go_wp2_with fail
 generalize w.alloc (.cells #[iv 0, iv 0, iv 0, iv 0] 42) = W0 at rb0 hbl ⊢
 refine (HU.out _ hbl.out).mono ?_
 rintro e W1 ⟨rfl, b1⟩
 have lr0 : w.heap.size < W0.heap.size := (blt rb0.out)
 have hb1 : Hid (Below w.heap.size w W1) := Below.trans hbl.out (b1.mono hbl.out.size)
 have rb1 : Hid _ := (b1.block _ lr0).trans rb0.out
 have lr1 : w.heap.size < W1.heap.size := (blt rb1.out)
 clear b1 lr0 rb0 hbl HU
 obtain ⟨s0, s1, s2, s3⟩ := four_cells rb1.out
 have f0 := row_free rb1.out 0
 have f1 := row_free rb1.out 1
 have f2 := row_free rb1.out 2
 have f3 := row_free rb1.out 3
 go_wp2
 refine bodyPost_ret (v := .agg #[iv 1, iv 0, iv 0, iv 0]) (by simp [results, Tryz.results33, go_sem, s0, s1, s2, s3, lr1]) rfl ⟨rfl, ?_⟩
 exact belowS1 hb1.out (Nat.le_refl _) (by omega)
theorem send_poll (x : Nat) (ba : Option Addr) (bl bc : Nat) (t c u o a0 a1 a2 a3 : Int) (w : World)
 (HU : Hid (∀ W, Below w.heap.size w W → Calls Tryz.prog 62 #[.slice ba bl bc] W fun e w' => e = .returned (.tuple #[.agg #[iv 4, iv t, iv c, iv u, iv o], iv 0]) ∧ Below W.heap.size W w'))
 (HP : Hid (∀ W, Below w.heap.size w W → Calls Tryz.prog 63 #[pt x 0, .agg #[iv 4, iv t, iv c, iv u, iv o]] W fun e w' => e = .returned (.agg #[iv a0, iv a1, iv a2, iv a3]) ∧ Below W.heap.size W w')) :
 Calls Tryz.prog 33 #[pt x 0, .slice ba bl bc] w fun e w' => e = .returned (.agg #[iv a0, iv a1, iv a2, iv a3]) ∧ Below w.heap.size w w' := by
 go_enter Tryz.func33, Tryz.ntmps33
 have rb0 : Hid ((w.alloc (.cells #[iv 0, iv 0, iv 0, iv 0] 42)).heap[w.heap.size]? = some (.cells #[iv 0, iv 0, iv 0, iv 0] 42 (0, 0))) := heap_alloc_new w _
 have hbl : Hid (Below w.heap.size w (w.alloc (.cells #[iv 0, iv 0, iv 0, iv 0] 42))) := (Below.refl _ _).alloc (Nat.le_refl _) _
 go_wp2_with fail
 generalize w.alloc (.cells #[iv 0, iv 0, iv 0, iv 0] 42) = W0 at rb0 hbl ⊢
 refine (HU.out _ hbl.out).mono ?_
 rintro e W1 ⟨rfl, b1⟩
 have lr0 : w.heap.size < W0.heap.size := (blt rb0.out)
 have hb1 : Hid (Below w.heap.size w W1) := Below.trans hbl.out (b1.mono hbl.out.size)
 have rb1 : Hid _ := (b1.block _ lr0).trans rb0.out
 have lr1 : w.heap.size < W1.heap.size := (blt rb1.out)
 clear b1 lr0 rb0 hbl HU
 go_wp2_with fail
 refine (HP.out _ (hb1.out.alloc (by omega) _)).mono ?_
 rintro e W2 ⟨rfl, b2⟩
 have hb2 : Hid (Below w.heap.size w W2) := Below.trans (hb1.out.alloc (by omega) _) (b2.mono (by simp; omega))
 have rb2 : Hid (W2.heap[w.heap.size]? = some (.cells #[iv 0, iv 0, iv 0, iv 0] 42 (0, 0))) := (b2.block _ (by simp; omega)).trans ((Below.heap_alloc _ _ _ lr1).trans rb1.out)
 have lr2 : w.heap.size < W2.heap.size := (blt rb2.out)
 clear b2 rb1 hb1 lr1 HP
 obtain ⟨s0, s1, s2, s3⟩ := four_cells rb2.out
 have f0 := row_free rb2.out 0
 have f1 := row_free rb2.out 1
 have f2 := row_free rb2.out 2
 have f3 := row_free rb2.out 3
 go_wp2
 refine bodyPost_ret (v := .agg #[iv a0, iv a1, iv a2, iv a3]) (by simp [results, Tryz.results33, go_sem, s0, s1, s2, s3]) rfl ⟨rfl, ?_⟩
 exact below_set4 hb2.out (Nat.le_refl _)
theorem send_once (x : Nat) (own : Nat → Prop) (P0 P1 : World → (Nat → Prop) → Prop) (K0 : Keeps P0) (K1 : Keeps P1) (ba : Option Addr) (bl bc : Nat) (k t c u o a0 a1 a2 a3 : Int) (w : World) (hk4 : (k == 4) = false) (hw : ∀ k, own k → k < w.heap.size) (h : P0 w own)
 (HU : Hid (∀ W, Below w.heap.size w W → Calls Tryz.prog 62 #[.slice ba bl bc] W fun e w' => e = .returned (.tuple #[.agg #[iv k, iv t, iv c, iv u, iv o], iv 0]) ∧ Below W.heap.size W w'))
 (HA : Hid (doesL w own P0 P1 64 #[pt x 0, .agg #[iv k, iv t, iv c, iv u, iv o]] (.agg #[iv a0, iv a1, iv a2, iv a3]))) :
 Calls Tryz.prog 33 #[pt x 0, .slice ba bl bc] w fun e w' => e = .returned (.agg #[iv a0, iv a1, iv a2, iv a3]) ∧ ansP P1 w w' own := by
 have HST : Hid (∀ W, Below w.heap.size w W → w.heap.size < W.heap.size → seenL P0 w own (fun j => j = w.heap.size) W) := fun W hb hz => seenL_start K0 h hb (fun j e => by subst e; omega)
 replace hw : Hid _ := hw
 clear h
 go_enter Tryz.func33, Tryz.ntmps33
 have rb0 : Hid ((w.alloc (.cells #[iv 0, iv 0, iv 0, iv 0] 42)).heap[w.heap.size]? = some (.cells #[iv 0, iv 0, iv 0, iv 0] 42 (0, 0))) := heap_alloc_new w _
 have hbl : Hid (Below w.heap.size w (w.alloc (.cells #[iv 0, iv 0, iv 0, iv 0] 42))) := (Below.refl _ _).alloc (Nat.le_refl _) _
 go_wp2_with fail
 generalize w.alloc (.cells #[iv 0, iv 0, iv 0, iv 0] 42) = W0 at rb0 hbl ⊢
 refine (HU.out _ hbl.out).mono ?_
 rintro e W1 ⟨rfl, b1⟩
 have lr0 : w.heap.size < W0.heap.size := (blt rb0.out)
 have hb1 : Hid (Below w.heap.size w W1) := Below.trans hbl.out (b1.mono hbl.out.size)
 have rb1 : Hid _ := (b1.block _ lr0).trans rb0.out
 have lr1 : w.heap.size < W1.heap.size := (blt rb1.out)
 clear b1 lr0 rb0 hbl HU
 go_wp2_with fail
 refine (HA.out _ _ (HST.out _ (hb1.out.alloc (by omega) _) (by simp; omega))).mono ?_
 rintro e W2 ⟨rfl, hT2, hk⟩
 have rb2 : Hid (W2.heap[w.heap.size]? = some (.cells #[iv 0, iv 0, iv 0, iv 0] 42 (0, 0))) := (hk _ rfl).trans ((Below.heap_alloc _ _ _ lr1).trans rb1.out)
 have lr2 : w.heap.size < W2.heap.size := (blt rb2.out)
 have HE : Hid (∀ v0 v1 v2 v3, ansP P1 w ((((W2.setCell (aq w.heap.size 0) v0).setCell (aq w.heap.size 1) v1).setCell (aq w.heap.size 2) v2).setCell (aq w.heap.size 3) v3) own) := fun v0 v1 v2 v3 => seenL_end (seenL_set4 K1 hT2 hw.out rfl v0 v1 v2 v3)
 clear hk hT2 rb1 hb1 lr1 HA
 obtain ⟨s0, s1, s2, s3⟩ := four_cells rb2.out
 have f0 := row_free rb2.out 0
 have f1 := row_free rb2.out 1
 have f2 := row_free rb2.out 2
 have f3 := row_free rb2.out 3
 go_wp2
 refine bodyPost_ret (v := .agg #[iv a0, iv a1, iv a2, iv a3]) (by simp [results, Tryz.results33, go_sem, s0, s1, s2, s3]) rfl ⟨rfl, ?_⟩
 exact HE.out _ _ _ _
section
structure restP (S : Sal) : Prop where
 R : restS S
 qlen : ((queueS S.os).length : Int) ≤ S.C.queue
 alen : (S.answers : Int) ≤ S.C.tokens
theorem promote_fut {S : Sal} (hl : 1 ≤ S.C.lease) (h : ∀ o ∈ S.os, o.alive → S.now < o.upto) : ∀ o ∈ S.promote.os, o.alive → S.now < o.upto :=
 promote_orders (Q := fun o => o.alive → S.now < o.upto) S (fun o c _ _ _ => by show S.now < S.now + S.C.lease; omega) h
theorem ends_fut {S : Sal} {i : Nat} {st : Int} (hst : st ≠ 12 ∧ st ≠ 13) (h : ∀ o ∈ S.os, o.alive → S.now < o.upto) : ∀ o ∈ (S.ends i st).os, o.alive → S.now < o.upto := by
 intro o ho ha
 rcases mem_set (show o ∈ S.os.set i _ from ho) with rfl | ho
 ·exact absurd ha (fun c => c.elim hst.1 hst.2)
 ·exact h o ho ha
theorem drained_fut {S : Sal} (h : ∀ o ∈ S.os, o.alive → S.now < o.upto) : ∀ o ∈ S.drained.os, o.alive → S.now < o.upto := by
 intro o ho ha
 obtain ⟨p, hp, rfl⟩ := List.mem_map.1 (show o ∈ S.os.map (dry S.left S.now) from ho)
 unfold dry at ha ⊢
 split
 ·next hc => rw [if_pos hc] at ha; exact absurd ha (fun c => c.elim (show ¬ (18 : Int) = 12 by decide) (show ¬ (18 : Int) = 13 by decide))
 ·next hc => rw [if_neg hc] at ha; exact h p hp ha
theorem promoteN_qlen : ∀ (n : Nat) (S : Sal), (queueS (promoteN n S).os).length ≤ (queueS S.os).length
 | 0, _ => Nat.le_refl _
 | n + 1, S => by
   unfold promoteN
   split
   ·exact Nat.le_refl _
   ·next q qs hq =>
    split
    ·exact Nat.le_refl _
    ·refine Nat.le_trans (promoteN_qlen n _) ?_
     rw [holds_queue hq, hq]
     simp
theorem promote_qlen (S : Sal) : (queueS S.promote.os).length ≤ (queueS S.os).length := promoteN_qlen _ S
theorem ends_qlen {S : Sal} {i : Nat} (hi : i < S.os.length) {st : Int} (hst : st ≠ 12) : (queueS (S.ends i st).os).length ≤ (queueS S.os).length := by
 show (queueS (S.os.set i _)).length ≤ _
 rw [queue_set _ hi hst]
 exact List.length_filter_le _ _
theorem drainS_qlen : ∀ (qs : List Nat) (S : Sal), (∀ q ∈ qs, q < S.os.length) → (queueS (drainS S qs).os).length ≤ (queueS S.os).length
 | [], _, _ => Nat.le_refl _
 | q :: qs, S, h => by
   have e : drainS S (q :: qs) = drainS (if S.left < (S.os.getD q ord0).units then S.ends q 18 else S) qs := rfl
   rw [e]
   split
   ·exact Nat.le_trans (drainS_qlen qs _ (fun x hx => by rw [ends_len]; exact h x (List.mem_cons_of_mem _ hx))) (ends_qlen (h q List.mem_cons_self) (by decide))
   ·exact drainS_qlen qs _ (fun x hx => h x (List.mem_cons_of_mem _ hx))
theorem drained_qlen (S : Sal) : (queueS S.drained.os).length ≤ (queueS S.os).length := by
 rw [← drainS_queue]
 exact drainS_qlen _ S (fun q hq => queueT_lt S.os _ q hq)
theorem rest_promote {S T : Sal} (h : restP S) (hC : T.C = S.C) (hn : T.now = S.now) (ha : T.ansL = S.ansL) (hf : ∀ o ∈ T.os, o.alive → T.now < o.upto) (hq : (queueS T.os).length ≤ (queueS S.os).length) : restP T.promote := by
 obtain ⟨a, b, c⟩ := promote_keep T
 have hR := h.R
 refine ⟨⟨?_, promote_stable T, ?_, ?_, ?_, ?_, ?_⟩, ?_, ?_⟩
 ·rw [b]; exact promote_fut (by rw [hC]; exact hR.lease.1) hf
 ·rw [a, hC]; exact hR.lease
 ·rw [a, hC]; exact hR.wait
 ·rw [a, hC]; exact hR.keep
 ·rw [a, hC]; exact hR.tokens
 ·rw [a, hC]; exact hR.queue
 ·have h1 := promote_qlen T
  have h2 := h.qlen
  rw [a, hC]
  omega
 ·have : T.promote.answers = S.answers := by unfold Sal.answers Sal.remem; rw [c, ha, b, hn, a, hC]
  rw [this, a, hC]
  exact h.alen
theorem rest_confirm {S : Sal} (h : restP S) (r : Req) : restP (S.confirm r).2 := by
 unfold Sal.confirm
 split
 ·exact h
 ·next i hf =>
  split
  ·exact h
  ·by_cases hi : i < S.os.length
   ·have hl := hi
    obtain ⟨d, e, f⟩ := drainS_keep (queueS (S.ends i 14).os) (S.ends i 14)
    refine rest_promote h d e f ?_ ?_
    ·rw [e, drainS_queue]
     exact drained_fut (S := S.ends i 14) (ends_fut (by decide) h.R.fut)
    ·rw [drainS_queue]
     exact Nat.le_trans (drained_qlen _) (ends_qlen hl (by decide))
   ·have e1 : S.ends i 14 = S := by
     unfold Sal.ends Sal.put
     rw [List.set_eq_of_length_le (Nat.le_of_not_lt hi)]
    obtain ⟨d, e, f⟩ := drainS_keep (queueS (S.ends i 14).os) (S.ends i 14)
    refine rest_promote h d e f ?_ ?_
    ·rw [e, drainS_queue, e1]
     exact drained_fut h.R.fut
    ·rw [drainS_queue, e1]
     exact drained_qlen _
theorem rest_cancel {S : Sal} (h : restP S) (r : Req) : restP (S.cancel r).2 := by
 unfold Sal.cancel
 split
 ·exact h
 ·next i hf =>
  split
  ·exact h
  ·by_cases hi : i < S.os.length
   ·exact rest_promote (T := S.ends i 16) h rfl rfl rfl (ends_fut (by decide) h.R.fut) (ends_qlen hi (by decide))
   ·have e1 : S.ends i 16 = S := by
     unfold Sal.ends Sal.put
     rw [List.set_eq_of_length_le (Nat.le_of_not_lt hi)]
    rw [e1]
    exact rest_promote (T := S) h rfl rfl rfl h.R.fut (Nat.le_refl _)
theorem rest_ask {S : Sal} (h : restP S) (r : Req) : restP (S.ask r).2 := by
 have hR := h.R
 unfold Sal.ask
 split
 ·exact h
 split
 ·exact h
 split
 ·exact h
 split
 ·next hq =>
  obtain ⟨e1, e2⟩ := more_holds S r.cust r.units
  show restP ((S.more ⟨r.cust, r.units, 0, 0, 0, 0⟩).holds S.os.length)
  rw [e1, e2]
  have hqs : queueS (S.more ⟨r.cust, r.units, 13, S.price, S.now + S.C.lease, 0⟩).os = [] := by
   show queueS (S.os ++ [_]) = _
   rw [queue_snoc, if_neg (show ¬ (13 : Int) = 12 by decide)]
   exact hq.1
  refine ⟨⟨fun o ho ha => ?_, fun q qs c => (by rw [hqs] at c; cases c), hR.lease, hR.wait, hR.keep, hR.tokens, hR.queue⟩, ?_, h.alen⟩
  ·rcases List.mem_append.1 (show o ∈ S.os ++ [_] from ho) with ho | ho
   ·exact hR.fut o ho ha
   ·have e : o = ⟨r.cust, r.units, 13, S.price, S.now + S.C.lease, 0⟩ := by simpa using ho
    rw [e]
    show S.now < S.now + S.C.lease
    have := hR.lease.1
    omega
  ·rw [hqs]
   have := hR.queue.1
   show ((0 : Nat) : Int) ≤ S.C.queue
   omega
 split
 ·exact h
 ·next c1 c2 c3 c4 c5 =>
  have hqs : queueS (S.more ⟨r.cust, r.units, 12, 0, S.now + S.C.wait, 0⟩).os = queueS S.os ++ [S.os.length] := by
   show queueS (S.os ++ [_]) = _
   rw [queue_snoc, if_pos rfl]
  have hfree : (S.more ⟨r.cust, r.units, 12, 0, S.now + S.C.wait, 0⟩).free = S.free := by
   unfold Sal.free Sal.left
   show S.C.stock - unitsS (S.os ++ [_]) 14 0 - unitsS (S.os ++ [_]) 13 0 = _
   rw [units_snoc, units_snoc, part0, part0, if_neg (show ¬ (12 : Int) = 14 by decide), if_neg (show ¬ (12 : Int) = 13 by decide)]
   omega
  refine ⟨⟨fun o ho ha => ?_, fun q qs c => ?_, hR.lease, hR.wait, hR.keep, hR.tokens, hR.queue⟩, ?_, h.alen⟩
  ·rcases List.mem_append.1 (show o ∈ S.os ++ [_] from ho) with ho | ho
   ·exact hR.fut o ho ha
   ·have e : o = ⟨r.cust, r.units, 12, 0, S.now + S.C.wait, 0⟩ := by simpa using ho
    rw [e]
    show S.now < S.now + S.C.wait
    have := hR.wait.1
    omega
  ·rw [hfree]
   rw [hqs] at c
   cases hq : queueS S.os with
   | nil =>
     rw [hq] at c
     simp at c
     rw [← c.1]
     show S.free < ((S.os ++ [_]).getD S.os.length ord0).units
     rw [getD_snoc (by omega), if_pos rfl]
     show S.free < r.units
     have : ¬ r.units ≤ S.free := fun d => c4 ⟨hq, d⟩
     omega
   | cons q' qs' =>
     rw [hq] at c
     simp at c
     rw [← c.1]
     obtain ⟨_, hl, _⟩ := queue_tail hq ord0 (by decide)
     show S.free < ((S.os ++ [_]).getD q' ord0).units
     rw [getD_snoc (by omega), if_neg (by omega)]
     exact hR.stable q' qs' hq
  ·rw [hqs]
   have := h.qlen
   show (((queueS S.os ++ [S.os.length]).length : Nat) : Int) ≤ S.C.queue
   rw [List.length_append]
   simp
   omega
theorem rest_do {S : Sal} (h : restP S) (r : Req) : restP (S.doS r).2 := by
 unfold Sal.doS
 split
 ·exact rest_ask h r
 split
 ·exact rest_confirm h r
 ·exact rest_cancel h r
theorem str_inj {a b : List Int} (ha : ∀ x ∈ a, 0 ≤ x ∧ x < 256) (hb : ∀ x ∈ b, 0 ≤ x ∧ x < 256) (h : strOfNums a = strOfNums b) : a = b := by
 refine byte_inj a b ha hb ?_
 have := congrArg (fun s : ByteArray => s.data.toList) h
 simpa [strOfNums] using this
section
variable {an : Int} {atl : List (Int × Int)} {att : List Ent} {al : List PAns} {keep : Int} {ansL : List Ans}
theorem relA.count (h : relA an atl att al keep ansL) : al.length = (ansL.filter (fun a => decide (an < a.at' + keep))).length := by
 have mem : ∀ t, t ∈ (ansL.filter (fun a => decide (an < a.at' + keep))).map Ans.token ↔ ∃ j, j < ansL.length ∧ an < (ansL.getD j ans0).at' + keep ∧ t = (ansL.getD j ans0).token := by
  intro t
  rw [List.mem_map]
  constructor
  ·rintro ⟨a, ha, rfl⟩
   obtain ⟨h1, h2⟩ := List.mem_filter.1 ha
   obtain ⟨j, hj, rfl⟩ := List.getElem_of_mem h1
   have e : ansL.getD j ans0 = ansL[j] := by simp [List.getD, List.getElem?_eq_getElem hj]
   exact ⟨j, hj, by rw [e]; simpa using h2, by rw [e]⟩
  ·rintro ⟨j, hj, h2, rfl⟩
   have e : ansL.getD j ans0 = ansL[j] := by simp [List.getD, List.getElem?_eq_getElem hj]
   exact ⟨ansL.getD j ans0, List.mem_filter.2 ⟨by rw [e]; exact List.getElem_mem hj, by simpa using h2⟩, rfl⟩
 have n2 : ((ansL.filter (fun a => decide (an < a.at' + keep))).map Ans.token).Nodup := by
  have key : ∀ (l : List Ans), (∀ i j, i < l.length → j < l.length → an < (l.getD i ans0).at' + keep → an < (l.getD j ans0).at' + keep → (l.getD i ans0).token = (l.getD j ans0).token → i = j) → ((l.filter (fun a => decide (an < a.at' + keep))).map Ans.token).Nodup := by
   intro l
   induction l with
   | nil => intro _; simp
   | cons a l ih =>
     intro hu
     have ihl := ih (fun i j hi hj h1 h2 h3 => by
      have := hu (i + 1) (j + 1) (by simpa using hi) (by simpa using hj) h1 h2 h3
      omega)
     rw [List.filter_cons]
     split
     ·next ha =>
      rw [List.map_cons, List.nodup_cons]
      refine ⟨fun hm => ?_, ihl⟩
      obtain ⟨b, hb, e⟩ := List.mem_map.1 hm
      obtain ⟨h1, h2⟩ := List.mem_filter.1 hb
      obtain ⟨j, hj, rfl⟩ := List.getElem_of_mem h1
      have e2 : l.getD j ans0 = l[j] := by simp [List.getD, List.getElem?_eq_getElem hj]
      have := hu 0 (j + 1) (by simp) (by simpa using hj) (by simpa using ha) (by show an < (l.getD j ans0).at' + keep; rw [e2]; simpa using h2) (by show a.token = (l.getD j ans0).token; rw [e2]; exact e.symm)
      omega
     ·exact ihl
  exact key ansL h.uniq
 have l1 := nodup_sub_len (al.map PAns.t) _ h.ls.once (fun t ht => (mem t).2 (by
  obtain ⟨a, ha, rfl⟩ := List.mem_map.1 ht
  obtain ⟨j, a1, a2, a3⟩ := h.al a ha
  exact ⟨j, a1, a2, a3⟩))
 have l2 := nodup_sub_len _ (al.map PAns.t) n2 (fun t ht => by
  obtain ⟨j, a1, a2, rfl⟩ := (mem t).1 ht
  obtain ⟨a, ha, e, _⟩ := h.reqs j a1 a2
  exact List.mem_map.2 ⟨a, ha, e⟩)
 simp only [List.length_map] at l1 l2
 omega
theorem relA.add (h : relA an atl att al keep ansL) (a : PAns) (now : Int) (han : an = now) (hk : 1 ≤ keep) (hb : isB a.k a.t a.c a.u a.o = true) (hn : ∀ j, j < ansL.length → an < (ansL.getD j ans0).at' + keep → (ansL.getD j ans0).token ≠ a.t) :
 relA an (setL an atl a.t (now + keep)) (insS (a.t, 0) al.length att) (al ++ [a]) keep (ansL ++ [⟨strOfNums (frameB a.k (numsOf a.k a.t a.c a.u a.o)), a.t, ⟨a.rk, a.ro, a.rc, a.ru⟩, now⟩]) := by
 have hg : ∀ j, j < ansL.length + 1 → (ansL ++ [(⟨strOfNums (frameB a.k (numsOf a.k a.t a.c a.u a.o)), a.t, ⟨a.rk, a.ro, a.rc, a.ru⟩, now⟩ : Ans)]).getD j ans0 = if j = ansL.length then ⟨strOfNums (frameB a.k (numsOf a.k a.t a.c a.u a.o)), a.t, ⟨a.rk, a.ro, a.rc, a.ru⟩, now⟩ else ansL.getD j ans0 := by
  intro j hj
  simp only [List.getD]
  by_cases e : j = ansL.length
  ·subst e; simp
  ·rw [if_neg e, List.getElem?_append_left (by omega)]
 generalize hA : (⟨strOfNums (frameB a.k (numsOf a.k a.t a.c a.u a.o)), a.t, ⟨a.rk, a.ro, a.rc, a.ru⟩, now⟩ : Ans) = A at hg
 have ht : A.token = a.t := by rw [← hA]
 have hat : A.at' = now := by rw [← hA]
 have hal : ∀ b ∈ al, b.t ≠ a.t := fun b hb' e => by
  obtain ⟨j, j1, j2, j3⟩ := h.al b hb'
  exact hn j j1 j2 (by rw [← j3, e])
 have hx : ¬ 0 ≤ idxT atl a.t := by
  rw [idxT_mem]
  rintro ⟨p, hp, e⟩
  obtain ⟨j, j1, j2, rfl⟩ := (h.tl p).1 hp
  exact hn j j1 j2 e
 have hset : setL an atl a.t (now + keep) = atl ++ [(now + keep, a.t)] := by
  unfold setL
  rw [if_neg (by omega), if_neg hx]
 refine ⟨onceT_set h.once, listed_snoc h.ls hal, fun j hj hm => ?_, fun i j hi hj h1 h2 h3 => ?_, fun b hb' => ?_, fun p => ?_⟩
 ·simp only [List.length_append, List.length_singleton] at hj
  rw [hg j hj] at hm ⊢
  by_cases e : j = ansL.length
  ·rw [if_pos e]
   exact ⟨a, by simp, by rw [ht], hb, by rw [← hA], by rw [← hA]⟩
  ·rw [if_neg e] at hm ⊢
   obtain ⟨b, q1, q2⟩ := h.reqs j (by omega) hm
   exact ⟨b, List.mem_append_left _ q1, q2⟩
 ·simp only [List.length_append, List.length_singleton] at hi hj
  rw [hg i hi] at h1 h3
  rw [hg j hj] at h2 h3
  by_cases e1 : i = ansL.length <;> by_cases e2 : j = ansL.length
  ·omega
  ·rw [if_pos e1] at h3; rw [if_neg e2] at h2 h3
   exact absurd (h3.symm.trans ht) (hn j (by omega) h2)
  ·rw [if_neg e1] at h1 h3; rw [if_pos e2] at h3
   exact absurd (h3.trans ht) (hn i (by omega) h1)
  ·rw [if_neg e1] at h1 h3; rw [if_neg e2] at h2 h3
   exact h.uniq i j (by omega) (by omega) h1 h2 h3
 ·rcases List.mem_append.1 hb' with hb' | hb'
  ·obtain ⟨j, j1, j2, j3⟩ := h.al b hb'
   exact ⟨j, by simp; omega, by rw [hg j (by omega), if_neg (by omega)]; exact j2, by rw [hg j (by omega), if_neg (by omega)]; exact j3⟩
  ·have e : b = a := by simpa using hb'
   rw [e]
   exact ⟨ansL.length, by simp, by rw [hg _ (by omega), if_pos rfl, hat]; omega, by rw [hg _ (by omega), if_pos rfl, ht]⟩
 ·rw [hset, List.mem_append, h.tl]
  constructor
  ·rintro (⟨j, j1, j2, rfl⟩ | hp)
   ·exact ⟨j, by simp; omega, by rw [hg j (by omega), if_neg (by omega)]; exact j2, by rw [hg j (by omega), if_neg (by omega)]⟩
   ·have e : p = (now + keep, a.t) := by simpa using hp
    rw [e]
    exact ⟨ansL.length, by simp, by rw [hg _ (by omega), if_pos rfl, hat]; omega, by rw [hg _ (by omega), if_pos rfl, hat, ht]⟩
  ·rintro ⟨j, j1, j2, rfl⟩
   simp only [List.length_append, List.length_singleton] at j1
   rw [hg j j1] at j2 ⊢
   by_cases e : j = ansL.length
   ·rw [if_pos e, hat, ht]
    exact .inr (by simp)
   ·rw [if_neg e] at j2 ⊢
    exact .inl ⟨j, by omega, j2, rfl⟩
end
end
section
theorem PMem.acells {W : World} {x : Nat} {own : Nat → Prop} {V : PV} {g : PG} (h : PMem W x own V g) {j : Nat} {a : PAns} (hj : V.al[j]? = some a) : ∃ b, g.ao = some (aq b 0) ∧ j < V.al.length ∧ ∀ k, k < 9 → ∀ u, a.vals[k]? = some u → W.cell? (aq b (j * 9 + k)) = some u := by
 have hl := (List.getElem?_eq_some_iff.1 hj).1
 have hd : V.al.getD j pans0 = a := by simp [List.getD, hj]
 have ho := h.arow
 rcases ho.2 with ⟨_, h0⟩ | ⟨b, cap, cur, hv, _, hh, _⟩
 ·omega
 ·have hv' := hv
  simp only [Value.slice.injEq] at hv'
  obtain ⟨e1, _, e2⟩ := hv'
  rw [hv] at ho
  refine ⟨b, e1, hl, fun k hk u hu => ?_⟩
  have := ho.cells (g := b) rfl _ _ ((flatPA_at hl k hk).trans (by rw [hd]; exact hu))
  rwa [Addr.add_lit, Nat.zero_add] at this
section
variable {w : World} {x : Nat} {own : Nat → Prop} {S : Sal} {last : Nat} {an : Int}
theorem aget_yes_x {W : World} {V : PV} {tok : Int} {j : Nat} {a : PAns} (h : psm W x own V) (hs : srt V.att) (hg : getS (tok, 0) V.att = some (j : Int)) (hj : V.al[j]? = some a) :
 Calls Tryz.prog 100 #[pt x 23, iv tok] W fun e w' => e = .returned (.tuple #[a.val, .bool true]) ∧ Below W.heap.size W w' := by
 obtain ⟨g, h⟩ := h
 obtain ⟨b, hb, hl, c⟩ := h.acells hj
 exact aget_yes x 23 b V.al.length g.ac j g.att tok a.k a.t a.c a.u a.o a.rk a.ro a.rc a.ru W (h.cell 24 _ rfl) h.att.1 (by rw [h.att.2]; exact hs) (by rw [h.att.2]; exact hg) (by rw [← hb]; exact h.cell 26 _ rfl) hl (c 0 (by omega) _ rfl) (c 1 (by omega) _ rfl) (c 2 (by omega) _ rfl) (c 3 (by omega) _ rfl) (c 4 (by omega) _ rfl) (c 5 (by omega) _ rfl) (c 6 (by omega) _ rfl) (c 7 (by omega) _ rfl) (c 8 (by omega) _ rfl)
theorem aget_no_x {W : World} {V : PV} {tok : Int} (h : psm W x own V) (hs : srt V.att) (hg : getS (tok, 0) V.att = none) :
 Calls Tryz.prog 100 #[pt x 23, iv tok] W fun e w' => e = .returned (.tuple #[pans0.val, .bool false]) ∧ Below W.heap.size W w' := by
 obtain ⟨g, h⟩ := h
 exact aget_no x 23 g.att tok W (h.cell 24 _ rfl) h.att.1 (by rw [h.att.2]; exact hs) (by rw [h.att.2]; exact hg)
theorem remem_iff (S : Sal) (a : Ans) : S.remem a = true ↔ S.now < a.at' + S.C.keep := by
 unfold Sal.remem
 rw [decide_eq_true_iff]
 omega
theorem answers_count {S : Sal} {atl : List (Int × Int)} {att : List Ent} {al : List PAns} (h : relA S.now atl att al S.C.keep S.ansL) : al.length = S.answers := by
 rw [h.count]
 unfold Sal.answers
 congr 1
 apply List.filter_congr
 intro a _
 have := remem_iff S a
 cases hr : S.remem a
 ·rw [hr] at this
  simp only [Bool.false_eq_true, false_iff] at this
  simpa using this
 ·rw [hr] at this
  simpa using this.1 rfl
theorem used_of {S : Sal} {atl : List (Int × Int)} {att : List Ent} {al : List PAns} (h : relA S.now atl att al S.C.keep S.ansL) {j : Nat} (hj : j < S.ansL.length) (hm : S.now < (S.ansL.getD j ans0).at' + S.C.keep) : S.used (S.ansL.getD j ans0).token = some (S.ansL.getD j ans0) := by
 have ej : S.ansL.getD j ans0 = S.ansL[j] := by simp [List.getD, List.getElem?_eq_getElem hj]
 cases hu : S.used (S.ansL.getD j ans0).token with
 | none =>
   unfold Sal.used at hu
   rw [List.find?_eq_none] at hu
   have := hu (S.ansL.getD j ans0) (by rw [ej]; exact List.getElem_mem hj)
   rw [(remem_iff S _).2 hm] at this
   simp at this
 | some a =>
   obtain ⟨i, hi, he, h1, h2, _⟩ := used_some hu
   have := h.uniq i j hi hj (by rw [he]; exact (remem_iff S a).1 h1) hm (by rw [he]; exact h2)
   rw [← he, this]
theorem used_noneA {S : Sal} {atl : List (Int × Int)} {att : List Ent} {al : List PAns} (h : relA S.now atl att al S.C.keep S.ansL) {t : Int} (hn : ∀ a ∈ al, a.t ≠ t) : S.used t = none := by
 cases hu : S.used t with
 | none => rfl
 | some a =>
   obtain ⟨i, hi, he, h1, h2, _⟩ := used_some hu
   obtain ⟨b, hb, e, _⟩ := h.reqs i hi (by rw [he]; exact (remem_iff S a).1 h1)
   exact absurd (e.trans (by rw [he]; exact h2)) (hn b hb)
theorem asize_s (h : psx S.now x S last w own) :
 Calls Tryz.prog 60 #[pt x 23] w fun e w' => e = .returned (iv S.answers) ∧ Below w.heap.size w w' := by
 obtain ⟨V, ⟨g, hm⟩, hr, ha, han⟩ := h
 have := asize_any x 23 V.att.length w (hm.cell 25 _ rfl)
 rw [han] at ha
 rw [listed_len ha.ls, answers_count ha] at this
 exact this
theorem add_s (h : psx S.now x S last w own) (hR : restP S) (a : PAns) (hb : isB a.k a.t a.c a.u a.o = true) (hn : S.used a.t = none) :
 Calls Tryz.prog 102 #[pt x 23, a.val, iv (S.now + S.C.keep)] w fun e w' => e = .returned (.tuple #[]) ∧ ansP (psx S.now x { S with ansL := S.ansL ++ [⟨strOfNums (frameB a.k (numsOf a.k a.t a.c a.u a.o)), a.t, ⟨a.rk, a.ro, a.rc, a.ru⟩, S.now⟩] } last) w w' own := by
 obtain ⟨V, hm, hr, ha, han⟩ := h
 have ha0 := ha
 rw [han] at ha0
 have hcnt := answers_count ha0
 have hl1 := listed_len ha.ls
 have hal : V.al.length ≤ 4294967296 := by have := hR.alen; have := hR.R.tokens.2; omega
 have hz2 : V.atl.length ≤ V.al.length := by
  have := nodup_sub_len (V.atl.map (fun p : Int × Int => p.2)) (V.al.map PAns.t) (show (V.atl.map (fun p : Int × Int => p.2)).Nodup from ha.once) (fun y hy => by
   obtain ⟨p, hp, rfl⟩ := List.mem_map.1 hy
   obtain ⟨j, j1, j2, rfl⟩ := (ha.tl p).1 hp
   obtain ⟨b, hb', e, _⟩ := ha.reqs j j1 j2
   exact List.mem_map.2 ⟨b, hb', e⟩)
  simpa using this
 have hun : ∀ j, j < S.ansL.length → V.an < (S.ansL.getD j ans0).at' + S.C.keep → (S.ansL.getD j ans0).token ≠ a.t := fun j hj hm' e => by
  have := used_of ha0 hj (han ▸ hm')
  rw [e, hn] at this
  cases this
 have hgn : getS (a.t, 0) V.att = none := listed_none ha.ls (fun b hb' e => by
  obtain ⟨j, j1, j2, j3⟩ := ha.al b hb'
  exact hun j j1 j2 (by rw [← j3, e]))
 refine (aadd_x a (S.now + S.C.keep) w x own V hm ha.ls.srt hgn hal (by omega) (by omega)).mono ?_
 rintro e w' ⟨rfl, hq⟩
 exact ⟨rfl, psmAns_psx hq ⟨hr.C, hr.now, hr.last, hr.tn, hr.once, hr.tl, hr.kin, hr.live, hr.ls, hr.ol, hr.turns, hr.sizes, hr.held, hr.sold, hr.lu, hr.cust⟩ (ha.add a S.now han hR.R.keep.1 hb hun) han⟩
theorem saleK_of (hJ : salJ S) (hR : restP S) : saleK S := ⟨hJ.I, hJ.len, hR.R.lease, hR.R.wait, hR.R.keep⟩
theorem once_s (h : psx S.now x S S.os.length w own) (hJ : salJ S) (hR : restP S) (r : Req) (hb : isB r.kind r.token r.cust r.units r.order = true) (hk : r.kind ≠ 4) :
 Calls Tryz.prog 64 #[pt x 0, r.val] w fun e w' => e = .returned (S.send (frameB r.kind (numsOf r.kind r.token r.cust r.units r.order)) r 0).1.val ∧ ansP (psx S.now x (S.send (frameB r.kind (numsOf r.kind r.token r.cust r.units r.order)) r 0).2 (S.send (frameB r.kind (numsOf r.kind r.token r.cust r.units r.order)) r 0).2.os.length) w w' own := by
 have hKK := saleK_of hJ hR
 have K := keepX S.now x S S.os.length
 have hw := K.lt h
 obtain ⟨_, _, _, c8, c5, c6, _, _⟩ := psx_cells h
 have hnum := isB_num hb
 obtain ⟨V0, hm0, hr0, ha0, han0⟩ := id h
 rw [han0] at ha0
 have hsend : S.send (frameB r.kind (numsOf r.kind r.token r.cust r.units r.order)) r 0 = match S.used r.token with
  | some a => if a.frame = strOfNums (frameB r.kind (numsOf r.kind r.token r.cust r.units r.order)) then (a.rep, S) else (⟨10, 0, 0, 0⟩, S)
  | none =>
    if (S.answers : Int) = S.C.tokens then (⟨11, 0, 0, 0⟩, S)
    else ((S.doS r).1, { (S.doS r).2 with ansL := (S.doS r).2.ansL ++ [⟨strOfNums (frameB r.kind (numsOf r.kind r.token r.cust r.units r.order)), r.token, (S.doS r).1, S.now⟩] }) := by
  unfold Sal.send
  rw [if_neg (fun c => c rfl), if_neg hk]
  cases S.used r.token <;> rfl
 rcases listed_get ha0.ls r.token with ⟨j, a, hj, hat, hg⟩ | ⟨hn, hg⟩
 ·obtain ⟨j', q1, q2, q3⟩ := ha0.al a (List.mem_of_getElem? hj)
  obtain ⟨a', m1, m2, m3, m4, m5⟩ := ha0.reqs j' q1 q2
  have eaa : a' = a := by
   obtain ⟨i', hi'⟩ := List.mem_iff_getElem?.1 m1
   have := key_at ha0.ls.once hi' hj (m2.trans q3.symm)
   rw [this, hj] at hi'
   simpa using hi'.symm
  subst eaa
  have hu : S.used r.token = some (S.ansL.getD j' ans0) := by
   have := used_of ha0 q1 q2
   rwa [← q3, hat] at this
  rw [hu] at hsend
  have HG : ∀ W, Below w.heap.size w W → Calls Tryz.prog 100 #[pt x 23, iv r.token] W fun e w' => e = .returned (.tuple #[a'.val, .bool true]) ∧ Below W.heap.size W w' := fun W hW => aget_yes_x (psm_below hm0 hW) ha0.ls.srt hg hj
  by_cases he : a'.k = r.kind ∧ a'.t = r.token ∧ a'.c = r.cust ∧ a'.u = r.units ∧ a'.o = r.order
  ·obtain ⟨e1, e2, e3, e4, e5⟩ := he
   have hfr : (S.ansL.getD j' ans0).frame = strOfNums (frameB r.kind (numsOf r.kind r.token r.cust r.units r.order)) := by rw [m4, e1, e2, e3, e4, e5]
   have hse : S.send (frameB r.kind (numsOf r.kind r.token r.cust r.units r.order)) r 0 = (⟨a'.rk, a'.ro, a'.rc, a'.ru⟩, S) := by
    rw [hsend]
    simp only
    rw [if_pos hfr, m5]
   rw [hse]
   have hv : a'.val = .agg #[iv r.kind, iv r.token, iv r.cust, iv r.units, iv r.order, iv a'.rk, iv a'.ro, iv a'.rc, iv a'.ru] := by unfold PAns.val; rw [e1, e2, e3, e4, e5]
   rw [hv] at HG
   refine (once_old x r.kind r.token r.cust r.units r.order a'.rk a'.ro a'.rc a'.ru w HG).mono ?_
   rintro e w' ⟨rfl, hb'⟩
   exact ⟨rfl, ansP_below K h hb'⟩
  ·have hfr : ¬ (S.ansL.getD j' ans0).frame = strOfNums (frameB r.kind (numsOf r.kind r.token r.cust r.units r.order)) := by
    rw [m4]
    intro c
    have := str_inj (frame_byte m3) (frame_byte hb) c
    obtain ⟨i1, i2, i3, i4, i5⟩ := frame_inj m3 hb this
    exact he ⟨i1, i2, i3, i4, i5⟩
   have hse : S.send (frameB r.kind (numsOf r.kind r.token r.cust r.units r.order)) r 0 = (⟨10, 0, 0, 0⟩, S) := by
    rw [hsend]
    simp only
    rw [if_neg hfr]
   rw [hse]
   refine (once_other x r.kind r.token r.cust r.units r.order a'.k a'.t a'.c a'.u a'.o a'.rk a'.ro a'.rc a'.ru w he HG).mono ?_
   rintro e w' ⟨rfl, hb'⟩
   exact ⟨rfl, ansP_below K h hb'⟩
 ·have hu := used_noneA ha0 hn
  rw [hu] at hsend
  have HG : ∀ W, Below w.heap.size w W → Calls Tryz.prog 100 #[pt x 23, iv r.token] W fun e w' => e = .returned (.tuple #[pans0.val, .bool false]) ∧ Below W.heap.size W w' := fun W hW => aget_no_x (psm_below hm0 hW) ha0.ls.srt hg
  have HZ : ∀ W, Below w.heap.size w W → Calls Tryz.prog 60 #[pt x 23] W fun e w' => e = .returned (iv S.answers) ∧ Below W.heap.size W w' := fun W hW => asize_s (psx_below h hW)
  have hal := hR.alen
  by_cases hf : (S.answers : Int) = S.C.tokens
  ·have hse : S.send (frameB r.kind (numsOf r.kind r.token r.cust r.units r.order)) r 0 = (⟨11, 0, 0, 0⟩, S) := by
    rw [hsend]
    simp only
    rw [if_pos hf]
   rw [hse]
   refine (once_full x r.kind r.token r.cust r.units r.order S.answers S.C.tokens w (by omega) HG c6 HZ).mono ?_
   rintro e w' ⟨rfl, hb'⟩
   exact ⟨rfl, ansP_below K h hb'⟩
  ·have hse : S.send (frameB r.kind (numsOf r.kind r.token r.cust r.units r.order)) r 0 = ((S.doS r).1, { (S.doS r).2 with ansL := (S.doS r).2.ansL ++ [⟨strOfNums (frameB r.kind (numsOf r.kind r.token r.cust r.units r.order)), r.token, (S.doS r).1, S.now⟩] }) := by
    rw [hsend]
    simp only
    rw [if_neg hf]
   rw [hse]
   obtain ⟨d1, d2, d3⟩ := doS_same S r
   have hRd := rest_do hR r
   have hund : (S.doS r).2.used r.token = none := by
    unfold Sal.used Sal.remem
    rw [d3, d2, d1]
    exact hu
   have hnow := hJ.I.now
   have hkp := hR.R.keep
   have h1 : r.kind = 1 → r.cust ≠ 0 ∧ 1 ≤ r.units ∧ r.units ≤ 4294967296 := fun e => by
    rcases hnum with ⟨_, q1, q2, q3⟩ | ⟨q, _, _⟩ | ⟨q, _, _⟩
    ·exact ⟨by omega, q2, q3⟩
    ·omega
    ·omega
   have h2 : r.kind ≠ 1 → 1 ≤ r.order := fun e => by
    rcases hnum with ⟨q, _, _, _⟩ | ⟨_, q, _⟩ | ⟨_, q, _⟩
    ·exact absurd q e
    ·exact q
    ·exact q
   have HC : ∀ (loc : Nat → Prop) (W : World) (T : Sal) (last : Nat), T.C = S.C → T.now = S.now → seenL (psx S.now x T last) w own loc W → W.cell? (aq x 8) = some (iv S.now) ∧ W.cell? (aq x 5) = some (iv S.C.keep) ∧ x < W.heap.size := fun loc W T last e1 e2 hT => by
    obtain ⟨o1, a1, _⟩ := hT
    obtain ⟨_, _, _, q8, q5, _⟩ := psx_cells a1
    rw [e2] at q8
    rw [e1] at q5
    exact ⟨q8, q5, World.block_lt_of_cell? W _ q8⟩
   exact once_new x own (psx S.now x S S.os.length) (psx S.now x (S.doS r).2 (S.doS r).2.os.length) (psx S.now x { (S.doS r).2 with ansL := (S.doS r).2.ansL ++ [⟨strOfNums (frameB r.kind (numsOf r.kind r.token r.cust r.units r.order)), r.token, (S.doS r).1, S.now⟩] } (S.doS r).2.os.length) K (keepX _ _ _ _) (keepX _ _ _ _) r.kind r.token r.cust r.units r.order S.answers S.C.tokens S.now S.C.keep (S.doS r).1.kind (S.doS r).1.order (S.doS r).1.cents (S.doS r).1.upto w (by omega) ⟨by omega, by omega⟩ hw h HG c6 HZ
    (fun loc W hT => HC loc W _ _ (by exact d1) (by exact d2) hT) (fun loc W hT => HC loc W _ _ (by exact d1) (by exact d2) hT)
    (fun loc W hW => seenL_call hw (fun W o hp => do_s hp hKK hR.qlen r h1 h2) W hW)
    (fun loc W hW => seenL_call hw (fun W o hp => by
      have hp' : psx (S.doS r).2.now x (S.doS r).2 (S.doS r).2.os.length W o := by rw [d2]; exact hp
      have := add_s hp' hRd ⟨r.kind, r.token, r.cust, r.units, r.order, (S.doS r).1.kind, (S.doS r).1.order, (S.doS r).1.cents, (S.doS r).1.upto⟩ hb hund
      rw [← d1, ← d2]
      exact this) W hW)
def PSW (w : World) (x : Nat) (own : Nat → Prop) (S : Sal) : Prop := psx S.now x S S.os.length w own ∧ restP S
theorem rest_send {S : Sal} (h : restP S) (bs : List Int) (r : Req) (err : Int) : restP (S.send bs r err).2 := by
 unfold Sal.send
 split
 ·exact h
 split
 ·exact h
 split
 ·split <;> exact h
 ·split
  ·exact h
  ·next hf =>
   obtain ⟨d1, d2, d3⟩ := doS_same S r
   have hd := rest_do h r
   refine ⟨⟨hd.R.fut, hd.R.stable, hd.R.lease, hd.R.wait, hd.R.keep, hd.R.tokens, hd.R.queue⟩, hd.qlen, ?_⟩
   have ha := h.alen
   show ((((S.doS r).2.ansL ++ [_]).filter (fun a : Ans => decide ((S.doS r).2.now - a.at' < (S.doS r).2.C.keep))).length : Int) ≤ (S.doS r).2.C.tokens
   rw [d1, d2, d3, List.filter_append, List.length_append]
   have h1 : (S.ansL.filter (fun a : Ans => decide (S.now - a.at' < S.C.keep))).length = S.answers := rfl
   rw [h1]
   have h2 := List.length_filter_le (fun a : Ans => decide (S.now - a.at' < S.C.keep)) [(⟨strOfNums bs, r.token, (S.doS r).1, S.now⟩ : Ans)]
   simp only [List.length_singleton] at h2
   omega
theorem sendW : SendOK PSW where
 lt := fun h => (keepX _ _ _ _).lt h.1
 keep := fun h hz hk => ⟨(keepX _ _ _ _).keep h.1 hz hk, h.2⟩
 send := by
  intro w x own S ba bl bc bs k t c u o err h hJ hs hun
  obtain ⟨hp, hR⟩ := h
  have hKK := saleK_of hJ hR
  have K := keepX S.now x S S.os.length
  have HU : ∀ W, Below w.heap.size w W → Calls Tryz.prog 62 #[.slice ba bl bc] W fun e w' => e = .returned (.tuple #[.agg #[iv k, iv t, iv c, iv u, iv o], iv err]) ∧ Below W.heap.size W w' := fun W hW => by
   refine (unpack_any ba bl bc bs W (sliceOf_below hs hW)).mono ?_
   rintro e w' ⟨k', t', c', u', o', err', rfl, hun', hb⟩
   obtain ⟨rfl, rfl, rfl, rfl, rfl, rfl⟩ := un_one hun hun'
   exact ⟨rfl, hb⟩
  have stay : ∀ {w' : World} {S' : Sal}, S' = S → Below w.heap.size w w' → psAns PSW w w' x own S' := by
   rintro w' _ rfl hb
   obtain ⟨o', a1, a2, a3⟩ := ansP_below K hp hb
   exact ⟨o', ⟨a1, hR⟩, a2, a3⟩
  by_cases he : err = 0
  ·subst he
   obtain ⟨_, hb, rfl⟩ := hun.resolve_right (fun c => by have := c.1; omega)
   by_cases hk : k = 4
   ·subst hk
    have hse : S.send (frameB 4 (numsOf 4 t c u o)) ⟨4, t, c, u, o⟩ 0 = (S.poll ⟨4, t, c, u, o⟩, S) := by
         unfold Sal.send
         rw [if_neg (fun c => c rfl), if_pos rfl]
    have ho : 1 ≤ o := by
         rcases isB_num hb with ⟨q, _⟩ | ⟨q, _⟩ | ⟨_, q, _⟩
         ·omega
         ·omega
         ·exact q
    rw [hse]
    refine (send_poll x ba bl bc t c u o _ _ _ _ w HU (fun W hW => poll_s (psx_below hp hW) hKK ⟨4, t, c, u, o⟩ ho)).mono ?_
    rintro e w' ⟨rfl, hb'⟩
    exact ⟨rfl, stay rfl hb'⟩
   ·refine (send_once x own (psx S.now x S S.os.length) _ K (keepX _ _ _ _) ba bl bc k t c u o _ _ _ _ w (by simpa using hk) (K.lt hp) hp HU (fun loc W hW => seenL_call (K.lt hp) (fun W o' hp' => once_s hp' hJ hR ⟨k, t, c, u, o⟩ hb hk) W hW)).mono ?_
    rintro e w' ⟨rfl, o', a1, a2, a3⟩
    refine ⟨rfl, o', ⟨?_, rest_send hR _ _ _⟩, a2, a3⟩
    rw [(send_same S _ _ _).2.1]
    exact a1
  ·have hse : S.send bs ⟨k, t, c, u, o⟩ err = (⟨1, 0, 0, 0⟩, S) := by
    unfold Sal.send
    rw [if_pos he]
   rw [hse]
   refine (send_bad x ba bl bc k t c u o err w (bne_iff_ne.2 he) HU).mono ?_
   rintro e w' ⟨rfl, hb'⟩
   exact ⟨rfl, stay rfl hb'⟩
end
end
theorem eight_cells {w : World} {R : Nat} {c0 c1 c2 c3 c4 c5 c6 c7 : Value} {T : TypeId} (h : w.heap[R]? = some (.cells #[c0, c1, c2, c3, c4, c5, c6, c7] T (0, 0))) : w.cell? (aq R 0) = some c0 ∧ w.cell? (aq R 1) = some c1 ∧ w.cell? (aq R 2) = some c2 ∧ w.cell? (aq R 3) = some c3 ∧ w.cell? (aq R 4) = some c4 ∧ w.cell? (aq R 5) = some c5 ∧ w.cell? (aq R 6) = some c6 ∧ w.cell? (aq R 7) = some c7 := by
 refine ⟨?_, ?_, ?_, ?_, ?_, ?_, ?_, ?_⟩ <;> (rw [Joins.cell_of_block h]; rfl)
theorem five_far (W : World) (b k : Nat) (h : k ≠ b) (v0 v1 v2 v3 v4 : Value) : (((((W.setCell (aq b 0) v0).setCell (aq b 1) v1).setCell (aq b 2) v2).setCell (aq b 3) v3).setCell (aq b 4) v4).heap[k]? = W.heap[k]? := by
 rw [Below.heap_setCell _ (aq b 4) _ _ h, Below.heap_setCell _ (aq b 3) _ _ h, Below.heap_setCell _ (aq b 2) _ _ h, Below.heap_setCell _ (aq b 1) _ _ h, Below.heap_setCell _ (aq b 0) _ _ h]
theorem newAnswers_w (w : World) : Calls Tryz.prog 56 #[] w fun e w' => ∃ xa oa, e = .returned (.agg #[pt xa 0, .pointer none, iv 0, .slice none 0 0, iv 0]) ∧ pwW w' xa oa 0 [] ∧ (∀ k, oa k → w.heap.size ≤ k) ∧ Below w.heap.size w w' := by
 go_enter Tryz.func56, Tryz.ntmps56
 have rb0 : Hid ((w.alloc (.cells #[.pointer none, .pointer none, iv 0, .slice none 0 0, iv 0] 115)).heap[w.heap.size]? = some (.cells #[.pointer none, .pointer none, iv 0, .slice none 0 0, iv 0] 115 (0, 0))) := heap_alloc_new w _
 have hbl : Hid (Below w.heap.size w (w.alloc (.cells #[.pointer none, .pointer none, iv 0, .slice none 0 0, iv 0] 115))) := (Below.refl _ _).alloc (Nat.le_refl _) _
 go_wp2_with fail
 generalize w.alloc (.cells #[.pointer none, .pointer none, iv 0, .slice none 0 0, iv 0] 115) = W0 at rb0 hbl ⊢
 have lr0 : w.heap.size < W0.heap.size := (blt rb0.out)
 refine (new_any W0 0).mono ?_
 rintro e W1 ⟨xa, oa, rfl, hp, ho, bb⟩
 have hb1 : Hid (Below w.heap.size w W1) := hbl.out.trans (bb.mono hbl.out.size)
 have rb1 : Hid (W1.heap[w.heap.size]? = some (.cells #[.pointer none, .pointer none, iv 0, .slice none 0 0, iv 0] 115 (0, 0))) := (bb.block _ lr0).trans rb0.out
 have lr1 : w.heap.size < W1.heap.size := (blt rb1.out)
 have HE : Hid (∀ v0 v1 v2 v3 v4, pwW (((((W1.setCell (aq w.heap.size 0) v0).setCell (aq w.heap.size 1) v1).setCell (aq w.heap.size 2) v2).setCell (aq w.heap.size 3) v3).setCell (aq w.heap.size 4) v4) xa oa 0 [] ∧ (∀ k, oa k → w.heap.size ≤ k) ∧ Below w.heap.size w (((((W1.setCell (aq w.heap.size 0) v0).setCell (aq w.heap.size 1) v1).setCell (aq w.heap.size 2) v2).setCell (aq w.heap.size 3) v3).setCell (aq w.heap.size 4) v4)) := fun v0 v1 v2 v3 v4 => ⟨pwW_keep hp (by simp [World.setCell]) (fun k e => five_far W1 _ k (by have := ho k e; omega) _ _ _ _ _), fun k e => by have := ho k e; omega, below_set5 hb1.out (Nat.le_refl _)⟩
 obtain ⟨s0, s1, s2, s3, s4⟩ := five_cells rb1.out
 have f0 := row_free rb1.out 0
 have f1 := row_free rb1.out 1
 have f2 := row_free rb1.out 2
 have f3 := row_free rb1.out 3
 have f4 := row_free rb1.out 4
 clear hp ho bb rb0 hbl lr0
 go_wp2
 refine bodyPost_ret (v := .agg #[pt xa 0, .pointer none, iv 0, .slice none 0 0, iv 0]) (by simp [results, Tryz.results56, go_sem, s0, s1, s2, s3, s4]) rfl ⟨xa, oa, rfl, ?_⟩
 exact HE.out _ _ _ _ _
theorem open_no (n0 n1 n2 n3 n4 n5 n6 : Int) (a : Option Addr) (len cap : Nat) (w : World)
 (HC : Hid (∀ W, Below w.heap.size w W → Calls Tryz.prog 54 #[.agg #[iv n0, iv n1, iv n2, iv n3, iv n4, iv n5, iv n6, .slice a len cap]] W fun e w' => e = .returned (iv 1) ∧ Below W.heap.size W w')) :
 Calls Tryz.prog 26 #[.agg #[iv n0, iv n1, iv n2, iv n3, iv n4, iv n5, iv n6, .slice a len cap]] w fun e w' => e = .returned (.tuple #[.pointer none, iv 1]) ∧ Below w.heap.size w w' := by
 have hbl : Hid (Below w.heap.size w (w.alloc (.cells #[iv n0, iv n1, iv n2, iv n3, iv n4, iv n5, iv n6, .slice a len cap] 29))) := (Below.refl _ _).alloc (Nat.le_refl _) _
 go_enter Tryz.func26, Tryz.ntmps26
 go_wp2_with fail
 generalize w.alloc (.cells #[iv n0, iv n1, iv n2, iv n3, iv n4, iv n5, iv n6, .slice a len cap] 29) = W0 at hbl ⊢
 refine (HC.out _ hbl.out).mono ?_
 rintro e W1 ⟨rfl, bb⟩
 have hb1 : Below w.heap.size w W1 := hbl.out.trans (bb.mono hbl.out.size)
 go_wp2
 refine bodyPost_ret (v := .tuple #[.pointer none, iv 1]) (by simp [results, Tryz.results26, go_sem]) rfl ⟨rfl, hb1⟩
def popenAns (w w' : World) (n0 n1 n2 n3 n4 n5 n6 : Int) (len : Nat) (ts : List (Int × Int)) (x : Nat) : Prop :=
 ∃ xt ot xa oa g cp, w'.heap[x]? = some (.cells #[iv n0, iv n1, iv n2, iv n3, iv n4, iv n5, iv n6, .slice (some (aq g 0)) len cp, iv 0, iv 0, pt xt 0, .pointer none, iv 0, .slice none 0 0, iv 0, .pointer none, iv 0, .pointer none, iv 0, iv 0, iv 0, .pointer none, iv 0, pt xa 0, .pointer none, iv 0, .slice none 0 0, iv 0] 117 (0, 0)) ∧ pwW w' xt ot 0 [] ∧ pwW w' xa oa 0 [] ∧ w'.ownsRow w.heap.size 137 2 (.slice (some (aq g 0)) len cp) len (flatT ts) ∧ (∀ k, ot k → w.heap.size ≤ k ∧ k ≠ x ∧ k ≠ g ∧ ¬ oa k) ∧ (∀ k, oa k → w.heap.size ≤ k ∧ k ≠ x ∧ k ≠ g) ∧ g ≠ x ∧ w.heap.size ≤ x ∧ Below w.heap.size w w'
theorem open_w (n0 n1 n2 n3 n4 n5 n6 : Int) (b off len cap : Nat) (ts : List (Int × Int)) (w : World) (hb : b < w.heap.size) (hlen : ts.length = len) (h0 : 0 < len) (hcap : len ≤ cap ∧ cap * 16 ≤ 140737488355328) (hcell : ∀ i, i < len → w.cell? (aq b (off + i * 2)) = some (iv (ts.getD i (0, 0)).1) ∧ w.cell? (aq b (off + i * 2 + 1)) = some (iv (ts.getD i (0, 0)).2))
 (HC : Hid (∀ W, Below w.heap.size w W → Calls Tryz.prog 54 #[.agg #[iv n0, iv n1, iv n2, iv n3, iv n4, iv n5, iv n6, .slice (some (aq b off)) len cap]] W fun e w' => e = .returned (iv 0) ∧ Below W.heap.size W w')) :
 Calls Tryz.prog 26 #[.agg #[iv n0, iv n1, iv n2, iv n3, iv n4, iv n5, iv n6, .slice (some (aq b off)) len cap]] w fun e w' => ∃ x, e = .returned (.tuple #[pt x 0, iv 0]) ∧ popenAns w w' n0 n1 n2 n3 n4 n5 n6 len ts x := by
 obtain ⟨i0, hi, hz0, hz1, hz2⟩ := info_parts Tryz.infoTier
 have HNEWS : Hid (∀ W, Below w.heap.size w W → ∀ j u, (flatT ts)[j]? = some u → W.cell? (((aq b off) : Addr).add j) = some u) := fun W hW j u hu => by
  have hjl : j < len * 2 := by
   have := (List.getElem?_eq_some_iff.1 hu).1
   rw [flatT_len, hlen] at this
   exact this
  obtain ⟨q1, q2⟩ := flatT_at ts (j / 2) (by omega)
  obtain ⟨k1, k2⟩ := hcell (j / 2) (by omega)
  rw [Addr.add_lit]
  rcases Nat.mod_two_eq_zero_or_one j with hm | hm
  ·have e : j / 2 * 2 = j := by omega
   rw [e, hu] at q1
   rw [(hW.cell (p := (aq b (off + j))) hb), ← e, k1]
   rw [← q1]
  ·have e : j / 2 * 2 + 1 = j := by omega
   rw [e, hu] at q2
   rw [(hW.cell (p := (aq b (off + j))) hb)]
   have e' : off + j = off + j / 2 * 2 + 1 := by omega
   rw [e', k2]
   rw [← q2]
 have hfl : (flatT ts).length = len * 2 := by rw [flatT_len, hlen]
 have hone : ∀ u ∈ flatT ts, u.oneCell' = true := flatT_one ts
 have cb0 : Hid ((w.alloc (.cells #[iv n0, iv n1, iv n2, iv n3, iv n4, iv n5, iv n6, .slice (some (aq b off)) len cap] 29)).heap[w.heap.size]? = some (.cells #[iv n0, iv n1, iv n2, iv n3, iv n4, iv n5, iv n6, .slice (some (aq b off)) len cap] 29 (0, 0))) := heap_alloc_new w _
 have hbl : Hid (Below w.heap.size w (w.alloc (.cells #[iv n0, iv n1, iv n2, iv n3, iv n4, iv n5, iv n6, .slice (some (aq b off)) len cap] 29))) := (Below.refl _ _).alloc (Nat.le_refl _) _
 clear hcell
 go_enter Tryz.func26, Tryz.ntmps26
 go_wp2_with fail
 generalize w.alloc (.cells #[iv n0, iv n1, iv n2, iv n3, iv n4, iv n5, iv n6, .slice (some (aq b off)) len cap] 29) = W0 at cb0 hbl ⊢
 have lc0 : w.heap.size < W0.heap.size := (blt cb0.out)
 refine (HC.out _ hbl.out).mono ?_
 rintro e W1 ⟨rfl, bb⟩
 have hb1 : Hid (Below w.heap.size w W1) := hbl.out.trans (bb.mono hbl.out.size)
 have cb1 : Hid (W1.heap[w.heap.size]? = some (.cells #[iv n0, iv n1, iv n2, iv n3, iv n4, iv n5, iv n6, .slice (some (aq b off)) len cap] 29 (0, 0))) := (bb.block _ lc0).trans cb0.out
 have lc1 : w.heap.size < W1.heap.size := (blt cb1.out)
 obtain ⟨s0, s1, s2, s3, s4, s5, s6, s7⟩ := eight_cells cb1.out
 clear bb cb0 hbl lc0 HC
 have HAPP : Hid (∀ v' W2, W2.ownsRow w.heap.size 137 2 v' (0 + len) ([] ++ flatT ts) → (W1.alloc (.cells #[] 137)).grownBy W2 (Value.ownBlock (.slice (some (aq W1.heap.size 0)) 0 0)) → ∃ g cp, v' = .slice (some (aq g 0)) len cp ∧ Hid (W2.ownsRow w.heap.size 137 2 (.slice (some (aq g 0)) len cp) len (flatT ts) ∧ w.heap.size < g ∧ g < W2.heap.size) ∧ Hid (W2.heap[w.heap.size]? = some (.cells #[iv n0, iv n1, iv n2, iv n3, iv n4, iv n5, iv n6, .slice (some (aq b off)) len cap] 29 (0, 0))) ∧ Hid (Below w.heap.size w W2)) := fun v' W2 hown hgrow => by
  rw [Nat.zero_add, List.nil_append] at hown
  obtain ⟨g, cp, rfl, hg1, hg2⟩ := hown.form h0
  have z := hgrow.size
  rw [show (W1.alloc (.cells #[] 137)).heap.size = W1.heap.size + 1 by simp] at z
  have hk : ∀ k, k < W1.heap.size → W2.heap[k]? = W1.heap[k]? := fun k hk => (hgrow.block k (by simp; omega) (fun e => by simp [Value.ownBlock] at e; omega)).trans (Below.heap_alloc _ _ _ hk)
  have hcA := (hk _ lc1).trans cb1.out
  refine ⟨g, cp, rfl, ⟨hown, ?_, hg2⟩, hcA, ⟨hgrow.os.trans hb1.out.os, hgrow.tape.trans hb1.out.tape, hgrow.output.trans hb1.out.output, by have := hb1.out.size; omega, fun k hk' => (hk k (by have := hb1.out.size; omega)).trans (hb1.out.block k hk')⟩⟩
  have hne : g ≠ w.heap.size := fun e => own_type hown hcA (by decide) (by rw [← e]; rfl)
  omega
 go_wp2_with (first
  | (at_builtin; refine wpList_append_own _ rfl _ _ 27 rfl w.heap.size 137 i0 (.agg #[iv 0, iv 0]) 2 16 Tryz.underlying27 hi hz0 hz1 hz2 rfl (by decide) _ _ _ rfl (World.ownsRow_made W1 #[] 0 (by omega) (by unfold maxLen; omega) rfl) (aq b off) len cap (flatT ts) rfl hfl (HNEWS.out _ (hb1.out.alloc (by omega) _)) hone (by unfold maxLen; omega) (by omega) (by simp; omega) ?_
     intro v' W2 hown hgrow _
     obtain ⟨g, cp, rfl, hown, cb2, hb2⟩ := HAPP.out v' W2 hown hgrow
     have f7 := row_free cb2.out 7
     obtain ⟨t0, t1, t2, t3, t4, t5, t6, t7⟩ := eight_cells cb2.out
     have lc2 : w.heap.size < W2.heap.size := (blt cb2.out)
     clear hgrow)
  | fail)
 have cb3 : Hid ((W2.setCell (aq w.heap.size 7) (.slice (some (aq g 0)) len cp)).heap[w.heap.size]? = some (.cells #[iv n0, iv n1, iv n2, iv n3, iv n4, iv n5, iv n6, .slice (some (aq g 0)) len cp] 29 (0, 0))) := Joins.block_setCell (i := 7) cb2.out _
 have hb3 : Hid (Below w.heap.size w (W2.setCell (aq w.heap.size 7) (.slice (some (aq g 0)) len cp))) := hb2.out.setCell (p := (aq w.heap.size 7)) (Nat.le_refl _) _
 have hown3 : Hid ((W2.setCell (aq w.heap.size 7) (.slice (some (aq g 0)) len cp)).ownsRow w.heap.size 137 2 (.slice (some (aq g 0)) len cp) len (flatT ts) ∧ w.heap.size < g ∧ g < (W2.setCell (aq w.heap.size 7) (.slice (some (aq g 0)) len cp)).heap.size) := ⟨owns_keep hown.out.1 (fun k hk => Below.heap_setCell _ (aq w.heap.size 7) _ _ (by have e : g = k := (by simpa [Value.ownBlock] using hk); have := hown.out.2.1; show k ≠ w.heap.size; omega)), hown.out.2.1, by have := hown.out.2.2; simpa [World.setCell] using this⟩
 clear t0 t1 t2 t3 t4 t5 t6 t7 s0 s1 s2 s3 s4 s5 s6 s7 f7 lc2 lc1 cb2 hb2 hown HAPP HNEWS hb1 cb1
 generalize W2.setCell (aq w.heap.size 7) (.slice (some (aq g 0)) len cp) = W3 at cb3 hb3 hown3 ⊢
 refine (new_any W3 0).mono ?_
 rintro e W4 ⟨xt, ot, rfl, hpt, hot, b4⟩
 have lc3 : w.heap.size < W3.heap.size := (blt cb3.out)
 have cb4 : Hid (W4.heap[w.heap.size]? = some (.cells #[iv n0, iv n1, iv n2, iv n3, iv n4, iv n5, iv n6, .slice (some (aq g 0)) len cp] 29 (0, 0))) := (b4.block _ lc3).trans cb3.out
 have lc4 : w.heap.size < W4.heap.size := (blt cb4.out)
 obtain ⟨s0, s1, s2, s3, s4, s5, s6, s7⟩ := eight_cells cb4.out
 have HA : Hid (∀ W, Below W4.heap.size W4 W → Calls Tryz.prog 56 #[] W fun e w' => ∃ xa oa, e = .returned (.agg #[pt xa 0, .pointer none, iv 0, .slice none 0 0, iv 0]) ∧ Hid (popenAns w (w'.alloc (.cells #[iv n0, iv n1, iv n2, iv n3, iv n4, iv n5, iv n6, .slice (some (aq g 0)) len cp, iv 0, iv 0, pt xt 0, .pointer none, iv 0, .slice none 0 0, iv 0, .pointer none, iv 0, .pointer none, iv 0, iv 0, iv 0, .pointer none, iv 0, pt xa 0, .pointer none, iv 0, .slice none 0 0, iv 0] 117)) n0 n1 n2 n3 n4 n5 n6 len ts w'.heap.size) ∧ Below W4.heap.size W4 w') := fun W hW => by
  refine (newAnswers_w W).mono ?_
  rintro e W5 ⟨xa, oa, rfl, hpa, hoa, b5⟩
  have h45 : Below W4.heap.size W4 W5 := hW.trans (b5.mono hW.size)
  have z3 := hb3.out.size
  have z4 := b4.size
  have z5 := h45.size
  have zW := hW.size
  have hW3 : Below W3.heap.size W3 W5 := b4.trans (h45.mono z4)
  have hal : Below W5.heap.size W5 (W5.alloc (.cells #[iv n0, iv n1, iv n2, iv n3, iv n4, iv n5, iv n6, .slice (some (aq g 0)) len cp, iv 0, iv 0, pt xt 0, .pointer none, iv 0, .slice none 0 0, iv 0, .pointer none, iv 0, .pointer none, iv 0, iv 0, iv 0, .pointer none, iv 0, pt xa 0, .pointer none, iv 0, .slice none 0 0, iv 0] 117)) := (Below.refl _ _).alloc (Nat.le_refl _) _
  have hotlt := pwW_lt hpt
  have hoalt := pwW_lt hpa
  have hg := hown3.out
  refine ⟨xa, oa, rfl, ⟨xt, ot, xa, oa, g, cp, heap_alloc_new W5 _, ?_, ?_, ?_, fun k e => ?_, fun k e => ?_, ?_, ?_, ?_⟩, h45⟩
  ·have q1 := pwW_keep hpt h45.size (fun k e => h45.block k (hotlt k e))
   exact pwW_keep q1 hal.size (fun k e => hal.block k (by have := hotlt k e; omega))
  ·exact pwW_keep hpa hal.size (fun k e => hal.block k (hoalt k e))
  ·refine owns_keep hg.1 (fun k hk => ?_)
   have e : g = k := by simpa [Value.ownBlock] using hk
   rw [hal.block k (by omega)]
   exact hW3.block k (by omega)
  ·have h1 := hot k e
   have h2 := hotlt k e
   exact ⟨by omega, by omega, by omega, fun c => by have := hoa k c; omega⟩
  ·have h1 := hoa k e
   have h2 := hoalt k e
   exact ⟨by omega, by omega, by omega⟩
  ·omega
  ·omega
  ·exact (hb3.out.trans (hW3.mono z3)).trans (hal.mono (by omega))
 clear hpt hot hb3 hown3 cb3 lc3
 go_wp2_with fail
 go_region_held3 (fun w' => w'.cell? (aq w.heap.size 0) = some (iv n0) ∧ w'.cell? (aq w.heap.size 1) = some (iv n1) ∧ w'.cell? (aq w.heap.size 2) = some (iv n2) ∧ w'.cell? (aq w.heap.size 3) = some (iv n3) ∧ w'.cell? (aq w.heap.size 4) = some (iv n4) ∧ w'.cell? (aq w.heap.size 5) = some (iv n5) ∧ w'.cell? (aq w.heap.size 6) = some (iv n6) ∧ w'.cell? (aq w.heap.size 7) = some (.slice (some (aq g 0)) len cp)) (simp [go_sem, *])
  (first
    | (go_at_call 56; refine (HA.out _ bL).mono ?_; rintro e W5 ⟨xa, oa, rfl, hans, b5⟩
       have cb5 : Hid (W5.heap[w.heap.size]? = some (.cells #[iv n0, iv n1, iv n2, iv n3, iv n4, iv n5, iv n6, .slice (some (aq g 0)) len cp] 29 (0, 0))) := (b5.block _ lc4).trans cb4.out
       have lc5 : w.heap.size < W5.heap.size := (blt cb5.out)
       obtain ⟨s0', s1', s2', s3', s4', s5', s6', s7'⟩ := eight_cells cb5.out
       clear b5))
 clear s0 s1 s2 s3 s4 s5 s6 s7 s0' s1' s2' s3' s4' s5' s6' s7' cb4 HA
 go_wp2
 refine bodyPost_ret (v := .tuple #[pt W5.heap.size 0, iv 0]) (by simp [results, Tryz.results26, go_sem]) rfl ⟨_, rfl, ?_⟩
 exact hans.out
theorem open_psx {w w' : World} {n0 n1 n2 n3 n4 n5 n6 : Int} {len x : Nat} {ts : List (Int × Int)} (hl : ts.length = len) (hl4 : len ≤ 4) (h : popenAns w w' n0 n1 n2 n3 n4 n5 n6 len ts x) :
 ∃ own, psx 0 x ⟨⟨n0, n1, n2, n3, n4, n5, n6, ts⟩, 0, [], []⟩ 0 w' own ∧ (∀ k, own k → w.heap.size ≤ k) ∧ Below w.heap.size w w' := by
 obtain ⟨xt, ot, xa, oa, g, cp, a1, a2, a3, a4, a5, a6, a7, a8, a9⟩ := h
 have hgl : w.heap.size ≤ g ∧ g < w'.heap.size := World.ownsRow.lt a4 g rfl
 have hxl : x < w'.heap.size := (blt a1)
 refine ⟨fun k => ot k ∨ oa k ∨ k = x ∨ k = g, ⟨⟨⟨n0, n1, n2, n3, n4, n5, n6, ts⟩, 0, 0, 0, [], [], [], 0, [], [], 0, 0, [], 0, [], [], [], 0, some (aq g 0), len, cp, xt, xa⟩, ⟨⟨ot, .leaf, none, 0, .leaf, .leaf, .leaf, oa, .leaf, none, 0⟩, ?_⟩, ?_, ?_, rfl⟩, ?_, a9⟩
 ·refine ⟨a1, ?_, a2, a3, ⟨trivial, rfl⟩, ⟨trivial, rfl⟩, ⟨trivial, rfl⟩, ⟨trivial, rfl⟩, ⟨trivial, rfl⟩, World.ownsRow_nil _ _ _ _, World.ownsRow_nil _ _ _ _, fun k e => ?_, fun k e => ?_, fun k e => ?_, fun k e => ?_, fun k e => ?_⟩
  ·refine ⟨⟨hl, by show len ≤ _; omega⟩, fun _ => ⟨g, 0, rfl, hgl.2, fun i hi => ?_⟩⟩
   have hi' : i < len := hi
   obtain ⟨f0, f1⟩ := flatT_at ts i (by omega)
   have c0 := a4.cells (g := g) rfl _ _ f0
   have c1 := a4.cells (g := g) rfl _ _ f1
   rw [Addr.add_lit] at c0 c1
   exact ⟨c0, by rw [Nat.add_assoc]; exact c1⟩
  ·obtain ⟨off, e⟩ := e
   have e' : k = g := by simp at e; exact e.1.symm
   subst e'
   exact ⟨a7, by simp [Value.ownBlock], by simp [Value.ownBlock]⟩
  ·obtain ⟨b1, b2, b3, b4⟩ := a5 k e
   refine ⟨b4, ?_⟩
   rintro (c | c | c | c | c | c | c | c | ⟨off, c⟩)
   ·exact b2 c
   ·exact c
   ·exact c
   ·exact c
   ·exact c
   ·exact c
   ·simp [Value.ownBlock] at c
   ·simp [Value.ownBlock] at c
   ·have c' : (some ((aq g 0) : Addr)) = some (aq k off) := c
    simp only [Option.some.injEq, Addr.mk.injEq] at c'
    exact b3 c'.1.symm
  ·obtain ⟨b1, b2, b3⟩ := a6 k e
   rintro (c | c | c | c | c | c | c | c | ⟨off, c⟩)
   ·exact b2 c
   ·exact c
   ·exact c
   ·exact c
   ·exact c
   ·exact c
   ·simp [Value.ownBlock] at c
   ·simp [Value.ownBlock] at c
   ·have c' : (some ((aq g 0) : Addr)) = some (aq k off) := c
    simp only [Option.some.injEq, Addr.mk.injEq] at c'
    exact b3 c'.1.symm
  ·rcases e with e | e | e
   ·exact .inl e
   ·exact .inr (.inl e)
   ·rcases e with c | c | c | c | c | c | c | c | ⟨off, c⟩
    ·exact .inr (.inr (.inl c))
    ·exact c.elim
    ·exact c.elim
    ·exact c.elim
    ·exact c.elim
    ·exact c.elim
    ·simp [Value.ownBlock] at c
    ·simp [Value.ownBlock] at c
    ·have c' : (some ((aq g 0) : Addr)) = some (aq k off) := c
     simp only [Option.some.injEq, Addr.mk.injEq] at c'
     exact .inr (.inr (.inr c'.1.symm))
  ·rcases e with e | e | e | e
   ·exact pwW_lt a2 k e
   ·exact pwW_lt a3 k e
   ·rw [e]; exact hxl
   ·rw [e]; exact hgl.2
 ·refine ⟨rfl, rfl, rfl, Int.le_refl _, by unfold onceT; simp, fun p => ?_, fun i e => e.1, fun i hi => by simp at hi, listed_nil, fun o => ?_, turns_nil, sizes_nil, rfl, rfl, ?_, fun o ho => by simp at ho⟩
  ·constructor
   ·intro e; simp at e
   ·rintro ⟨i, e, _⟩; have := e.1; simp at this
  ·constructor
   ·intro e; simp at e
   ·rintro ⟨i, e, _⟩; have := e.1; simp at this
  ·exact ledg_ext ledg_nil (fun st c _ _ => rfl)
 ·refine ⟨by unfold onceT; simp, listed_nil, fun j hj => by simp at hj, fun i j hi => by simp at hi, fun a ha => by simp at ha, fun p => ?_⟩
  constructor
  ·intro e; simp at e
  ·rintro ⟨j, hj, _⟩; simp at hj
 ·rintro k (e | e | e | e)
  ·exact (a5 k e).1
  ·exact (a6 k e).1
  ·rw [e]; exact a8
  ·rw [e]; exact hgl.1
theorem numB_iff {n : Int} (h : numB n = true) : 1 ≤ n ∧ n ≤ 4294967296 := by simpa [numB] using h
theorem openW : OpenOK PSW where
 no := by
  intro w n0 n1 n2 n3 n4 n5 n6 a len cap ts ht hc
  refine open_no n0 n1 n2 n3 n4 n5 n6 a len cap w (fun W hW => ?_)
  have := check_any n0 n1 n2 n3 n4 n5 n6 a len cap ts W (ht.below hW (Nat.le_refl _))
  rw [hc] at this
  exact this
 yes := by
  intro w n0 n1 n2 n3 n4 n5 n6 a len cap ts ht hc
  have hc' := hc
  unfold cfgB at hc'
  simp only [List.all_cons, List.all_nil, Bool.and_true, Bool.and_eq_true] at hc'
  obtain ⟨⟨h0, h1, h2, h3, h4, h5, h6⟩, hp⟩ := hc'
  have hlen : 1 ≤ ts.length ∧ ts.length ≤ 4 := by
   unfold pricesB at hp
   simp only [Bool.and_eq_true, decide_eq_true_eq] at hp
   exact hp.1
  obtain ⟨t1, t2, t3, t4, t5⟩ := id ht
  obtain ⟨b, off, rfl, hb, hcell⟩ := t5 (by intro e; have := hlen.1; rw [e] at this; simp at this)
  refine (open_w n0 n1 n2 n3 n4 n5 n6 b off len cap ts w hb t1 (by omega) ⟨t2, t3⟩ hcell (fun W hW => ?_)).mono ?_
  ·have := check_any n0 n1 n2 n3 n4 n5 n6 (some (aq b off)) len cap ts W (ht.below hW (Nat.le_refl _))
   rw [hc] at this
   exact this
  ·rintro e w' ⟨x, rfl, ha⟩
   obtain ⟨own, p1, p2, p3⟩ := open_psx t1 (by omega) ha
   refine ⟨x, own, rfl, ⟨p1, ⟨⟨fun o ho => by simp at ho, fun q qs c => by simp [queueS, queueT] at c, numB_iff h3, numB_iff h4, numB_iff h5, numB_iff h6, numB_iff h2⟩, ?_, ?_⟩⟩, p2, p3⟩
   ·have := (numB_iff h2).1
    show ((0 : Nat) : Int) ≤ n2
    omega
   ·have := (numB_iff h6).1
    show ((0 : Nat) : Int) ≤ n6
    omega
theorem sends_holds : Rows.SendsSaid := sends_of sendW openW
end Go.Proofs.YtfhncfghblkgeaaGreat
