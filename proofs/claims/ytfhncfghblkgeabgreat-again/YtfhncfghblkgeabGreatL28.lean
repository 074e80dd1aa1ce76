import Derived.Test.YtfhncfghblkgeabGreatL24
import Derived.Test.YtfhncfghblkgeabGreatL25
set_option maxRecDepth 100000
set_option maxHeartbeats 2000000
namespace Go.Proofs.YtfhncfghblkgeabGreat
open Go.RowKit
section
structure restP (S : Sal) : Prop where
 R : restS S
 qlen : ((queueS S.os).length : Int) ≤ S.C.queue
 alen : (S.answers : Int) ≤ S.C.tokens
theorem promote_fut {S : Sal} (hl : 1 ≤ S.C.lease) (h : ∀ o ∈ S.os, o.alive → S.now < o.upto) : ∀ o ∈ S.promote.os, o.alive → S.now < o.upto :=
 promote_orders (Q := fun o => o.alive → S.now < o.upto) S (fun o c _ _ _ => by show S.now < S.now + S.C.lease; omega) h
theorem ends_fut {S : Sal} {i : Nat} {st : Int} (hst : st ≠ 12 ∧ st ≠ 13) (h : ∀ o ∈ S.os, o.alive → S.now < o.upto) : ∀ o ∈ (S.ends i st).os, o.alive → S.now < o.upto := by
 intro o ho ha
 rcases mem_set (show o ∈ S.os.set i _ from ho) with rfl | ho
 ·exact absurd ha (fun c => c.elim hst.1 hst.2)
 ·exact h o ho ha
theorem drained_fut {S : Sal} (h : ∀ o ∈ S.os, o.alive → S.now < o.upto) : ∀ o ∈ S.drained.os, o.alive → S.now < o.upto := by
 intro o ho ha
 obtain ⟨p, hp, rfl⟩ := List.mem_map.1 (show o ∈ S.os.map (dry S.left S.now) from ho)
 unfold dry at ha ⊢
 split
 ·next hc => rw [if_pos hc] at ha; exact absurd ha (fun c => c.elim (show ¬ (18 : Int) = 12 by decide) (show ¬ (18 : Int) = 13 by decide))
 ·next hc => rw [if_neg hc] at ha; exact h p hp ha
theorem promoteN_qlen : ∀ (n : Nat) (S : Sal), (queueS (promoteN n S).os).length ≤ (queueS S.os).length
 | 0, _ => Nat.le_refl _
 | n + 1, S => by
   unfold promoteN
   split
   ·exact Nat.le_refl _
   ·next q qs hq =>
    split
    ·exact Nat.le_refl _
    ·refine Nat.le_trans (promoteN_qlen n _) ?_
     rw [holds_queue hq, hq]
     simp
theorem promote_qlen (S : Sal) : (queueS S.promote.os).length ≤ (queueS S.os).length := promoteN_qlen _ S
theorem ends_qlen {S : Sal} {i : Nat} (hi : i < S.os.length) {st : Int} (hst : st ≠ 12) : (queueS (S.ends i st).os).length ≤ (queueS S.os).length := by
 show (queueS (S.os.set i _)).length ≤ _
 rw [queue_set _ hi hst]
 exact List.length_filter_le _ _
theorem drainS_qlen : ∀ (qs : List Nat) (S : Sal), (∀ q ∈ qs, q < S.os.length) → (queueS (drainS S qs).os).length ≤ (queueS S.os).length
 | [], _, _ => Nat.le_refl _
 | q :: qs, S, h => by
   have e : drainS S (q :: qs) = drainS (if S.left < (S.os.getD q ord0).units then S.ends q 18 else S) qs := rfl
   rw [e]
   split
   ·exact Nat.le_trans (drainS_qlen qs _ (fun x hx => by rw [ends_len]; exact h x (List.mem_cons_of_mem _ hx))) (ends_qlen (h q List.mem_cons_self) (by decide))
   ·exact drainS_qlen qs _ (fun x hx => h x (List.mem_cons_of_mem _ hx))
theorem drained_qlen (S : Sal) : (queueS S.drained.os).length ≤ (queueS S.os).length := by
 rw [← drainS_queue]
 exact drainS_qlen _ S (fun q hq => queueT_lt S.os _ q hq)
theorem rest_promote {S T : Sal} (h : restP S) (hC : T.C = S.C) (hn : T.now = S.now) (ha : T.ansL = S.ansL) (hf : ∀ o ∈ T.os, o.alive → T.now < o.upto) (hq : (queueS T.os).length ≤ (queueS S.os).length) : restP T.promote := by
 obtain ⟨a, b, c⟩ := promote_keep T
 have hR := h.R
 refine ⟨⟨?_, promote_stable T, ?_, ?_, ?_, ?_, ?_⟩, ?_, ?_⟩
 ·rw [b]; exact promote_fut (by rw [hC]; exact hR.lease.1) hf
 ·rw [a, hC]; exact hR.lease
 ·rw [a, hC]; exact hR.wait
 ·rw [a, hC]; exact hR.keep
 ·rw [a, hC]; exact hR.tokens
 ·rw [a, hC]; exact hR.queue
 ·have h1 := promote_qlen T
  have h2 := h.qlen
  rw [a, hC]
  omega
 ·have : T.promote.answers = S.answers := by unfold Sal.answers Sal.remem; rw [c, ha, b, hn, a, hC]
  rw [this, a, hC]
  exact h.alen
theorem rest_confirm {S : Sal} (h : restP S) (r : Req) : restP (S.confirm r).2 := by
 unfold Sal.confirm
 split
 ·exact h
 ·next i hf =>
  split
  ·exact h
  ·by_cases hi : i < S.os.length
   ·have hl := hi
    obtain ⟨d, e, f⟩ := drainS_keep (queueS (S.ends i 14).os) (S.ends i 14)
    refine rest_promote h d e f ?_ ?_
    ·rw [e, drainS_queue]
     exact drained_fut (S := S.ends i 14) (ends_fut (by decide) h.R.fut)
    ·rw [drainS_queue]
     exact Nat.le_trans (drained_qlen _) (ends_qlen hl (by decide))
   ·have e1 : S.ends i 14 = S := by
     unfold Sal.ends Sal.put
     rw [List.set_eq_of_length_le (Nat.le_of_not_lt hi)]
    obtain ⟨d, e, f⟩ := drainS_keep (queueS (S.ends i 14).os) (S.ends i 14)
    refine rest_promote h d e f ?_ ?_
    ·rw [e, drainS_queue, e1]
     exact drained_fut h.R.fut
    ·rw [drainS_queue, e1]
     exact drained_qlen _
theorem rest_cancel {S : Sal} (h : restP S) (r : Req) : restP (S.cancel r).2 := by
 unfold Sal.cancel
 split
 ·exact h
 ·next i hf =>
  split
  ·exact h
  ·by_cases hi : i < S.os.length
   ·exact rest_promote (T := S.ends i 16) h rfl rfl rfl (ends_fut (by decide) h.R.fut) (ends_qlen hi (by decide))
   ·have e1 : S.ends i 16 = S := by
     unfold Sal.ends Sal.put
     rw [List.set_eq_of_length_le (Nat.le_of_not_lt hi)]
    rw [e1]
    exact rest_promote (T := S) h rfl rfl rfl h.R.fut (Nat.le_refl _)
theorem rest_ask {S : Sal} (h : restP S) (r : Req) : restP (S.ask r).2 := by
 have hR := h.R
 unfold Sal.ask
 split
 ·exact h
 split
 ·exact h
 split
 ·exact h
 split
 ·next hq =>
  obtain ⟨e1, e2⟩ := more_holds S r.cust r.units
  show restP ((S.more ⟨r.cust, r.units, 0, 0, 0, 0⟩).holds S.os.length)
  rw [e1, e2]
  have hqs : queueS (S.more ⟨r.cust, r.units, 13, S.price, S.now + S.C.lease, 0⟩).os = [] := by
   show queueS (S.os ++ [_]) = _
   rw [queue_snoc, if_neg (show ¬ (13 : Int) = 12 by decide)]
   exact hq.1
  refine ⟨⟨fun o ho ha => ?_, fun q qs c => (by rw [hqs] at c; cases c), hR.lease, hR.wait, hR.keep, hR.tokens, hR.queue⟩, ?_, h.alen⟩
  ·rcases List.mem_append.1 (show o ∈ S.os ++ [_] from ho) with ho | ho
   ·exact hR.fut o ho ha
   ·have e : o = ⟨r.cust, r.units, 13, S.price, S.now + S.C.lease, 0⟩ := by simpa using ho
    rw [e]
    show S.now < S.now + S.C.lease
    have := hR.lease.1
    omega
  ·rw [hqs]
   have := hR.queue.1
   show ((0 : Nat) : Int) ≤ S.C.queue
   omega
 split
 ·exact h
 ·next c1 c2 c3 c4 c5 =>
  have hqs : queueS (S.more ⟨r.cust, r.units, 12, 0, S.now + S.C.wait, 0⟩).os = queueS S.os ++ [S.os.length] := by
   show queueS (S.os ++ [_]) = _
   rw [queue_snoc, if_pos rfl]
  have hfree : (S.more ⟨r.cust, r.units, 12, 0, S.now + S.C.wait, 0⟩).free = S.free := by
   unfold Sal.free Sal.left
   show S.C.stock - unitsS (S.os ++ [_]) 14 0 - unitsS (S.os ++ [_]) 13 0 = _
   rw [units_snoc, units_snoc, part0, part0, if_neg (show ¬ (12 : Int) = 14 by decide), if_neg (show ¬ (12 : Int) = 13 by decide)]
   omega
  refine ⟨⟨fun o ho ha => ?_, fun q qs c => ?_, hR.lease, hR.wait, hR.keep, hR.tokens, hR.queue⟩, ?_, h.alen⟩
  ·rcases List.mem_append.1 (show o ∈ S.os ++ [_] from ho) with ho | ho
   ·exact hR.fut o ho ha
   ·have e : o = ⟨r.cust, r.units, 12, 0, S.now + S.C.wait, 0⟩ := by simpa using ho
    rw [e]
    show S.now < S.now + S.C.wait
    have := hR.wait.1
    omega
  ·rw [hfree]
   rw [hqs] at c
   cases hq : queueS S.os with
   | nil =>
     rw [hq] at c
     simp at c
     rw [← c.1]
     show S.free < ((S.os ++ [_]).getD S.os.length ord0).units
     rw [getD_snoc (by omega), if_pos rfl]
     show S.free < r.units
     have : ¬ r.units ≤ S.free := fun d => c4 ⟨hq, d⟩
     omega
   | cons q' qs' =>
     rw [hq] at c
     simp at c
     rw [← c.1]
     obtain ⟨_, hl, _⟩ := queue_tail hq ord0 (by decide)
     show S.free < ((S.os ++ [_]).getD q' ord0).units
     rw [getD_snoc (by omega), if_neg (by omega)]
     exact hR.stable q' qs' hq
  ·rw [hqs]
   have := h.qlen
   show (((queueS S.os ++ [S.os.length]).length : Nat) : Int) ≤ S.C.queue
   rw [List.length_append]
   simp
   omega
theorem rest_do {S : Sal} (h : restP S) (r : Req) : restP (S.doS r).2 := by
 unfold Sal.doS
 split
 ·exact rest_ask h r
 split
 ·exact rest_confirm h r
 ·exact rest_cancel h r
theorem str_inj {a b : List Int} (ha : ∀ x ∈ a, 0 ≤ x ∧ x < 256) (hb : ∀ x ∈ b, 0 ≤ x ∧ x < 256) (h : strOfNums a = strOfNums b) : a = b := by
 refine byte_inj a b ha hb ?_
 have := congrArg (fun s : ByteArray => s.data.toList) h
 simpa [strOfNums] using this
section
variable {an : Int} {atl : List (Int × Int)} {att : List Ent} {al : List PAns} {keep : Int} {ansL : List Ans}
theorem relA.count (h : relA an atl att al keep ansL) : al.length = (ansL.filter (fun a => decide (an < a.at' + keep))).length := by
 have mem : ∀ t, t ∈ (ansL.filter (fun a => decide (an < a.at' + keep))).map Ans.token ↔ ∃ j, j < ansL.length ∧ an < (ansL.getD j ans0).at' + keep ∧ t = (ansL.getD j ans0).token := by
  intro t
  rw [List.mem_map]
  constructor
  ·rintro ⟨a, ha, rfl⟩
   obtain ⟨h1, h2⟩ := List.mem_filter.1 ha
   obtain ⟨j, hj, rfl⟩ := List.getElem_of_mem h1
   have e : ansL.getD j ans0 = ansL[j] := by simp [List.getD, List.getElem?_eq_getElem hj]
   exact ⟨j, hj, by rw [e]; simpa using h2, by rw [e]⟩
  ·rintro ⟨j, hj, h2, rfl⟩
   have e : ansL.getD j ans0 = ansL[j] := by simp [List.getD, List.getElem?_eq_getElem hj]
   exact ⟨ansL.getD j ans0, List.mem_filter.2 ⟨by rw [e]; exact List.getElem_mem hj, by simpa using h2⟩, rfl⟩
 have n2 : ((ansL.filter (fun a => decide (an < a.at' + keep))).map Ans.token).Nodup := by
  have key : ∀ (l : List Ans), (∀ i j, i < l.length → j < l.length → an < (l.getD i ans0).at' + keep → an < (l.getD j ans0).at' + keep → (l.getD i ans0).token = (l.getD j ans0).token → i = j) → ((l.filter (fun a => decide (an < a.at' + keep))).map Ans.token).Nodup := by
   intro l
   induction l with
   | nil => intro _; simp
   | cons a l ih =>
     intro hu
     have ihl := ih (fun i j hi hj h1 h2 h3 => by
      have := hu (i + 1) (j + 1) (by simpa using hi) (by simpa using hj) h1 h2 h3
      omega)
     rw [List.filter_cons]
     split
     ·next ha =>
      rw [List.map_cons, List.nodup_cons]
      refine ⟨fun hm => ?_, ihl⟩
      obtain ⟨b, hb, e⟩ := List.mem_map.1 hm
      obtain ⟨h1, h2⟩ := List.mem_filter.1 hb
      obtain ⟨j, hj, rfl⟩ := List.getElem_of_mem h1
      have e2 : l.getD j ans0 = l[j] := by simp [List.getD, List.getElem?_eq_getElem hj]
      have := hu 0 (j + 1) (by simp) (by simpa using hj) (by simpa using ha) (by show an < (l.getD j ans0).at' + keep; rw [e2]; simpa using h2) (by show a.token = (l.getD j ans0).token; rw [e2]; exact e.symm)
      omega
     ·exact ihl
  exact key ansL h.uniq
 have l1 := nodup_sub_len (al.map PAns.t) _ h.ls.once (fun t ht => (mem t).2 (by
  obtain ⟨a, ha, rfl⟩ := List.mem_map.1 ht
  obtain ⟨j, a1, a2, a3⟩ := h.al a ha
  exact ⟨j, a1, a2, a3⟩))
 have l2 := nodup_sub_len _ (al.map PAns.t) n2 (fun t ht => by
  obtain ⟨j, a1, a2, rfl⟩ := (mem t).1 ht
  obtain ⟨a, ha, e, _⟩ := h.reqs j a1 a2
  exact List.mem_map.2 ⟨a, ha, e⟩)
 simp only [List.length_map] at l1 l2
 omega
theorem relA.add (h : relA an atl att al keep ansL) (a : PAns) (now : Int) (han : an = now) (hk : 1 ≤ keep) (hb : isB a.k a.t a.c a.u a.o = true) (hn : ∀ j, j < ansL.length → an < (ansL.getD j ans0).at' + keep → (ansL.getD j ans0).token ≠ a.t) :
 relA an (setL an atl a.t (now + keep)) (insS (a.t, 0) al.length att) (al ++ [a]) keep (ansL ++ [⟨strOfNums (frameB a.k (numsOf a.k a.t a.c a.u a.o)), a.t, ⟨a.rk, a.ro, a.rc, a.ru⟩, now⟩]) := by
 have hg : ∀ j, j < ansL.length + 1 → (ansL ++ [(⟨strOfNums (frameB a.k (numsOf a.k a.t a.c a.u a.o)), a.t, ⟨a.rk, a.ro, a.rc, a.ru⟩, now⟩ : Ans)]).getD j ans0 = if j = ansL.length then ⟨strOfNums (frameB a.k (numsOf a.k a.t a.c a.u a.o)), a.t, ⟨a.rk, a.ro, a.rc, a.ru⟩, now⟩ else ansL.getD j ans0 := by
  intro j hj
  simp only [List.getD]
  by_cases e : j = ansL.length
  ·subst e; simp
  ·rw [if_neg e, List.getElem?_append_left (by omega)]
 generalize hA : (⟨strOfNums (frameB a.k (numsOf a.k a.t a.c a.u a.o)), a.t, ⟨a.rk, a.ro, a.rc, a.ru⟩, now⟩ : Ans) = A at hg
 have ht : A.token = a.t := by rw [← hA]
 have hat : A.at' = now := by rw [← hA]
 have hal : ∀ b ∈ al, b.t ≠ a.t := fun b hb' e => by
  obtain ⟨j, j1, j2, j3⟩ := h.al b hb'
  exact hn j j1 j2 (by rw [← j3, e])
 have hx : ¬ 0 ≤ idxT atl a.t := by
  rw [idxT_mem]
  rintro ⟨p, hp, e⟩
  obtain ⟨j, j1, j2, rfl⟩ := (h.tl p).1 hp
  exact hn j j1 j2 e
 have hset : setL an atl a.t (now + keep) = atl ++ [(now + keep, a.t)] := by
  unfold setL
  rw [if_neg (by omega), if_neg hx]
 refine ⟨onceT_set h.once, listed_snoc h.ls hal, fun j hj hm => ?_, fun i j hi hj h1 h2 h3 => ?_, fun b hb' => ?_, fun p => ?_⟩
 ·simp only [List.length_append, List.length_singleton] at hj
  rw [hg j hj] at hm ⊢
  by_cases e : j = ansL.length
  ·rw [if_pos e]
   exact ⟨a, by simp, by rw [ht], hb, by rw [← hA], by rw [← hA]⟩
  ·rw [if_neg e] at hm ⊢
   obtain ⟨b, q1, q2⟩ := h.reqs j (by omega) hm
   exact ⟨b, List.mem_append_left _ q1, q2⟩
 ·simp only [List.length_append, List.length_singleton] at hi hj
  rw [hg i hi] at h1 h3
  rw [hg j hj] at h2 h3
  by_cases e1 : i = ansL.length <;> by_cases e2 : j = ansL.length
  ·omega
  ·rw [if_pos e1] at h3; rw [if_neg e2] at h2 h3
   exact absurd (h3.symm.trans ht) (hn j (by omega) h2)
  ·rw [if_neg e1] at h1 h3; rw [if_pos e2] at h3
   exact absurd (h3.trans ht) (hn i (by omega) h1)
  ·rw [if_neg e1] at h1 h3; rw [if_neg e2] at h2 h3
   exact h.uniq i j (by omega) (by omega) h1 h2 h3
 ·rcases List.mem_append.1 hb' with hb' | hb'
  ·obtain ⟨j, j1, j2, j3⟩ := h.al b hb'
   exact ⟨j, by simp; omega, by rw [hg j (by omega), if_neg (by omega)]; exact j2, by rw [hg j (by omega), if_neg (by omega)]; exact j3⟩
  ·have e : b = a := by simpa using hb'
   rw [e]
   exact ⟨ansL.length, by simp, by rw [hg _ (by omega), if_pos rfl, hat]; omega, by rw [hg _ (by omega), if_pos rfl, ht]⟩
 ·rw [hset, List.mem_append, h.tl]
  constructor
  ·rintro (⟨j, j1, j2, rfl⟩ | hp)
   ·exact ⟨j, by simp; omega, by rw [hg j (by omega), if_neg (by omega)]; exact j2, by rw [hg j (by omega), if_neg (by omega)]⟩
   ·have e : p = (now + keep, a.t) := by simpa using hp
    rw [e]
    exact ⟨ansL.length, by simp, by rw [hg _ (by omega), if_pos rfl, hat]; omega, by rw [hg _ (by omega), if_pos rfl, hat, ht]⟩
  ·rintro ⟨j, j1, j2, rfl⟩
   simp only [List.length_append, List.length_singleton] at j1
   rw [hg j j1] at j2 ⊢
   by_cases e : j = ansL.length
   ·rw [if_pos e, hat, ht]
    exact .inr (by simp)
   ·rw [if_neg e] at j2 ⊢
    exact .inl ⟨j, by omega, j2, rfl⟩
end
end
section
section
variable {V : PV} {S : Sal} {last : Nat} {K : Nat → Prop}
theorem relO.clock (h : relO V S last K) {t : Int} (ht : V.tn ≤ t) : relO { V with now := t } { S with now := t } last K :=
 ⟨h.C, rfl, h.last, ht, h.once, h.tl, h.kin, h.live, h.ls, h.ol, h.turns, h.sizes, h.held, h.sold, h.lu, h.cust⟩
theorem relO.advance (h : relO V S last K) {t : Int} (h1 : V.tn ≤ t) (h2 : t ≤ S.now) : relO { V with tn := t, tl := advL V.tn t V.tl } S last K := by
 have he : advL V.tn t V.tl = V.tl.filter (fun p => decide (t < p.1)) := by
  unfold advL
  rw [if_neg (by omega), adv_left]
 rw [he]
 refine ⟨h.C, h.now, h.last, h2, onceT_filter _ h.once, fun p => ?_, h.kin, h.live, h.ls, h.ol, h.turns, h.sizes, h.held, h.sold, h.lu, h.cust⟩
 show p ∈ V.tl.filter (fun p => decide (t < p.1)) ↔ ∃ i, K i ∧ t < _ ∧ _
 rw [List.mem_filter, h.tl]
 constructor
 ·rintro ⟨⟨i, a, b, rfl⟩, c⟩
  exact ⟨i, a, by simpa using c, rfl⟩
 ·rintro ⟨i, a, b, rfl⟩
  exact ⟨⟨i, a, by omega, rfl⟩, by simpa using b⟩
theorem relO.due (h : relO V S last K) {t : Int} (h1 : V.tn ≤ t) (p : Int × Int) : p ∈ advO V.tn t V.tl ↔ ∃ i, K i ∧ V.tn < (S.os.getD i ord0).untl S.C ∧ (S.os.getD i ord0).untl S.C ≤ t ∧ p = ((S.os.getD i ord0).untl S.C, (i : Int) + 1) := by
 have he : (advO V.tn t V.tl).Perm (V.tl.filter (fun p => decide (p.1 ≤ t))) := by
  unfold advO
  rw [if_neg (by omega)]
  exact (adv_spec t _ V.tl rfl).2.1
 rw [he.mem_iff, List.mem_filter, h.tl]
 constructor
 ·rintro ⟨⟨i, a, b, rfl⟩, c⟩
  exact ⟨i, a, b, by simpa using c, rfl⟩
 ·rintro ⟨i, a, b, c, rfl⟩
  exact ⟨⟨i, a, b, rfl⟩, by simpa using c⟩
theorem relO.drop (h : relO V S last K) {i : Nat} (ha : ¬ (S.os.getD i ord0).alive) (hu : (S.os.getD i ord0).untl S.C ≤ V.tn) {j : Nat} {z : POrd} (hj : V.ol[j]? = some (pordOf S.C i (S.os.getD i ord0))) (hz : V.ol[V.ol.length - 1]? = some z) (rm : Int) :
 relO { V with ot := delS ((i : Int) + 1, 0) (insS (z.num, 0) j V.ot), ol := dropAt V.ol j z, orm := rm } S last (fun k => K k ∧ k ≠ i) := by
 refine ⟨h.C, h.now, h.last, h.tn, h.once, fun p => ?_, fun k hk => h.kin k hk.1, fun k hk hs => ⟨h.live k hk hs, fun e => ha (by rw [e] at hs; exact hs)⟩, listed_drop h.ls hj hz, fun o => ?_, h.turns, h.sizes, h.held, h.sold, h.lu, h.cust⟩
 ·refine (h.tl p).trans ?_
  constructor
  ·rintro ⟨k, a, b, rfl⟩
   exact ⟨k, ⟨a, fun e => by rw [e] at b; omega⟩, b, rfl⟩
  ·rintro ⟨k, a, b, rfl⟩
   exact ⟨k, a.1, b, rfl⟩
 ·show o ∈ dropAt V.ol j z ↔ _
  rw [mem_dropAt h.ls.once hj hz, h.ol]
  constructor
  ·rintro ⟨⟨k, a, rfl⟩, b⟩
   exact ⟨k, ⟨a, fun e => b (by rw [e])⟩, rfl⟩
  ·rintro ⟨k, a, rfl⟩
   exact ⟨⟨k, a.1, rfl⟩, fun c => a.2 (by simp [pordOf] at c; omega)⟩
end
theorem relA.forget {an t : Int} {atl : List (Int × Int)} {att att' : List Ent} {al al' : List PAns} {keep : Int} {ansL : List Ans} (h : relA an atl att al keep ansL) (ht : an ≤ t) (hls : Listed PAns.t att' al') (hm : ∀ a, a ∈ al' ↔ a ∈ al ∧ ∀ d ∈ advO an t atl, a.t ≠ d.2) :
 relA t (advL an t atl) att' al' keep ansL := by
 have he : advL an t atl = atl.filter (fun p => decide (t < p.1)) := by
  unfold advL
  rw [if_neg (by omega), adv_left]
 have hd : ∀ p, p ∈ advO an t atl ↔ ∃ j, j < ansL.length ∧ an < (ansL.getD j ans0).at' + keep ∧ (ansL.getD j ans0).at' + keep ≤ t ∧ p = ((ansL.getD j ans0).at' + keep, (ansL.getD j ans0).token) := fun p => by
  have hp : (advO an t atl).Perm (atl.filter (fun p => decide (p.1 ≤ t))) := by
   unfold advO
   rw [if_neg (by omega)]
   exact (adv_spec t _ atl rfl).2.1
  rw [hp.mem_iff, List.mem_filter, h.tl]
  constructor
  ·rintro ⟨⟨i, a, b, rfl⟩, c⟩
   exact ⟨i, a, b, by simpa using c, rfl⟩
  ·rintro ⟨i, a, b, c, rfl⟩
   exact ⟨⟨i, a, b, rfl⟩, by simpa using c⟩
 refine ⟨by rw [he]; exact onceT_filter _ h.once, hls, fun j hj hr => ?_, fun i j hi hj h1 h2 => h.uniq i j hi hj (by omega) (by omega), fun a ha => ?_, fun p => ?_⟩
 ·obtain ⟨a, q1, q2, q3⟩ := h.reqs j hj (by omega)
  refine ⟨a, (hm a).2 ⟨q1, fun d hd' e => ?_⟩, q2, q3⟩
  obtain ⟨i, i1, i2, i3, rfl⟩ := (hd d).1 hd'
  have := h.uniq i j i1 hj i2 (by omega) (e.symm.trans q2)
  subst this
  omega
 ·obtain ⟨q1, q2⟩ := (hm a).1 ha
  obtain ⟨j, j1, j2, j3⟩ := h.al a q1
  refine ⟨j, j1, ?_, j3⟩
  refine Classical.byContradiction fun hn => q2 _ ((hd _).2 ⟨j, j1, j2, by omega, rfl⟩) j3
 ·rw [he, List.mem_filter, h.tl]
  constructor
  ·rintro ⟨⟨i, a, b, rfl⟩, c⟩
   exact ⟨i, a, by simpa using c, rfl⟩
  ·rintro ⟨i, a, b, rfl⟩
   exact ⟨⟨i, a, by omega, rfl⟩, by simpa using b⟩
theorem knows_at {S : Sal} {t : Int} (ht : S.now ≤ t) (i : Nat) : ({ S with now := t } : Sal).knows i ↔ S.knows i ∧ ((S.os.getD i ord0).alive ∨ t < (S.os.getD i ord0).untl S.C) := by
 constructor
 ·rintro ⟨h1, h2⟩
  exact ⟨⟨h1, h2.imp id (fun h => by have h' : t < (S.os.getD i ord0).untl S.C := h; omega)⟩, h2⟩
 ·rintro ⟨⟨h1, _⟩, h2⟩
  exact ⟨h1, h2⟩
end
section
theorem first_same {L L' : List (Int × Int)} (h : ∀ p, p ∈ L ↔ p ∈ L') : firstB L = firstB L' ∧ firstT L = firstT L' := by
 by_cases e : L = []
 ·have e' : L' = [] := List.eq_nil_iff_forall_not_mem.2 (fun p hp => by rw [← h, e] at hp; simp at hp)
  rw [e, e']; exact ⟨rfl, rfl⟩
 ·have e' : L' ≠ [] := fun c => e (List.eq_nil_iff_forall_not_mem.2 (fun p hp => by rw [h, c] at hp; simp at hp))
  obtain ⟨a1, a2, a3⟩ := first_some e
  obtain ⟨b1, b2, b3⟩ := first_some e'
  exact ⟨a1.trans b1.symm, ahead_antisymm (b3 _ ((h _).1 a2)) (a3 _ ((h _).2 b2))⟩
open Classical in
noncomputable def Sal.kset (S : Sal) : List Nat := (List.range S.os.length).filter (fun i => decide (S.knows i))
noncomputable def Sal.tset (S : Sal) : List (Int × Int) := S.kset.map (fun i => ((S.os.getD i ord0).untl S.C, (i : Int) + 1))
theorem kset_mem (S : Sal) (i : Nat) : i ∈ S.kset ↔ S.knows i := by
 unfold Sal.kset
 rw [List.mem_filter]
 constructor
 ·rintro ⟨_, h⟩; simpa using h
 ·intro h; exact ⟨List.mem_range.2 h.1, by simpa using h⟩
theorem tset_mem (S : Sal) (p : Int × Int) : p ∈ S.tset ↔ ∃ i, S.knows i ∧ p = ((S.os.getD i ord0).untl S.C, (i : Int) + 1) := by
 unfold Sal.tset
 rw [List.mem_map]
 constructor
 ·rintro ⟨i, h, rfl⟩; exact ⟨i, (kset_mem S i).1 h, rfl⟩
 ·rintro ⟨i, h, rfl⟩; exact ⟨i, (kset_mem S i).2 h, rfl⟩
theorem knows_fut {S : Sal} (hR : restS S) {i : Nat} (h : S.knows i) : S.now < (S.os.getD i ord0).untl S.C := by
 rcases h.2 with ha | ha
 ·rw [untl_alive ha]; exact hR.fut _ (ord_mem h.1) ha
 ·exact ha
theorem relO.firstK {V : PV} {S : Sal} {last : Nat} (h : relO V S last S.knows) (hR : restS S) : firstB V.tl = firstB S.tset ∧ firstT V.tl = firstT S.tset :=
 first_same (fun p => by
  rw [h.tl, tset_mem]
  constructor
  ·rintro ⟨i, a, _, rfl⟩; exact ⟨i, a, rfl⟩
  ·rintro ⟨i, a, rfl⟩
   exact ⟨i, a, by have := knows_fut hR a; have := h.tn; omega, rfl⟩)
theorem filter_lt {α : Type} {p q : α → Bool} : ∀ {l : List α}, (∀ x ∈ l, q x = true → p x = true) → (∃ x ∈ l, p x = true ∧ q x = false) → (l.filter q).length < (l.filter p).length
 | [], _, h => by obtain ⟨x, hx, _⟩ := h; simp at hx
 | a :: l, h1, h2 => by
   have le : (l.filter q).length ≤ (l.filter p).length := by
    clear h2
    induction l with
    | nil => simp
    | cons b l ih =>
      have ih' := ih (fun x hx => h1 x (by simp at hx ⊢; rcases hx with rfl | hx <;> simp_all))
      have hb := h1 b (by simp)
      by_cases hq : q b = true
      ·rw [List.filter_cons_of_pos hq, List.filter_cons_of_pos (hb hq)]; simpa using ih'
      ·by_cases hp : p b = true
       ·rw [List.filter_cons_of_neg hq, List.filter_cons_of_pos hp]; simp; omega
       ·rw [List.filter_cons_of_neg hq, List.filter_cons_of_neg hp]; exact ih'
   by_cases hq : q a = true
   ·rw [List.filter_cons_of_pos hq, List.filter_cons_of_pos (h1 a (by simp) hq)]
    obtain ⟨x, hx, hp, hn⟩ := h2
    have := filter_lt (p := p) (q := q) (l := l) (fun x hx => h1 x (List.mem_cons_of_mem _ hx)) ⟨x, by
     rcases List.mem_cons.1 hx with rfl | hx
     ·rw [hq] at hn; cases hn
     ·exact hx, hp, hn⟩
    simpa using this
   ·by_cases hp : p a = true
    ·rw [List.filter_cons_of_neg hq, List.filter_cons_of_pos hp]; simp; omega
    ·rw [List.filter_cons_of_neg hq, List.filter_cons_of_neg hp]
     obtain ⟨x, hx, hp', hn⟩ := h2
     exact filter_lt (p := p) (q := q) (l := l) (fun x hx => h1 x (List.mem_cons_of_mem _ hx)) ⟨x, by
      rcases List.mem_cons.1 hx with rfl | hx
      ·exact absurd hp' hp
      ·exact hx, hp', hn⟩
noncomputable def Sal.todo (S : Sal) : Nat := liveS S.os * (S.os.length + 1) + S.kset.length
structure stopAt (S : Sal) (t : Int) : Prop where
 some : ∃ i, S.knows i ∧ t = (S.os.getD i ord0).untl S.C
 min : ∀ i, S.knows i → t ≤ (S.os.getD i ord0).untl S.C
theorem first_stop {S : Sal} (h : firstB S.tset = true) : stopAt S (firstT S.tset).1 := by
 have hn : S.tset ≠ [] := fun e => by rw [e] at h; rw [first_nil.2] at h; cases h
 obtain ⟨_, a2, a3⟩ := first_some hn
 obtain ⟨i, h1, h2⟩ := (tset_mem S _).1 a2
 refine ⟨⟨i, h1, by rw [h2]⟩, fun k hk => ?_⟩
 have := a3 _ ((tset_mem S _).2 ⟨k, hk, rfl⟩)
 have := not_ahead.1 this
 have h' : ((firstT S.tset).1 < (S.os.getD k ord0).untl S.C) ∨ ((firstT S.tset).1 = (S.os.getD k ord0).untl S.C ∧ _) := this
 omega
theorem first_none {S : Sal} (h : firstB S.tset = false) (i : Nat) : ¬ S.knows i := fun hk => by
 have hn : S.tset ≠ [] := fun e => by
  have := (tset_mem S _).2 ⟨i, hk, rfl⟩
  rw [e] at this
  simp at this
 rw [(first_some hn).1] at h
 cases h
section
variable {S : Sal} {t : Int}
theorem stopAt.alive (h : stopAt S t) : ∀ o ∈ S.os, o.alive → t ≤ o.upto := fun o ho ha => by
 obtain ⟨k, hk, rfl⟩ := getD_of_mem ho
 have := h.min k ⟨hk, .inl ha⟩
 rwa [untl_alive ha] at this
theorem stopAt.later (h : stopAt S t) (hR : restS S) : S.now < t := by
 obtain ⟨i, h1, rfl⟩ := h.some
 exact knows_fut hR h1
theorem stop_todo (h : stopAt S t) (hR : restS S) (h0 : 0 ≤ S.now) : (S.round t).todo < S.todo := by
 have hl := (round_keeps S t).2.2.2
 have hm := h.alive
 have hn := h.later hR
 by_cases hx : ∃ o ∈ S.os, o.alive ∧ o.upto = t
 ·obtain ⟨o, ho, ha, hu⟩ := hx
  obtain ⟨i, hi, rfl⟩ := getD_of_mem ho
  have hp : ∀ o ∈ S.os, o.alive → 0 ≤ o.upto := fun o ho ha => by have := hR.fut o ho ha; omega
  obtain ⟨d1, d2⟩ := due_min S.os t hp S.os.length (Nat.le_refl _) i hi ha (by omega)
  obtain ⟨k, hk, hs, hku, _⟩ := due_one S.os t S.os.length (Nat.le_refl _) d1
  have := hm _ (ord_mem hk) hs.symm
  have e : S.due t = t := by unfold Sal.due; omega
  have hlt := round_lt (S := S) (to := t) (by omega)
  rw [e] at hlt
  have hks : (S.round t).kset.length ≤ S.os.length := by
   unfold Sal.kset
   refine Nat.le_trans (List.length_filter_le _ _) ?_
   rw [List.length_range, hl]
   exact Nat.le_refl _
  have h1 : (liveS (S.round t).os + 1) * (S.os.length + 1) ≤ liveS S.os * (S.os.length + 1) := Nat.mul_le_mul_right _ hlt
  rw [Nat.add_mul, Nat.one_mul] at h1
  unfold Sal.todo
  rw [hl]
  omega
 ·have hr := round_none (S := S) (t := t) hR.stable (fun o ho ha => by
   have := hm o ho ha
   have : o.upto ≠ t := fun e => hx ⟨o, ho, ha, e⟩
   omega)
  rw [hr]
  have hlt : ({ S with now := t } : Sal).kset.length < S.kset.length := by
   unfold Sal.kset
   refine filter_lt (fun i _ hi => ?_) ?_
   ·have hi' : ({ S with now := t } : Sal).knows i := by simpa using hi
    have := ((knows_at (by omega) i).1 hi').1
    simpa using this
   ·obtain ⟨i, h1, h2⟩ := h.some
    have hno : ¬ ({ S with now := t } : Sal).knows i := fun c => by
     rcases ((knows_at (by omega) i).1 c).2 with ha | ha
     ·exact hx ⟨_, ord_mem h1.1, ha, by rw [h2, untl_alive ha]⟩
     ·omega
    exact ⟨i, List.mem_range.2 h1.1, by simpa using h1, by simpa using hno⟩
  show liveS S.os * (S.os.length + 1) + _ < liveS S.os * (S.os.length + 1) + _
  omega
theorem answers_later (S : Sal) {t : Int} (h : S.now ≤ t) (T : Sal) (hn : T.now = t) (hC : T.C = S.C) (ha : T.ansL = S.ansL) : T.answers ≤ S.answers := by
 unfold Sal.answers
 rw [ha]
 have : ∀ l : List Ans, (l.filter T.remem).length ≤ (l.filter S.remem).length := by
  intro l
  induction l with
  | nil => simp
  | cons a l ih =>
    have hb : T.remem a = true → S.remem a = true := by
     unfold Sal.remem
     rw [hn, hC]
     simp only [decide_eq_true_eq]
     omega
    by_cases hq : T.remem a = true
    ·rw [List.filter_cons_of_pos hq, List.filter_cons_of_pos (hb hq)]; simpa using ih
    ·rw [List.filter_cons_of_neg hq]
     by_cases hp : S.remem a = true
     ·rw [List.filter_cons_of_pos hp]; simp; omega
     ·rw [List.filter_cons_of_neg hp]; exact ih
 exact this _
theorem pastN_qlen (S : Sal) (st en : Int) (hen : en ≠ 12) : ∀ n, n ≤ S.os.length → (queueS (pastN S st en n).os).length ≤ (queueS S.os).length
 | 0, _ => Nat.le_refl _
 | n + 1, hn => by
   have ih := pastN_qlen S st en hen n (by omega)
   unfold pastN
   split
   ·exact Nat.le_trans (ends_qlen (by rw [pastN_len]; omega) hen) ih
   ·exact ih
theorem past_qlen (S : Sal) (st en : Int) (hen : en ≠ 12) : (queueS (S.past st en).os).length ≤ (queueS S.os).length :=
 Nat.le_trans (promote_qlen _) (pastN_qlen S st en hen _ (Nat.le_refl _))
theorem round_restP (h : stopAt S t) (hR : restP S) : restP (S.round t) := by
 obtain ⟨a, b, c, d⟩ := round_keeps S t
 have hn := h.later hR.R
 have h1 := past_qlen ({ S with now := t } : Sal) 13 15 (by decide)
 have h2 := past_qlen (({ S with now := t } : Sal).past 13 15) 12 17 (by decide)
 refine ⟨round_rest hR.R h.alive, ?_, ?_⟩
 ·rw [a]
  have := hR.qlen
  have h3 : (queueS (S.round t).os).length ≤ (queueS S.os).length := Nat.le_trans h2 h1
  omega
 ·rw [a]
  have := answers_later S (t := t) (by omega) (S.round t) b a c
  have := hR.alen
  omega
theorem round_salJ (hJ : salJ S) (ht : 0 ≤ t ∧ t ≤ 4611686018427387904) : salJ (S.round t) := by
 obtain ⟨a, b, c, d⟩ := round_keeps S t
 refine ⟨past_inv (past_inv (salI_now hJ.I ht) 13 15 (by decide)) 12 17 (by decide), by rw [a]; exact hJ.cap, by rw [a]; exact hJ.queue, by rw [d]; exact hJ.len, by rw [c]; exact hJ.ats⟩
theorem last_knows {to : Int} (hto : S.now ≤ to) (h : ∀ i, S.knows i → to < (S.os.getD i ord0).untl S.C) : ({ S with now := to } : Sal).knows = S.knows := by
 funext i
 exact propext ((knows_at hto i).trans ⟨fun c => c.1, fun c => ⟨c, .inr (h i c)⟩⟩)
theorem last_tick {to : Int} (h : ∀ i, S.knows i → to < (S.os.getD i ord0).untl S.C) : S.tickTo to = { S with now := to } :=
 tick_stop (due_none (fun o ho ha => by
  obtain ⟨k, hk, rfl⟩ := getD_of_mem ho
  have := h k ⟨hk, .inl ha⟩
  rwa [untl_alive ha] at this))
theorem last_restP {to : Int} (hto : S.now ≤ to) (h : ∀ i, S.knows i → to < (S.os.getD i ord0).untl S.C) (hR : restP S) : restP ({ S with now := to } : Sal) := by
 refine ⟨⟨fun o ho ha => ?_, hR.R.stable, hR.R.lease, hR.R.wait, hR.R.keep, hR.R.tokens, hR.R.queue⟩, hR.qlen, ?_⟩
 ·obtain ⟨k, hk, rfl⟩ := getD_of_mem ho
  have := h k ⟨hk, .inl ha⟩
  rwa [untl_alive ha] at this
 ·have := answers_later S (t := to) hto ({ S with now := to } : Sal) rfl rfl rfl
  have := hR.alen
  show (_ : Int) ≤ S.C.tokens
  omega
theorem promoteN_get12 {k : Nat} : ∀ (n : Nat) (S : Sal), ((promoteN n S).os.getD k ord0).state = 12 → (promoteN n S).os.getD k ord0 = S.os.getD k ord0
 | 0, _, _ => rfl
 | n + 1, S, h => by
   unfold promoteN at h ⊢
   split
   ·rfl
   ·next q qs hq =>
    split
    ·rfl
    ·next hf =>
     rw [hq] at h
     simp only at h
     rw [if_neg hf] at h
     obtain ⟨_, hl, hs⟩ := queue_tail hq ord0 (by decide)
     have ih := promoteN_get12 n (S.holds q) h
     rw [ih] at h ⊢
     have hg : (S.holds q).os.getD k ord0 = if k = q then { S.os.getD q ord0 with state := 13, cents := (S.put q { S.os.getD q ord0 with state := 13 }).price, upto := S.now + S.C.lease } else S.os.getD k ord0 := getD_set _ hl
     rw [hg] at h ⊢
     by_cases e : k = q
     ·rw [if_pos e] at h; exact absurd h (by show ¬ (13 : Int) = 12; decide)
     ·rw [if_neg e]
theorem past_get12 {k : Nat} (S : Sal) (h : ((S.past 13 15).os.getD k ord0).state = 12) : (S.past 13 15).os.getD k ord0 = S.os.getD k ord0 := by
 unfold Sal.past at h ⊢
 have e := promoteN_get12 _ _ h
 have e' : (pastN S 13 15 S.os.length).promote.os.getD k ord0 = (pastN S 13 15 S.os.length).os.getD k ord0 := e
 rw [e'] at h ⊢
 rw [pastN_get S 13 15 _ (Nat.le_refl _)] at h ⊢
 split
 ·next hc => rw [if_pos hc] at h; exact absurd h (by show ¬ (15 : Int) = 12; decide)
 ·rfl
end
end
section
theorem least_of {p : Nat → Prop} (h : ∃ n, p n) : ∃ n, p n ∧ ∀ m, p m → n ≤ m := by
 obtain ⟨n, hn⟩ := h
 induction n using Nat.strongRecOn with
 | _ n ih =>
   by_cases hx : ∃ m, m < n ∧ p m
   ·obtain ⟨m, h1, h2⟩ := hx
    exact ih m h1 h2
   ·exact ⟨n, hn, fun m hm => Nat.le_of_not_lt (fun c => hx ⟨m, c, hm⟩)⟩
open Classical in
noncomputable def fuel (p : Nat → Prop) : Nat := if h : ∃ n, p n then Classical.choose (least_of h) else 0
theorem fuel_at {p : Nat → Prop} (h : ∃ n, p n) : p (fuel p) := by
 unfold fuel
 rw [dif_pos h]
 exact (Classical.choose_spec (least_of h)).1
theorem fuel_le {p : Nat → Prop} {n : Nat} (h : p n) : fuel p ≤ n := by
 unfold fuel
 rw [dif_pos ⟨n, h⟩]
 exact (Classical.choose_spec (least_of ⟨n, h⟩)).2 n h
theorem hold_w (x : Nat) (own : Nat → Prop) (P P' : World → (Nat → Prop) → Prop) (KP : Keeps P) (KP' : Keeps P') (num cust units st cents up c up' : Int) (w : World) (hw : ∀ k, own k → k < w.heap.size) (h : P w own)
 (HP : Hid (doesP w own 2 P P 162 #[pt x 0] (iv c)))
 (HM : Hid (doesP w own 2 P P' 129 #[pt x 0, .agg #[iv num, iv cust, iv units, iv st, iv c, iv up], iv 13] (.agg #[iv num, iv cust, iv units, iv 13, iv c, iv up']))) :
 Calls Tryz.prog 136 #[pt x 0, .agg #[iv num, iv cust, iv units, iv st, iv cents, iv up]] w fun e w' => e = .returned (.agg #[iv num, iv cust, iv units, iv 13, iv c, iv up']) ∧ ansP P' w w' own := by
 go_enter Tryz.func136, Tryz.ntmps136
 have hT0 : Hid (seenT P w own 2 ((w.alloc (.cells #[iv num, iv cust, iv units, iv st, iv cents, iv up] 142)).alloc (.cells #[iv 0, iv 0, iv 0, iv 0, iv 0, iv 0] 142))) := seen_start KP h (((Below.refl _ _).alloc (Nat.le_refl _) _).alloc (by simp) _) (by simp)
 have ob0 : Hid (((w.alloc (.cells #[iv num, iv cust, iv units, iv st, iv cents, iv up] 142)).alloc (.cells #[iv 0, iv 0, iv 0, iv 0, iv 0, iv 0] 142)).heap[w.heap.size]? = some (.cells #[iv num, iv cust, iv units, iv st, iv cents, iv up] 142 (0, 0))) := (Below.heap_alloc _ _ _ (by simp)).trans (heap_alloc_new w _)
 have rb0 : Hid (((w.alloc (.cells #[iv num, iv cust, iv units, iv st, iv cents, iv up] 142)).alloc (.cells #[iv 0, iv 0, iv 0, iv 0, iv 0, iv 0] 142)).heap[w.heap.size + 1]? = some (.cells #[iv 0, iv 0, iv 0, iv 0, iv 0, iv 0] 142 (0, 0))) := by
  have h := heap_alloc_new (w.alloc (.cells #[iv num, iv cust, iv units, iv st, iv cents, iv up] 142)) (.cells #[iv 0, iv 0, iv 0, iv 0, iv 0, iv 0] 142)
  rwa [show (w.alloc (.cells #[iv num, iv cust, iv units, iv st, iv cents, iv up] 142)).heap.size = w.heap.size + 1 by simp] at h
 clear h
 go_wp2_with fail
 generalize (w.alloc (.cells #[iv num, iv cust, iv units, iv st, iv cents, iv up] 142)).alloc (.cells #[iv 0, iv 0, iv 0, iv 0, iv 0, iv 0] 142) = W0 at hT0 ob0 rb0 ⊢
 refine (HP.out _ hT0.out).mono ?_
 rintro e W1 ⟨rfl, hT1, hk⟩
 have ob1 : Hid (W1.heap[w.heap.size]? = some (.cells #[iv num, iv cust, iv units, iv st, iv cents, iv up] 142 (0, 0))) := (hk _ (Nat.le_refl _) (by omega)).trans ob0.out
 have rb1 : Hid (W1.heap[w.heap.size + 1]? = some (.cells #[iv 0, iv 0, iv 0, iv 0, iv 0, iv 0] 142 (0, 0))) := (hk _ (by omega) (by omega)).trans rb0.out
 clear hk hT0 ob0 rb0
 obtain ⟨s0, s1, s2, s3, s4, s5⟩ := six_cells ob1.out
 have f4 := row_free ob1.out 4
 have hT2 : Hid (seenT P w own 2 (W1.setCell (aq w.heap.size 4) (iv c))) := seen_set KP hT1 hw (Nat.le_refl _) (by omega) _
 have rb2 : Hid ((W1.setCell (aq w.heap.size 4) (iv c)).heap[w.heap.size + 1]? = some (.cells #[iv 0, iv 0, iv 0, iv 0, iv 0, iv 0] 142 (0, 0))) := (Below.heap_setCell _ (aq w.heap.size 4) _ _ (by show w.heap.size + 1 ≠ w.heap.size; omega)).trans rb1.out
 have lw1 : w.heap.size < W1.heap.size := (blt ob1.out)
 have lv1 : w.heap.size + 1 < W1.heap.size := (blt rb1.out)
 clear ob1 rb1 hT1
 go_wp2_with fail
 refine (HM.out _ hT2.out).mono ?_
 rintro e W2 ⟨rfl, hT3, hk⟩
 have rb3 : Hid (W2.heap[w.heap.size + 1]? = some (.cells #[iv 0, iv 0, iv 0, iv 0, iv 0, iv 0] 142 (0, 0))) := (hk _ (by omega) (by omega)).trans rb2.out
 have lv2 : w.heap.size + 1 < W2.heap.size := (blt rb3.out)
 have HE : Hid (∀ v0 v1 v2 v3 v4 v5, ansP P' w ((((((W2.setCell (aq (w.heap.size + 1) 0) v0).setCell (aq (w.heap.size + 1) 1) v1).setCell (aq (w.heap.size + 1) 2) v2).setCell (aq (w.heap.size + 1) 3) v3).setCell (aq (w.heap.size + 1) 4) v4).setCell (aq (w.heap.size + 1) 5) v5) own) := fun v0 v1 v2 v3 v4 v5 => seen_end (seen_set6 KP' hT3 hw (by omega) (by omega) v0 v1 v2 v3 v4 v5)
 have g0 := row_free rb3.out 0
 have g1 := row_free rb3.out 1
 have g2 := row_free rb3.out 2
 have g3 := row_free rb3.out 3
 have g4 := row_free rb3.out 4
 have g5 := row_free rb3.out 5
 obtain ⟨r0, r1, r2, r3, r4, r5⟩ := six_cells rb3.out
 clear hk hT2 rb2 hT3 s0 s1 s2 s3 s4 s5 f4
 go_wp2
 refine bodyPost_ret (v := .agg #[iv num, iv cust, iv units, iv 13, iv c, iv up']) (by simp [results, Tryz.results136, go_sem, r0, r1, r2, r3, r4, r5]) rfl ⟨rfl, ?_⟩
 exact HE.out _ _ _ _ _ _
theorem firstQ_no (x : Nat) (n : Int) (w : World)
 (HF : Hid (∀ W, Below w.heap.size w W → Calls Tryz.prog 161 #[pt x 15] W fun e w' => e = .returned (.tuple #[iv n, .bool false]) ∧ Below W.heap.size W w')) :
 Calls Tryz.prog 135 #[pt x 0] w fun e w' => e = .returned (.tuple #[.agg #[iv 0, iv 0, iv 0, iv 0, iv 0, iv 0], .bool false]) ∧ Below w.heap.size w w' := by
 go_enter Tryz.func135, Tryz.ntmps135
 go_wp2_with fail
 refine (HF.out _ ((Below.refl _ _).alloc (Nat.le_refl _) _)).mono ?_
 rintro e w1 ⟨rfl, b1⟩
 have n1 : w1.heap[w.heap.size]? = some (.cells #[iv 0, iv 0, iv 0, iv 0, iv 0, iv 0] 142 (0, 0)) := (b1.block _ (by simp)).trans (heap_alloc_new w _)
 have hb1 : Below w.heap.size w w1 := Below.trans ((Below.refl _ _).alloc (Nat.le_refl _) _) (b1.mono (by simp))
 have z1 : w.heap.size < w1.heap.size := (blt n1)
 obtain ⟨s0, s1, s2, s3, s4, s5⟩ := six_cells n1
 have f0 := row_free n1 0
 have f1 := row_free n1 1
 have f2 := row_free n1 2
 have f3 := row_free n1 3
 have f4 := row_free n1 4
 have f5 := row_free n1 5
 clear b1 n1
 go_wp2
 refine bodyPost_ret (v := .tuple #[.agg #[iv 0, iv 0, iv 0, iv 0, iv 0, iv 0], .bool false]) (by simp [results, Tryz.results135, go_sem, s0, s1, s2, s3, s4, s5]) rfl ⟨rfl, ?_⟩
 exact below_set6 hb1 (Nat.le_refl _)
theorem firstQ_yes (x : Nat) (n num cust units st cents up : Int) (w : World)
 (HF : Hid (∀ W, Below w.heap.size w W → Calls Tryz.prog 161 #[pt x 15] W fun e w' => e = .returned (.tuple #[iv n, .bool true]) ∧ Below W.heap.size W w'))
 (HG : Hid (∀ W, Below w.heap.size w W → Calls Tryz.prog 95 #[pt x 11, iv n] W fun e w' => e = .returned (.tuple #[.agg #[iv num, iv cust, iv units, iv st, iv cents, iv up], .bool true]) ∧ Below W.heap.size W w')) :
 Calls Tryz.prog 135 #[pt x 0] w fun e w' => e = .returned (.tuple #[.agg #[iv num, iv cust, iv units, iv st, iv cents, iv up], .bool true]) ∧ Below w.heap.size w w' := by
 go_enter Tryz.func135, Tryz.ntmps135
 go_wp2_with fail
 refine (HF.out _ ((Below.refl _ _).alloc (Nat.le_refl _) _)).mono ?_
 rintro e w1 ⟨rfl, b1⟩
 have n1 : w1.heap[w.heap.size]? = some (.cells #[iv 0, iv 0, iv 0, iv 0, iv 0, iv 0] 142 (0, 0)) := (b1.block _ (by simp)).trans (heap_alloc_new w _)
 have hb1 : Below w.heap.size w w1 := Below.trans ((Below.refl _ _).alloc (Nat.le_refl _) _) (b1.mono (by simp))
 have z1 : w.heap.size < w1.heap.size := (blt n1)
 clear b1
 go_wp2_with fail
 refine (HG.out _ hb1).mono ?_
 rintro e w2 ⟨rfl, b2⟩
 have n2 := (b2.block _ z1).trans n1
 have hb2 : Below w.heap.size w w2 := Below.trans hb1 (b2.mono hb1.size)
 have z2 : w.heap.size < w2.heap.size := (blt n2)
 obtain ⟨s0, s1, s2, s3, s4, s5⟩ := six_cells n2
 have f0 := row_free n2 0
 have f1 := row_free n2 1
 have f2 := row_free n2 2
 have f3 := row_free n2 3
 have f4 := row_free n2 4
 have f5 := row_free n2 5
 clear b2 n2 n1 HF HG
 go_wp2
 refine bodyPost_ret (v := .tuple #[.agg #[iv num, iv cust, iv units, iv st, iv cents, iv up], .bool true]) (by simp [results, Tryz.results135, go_sem, s0, s1, s2, s3, s4, s5]) rfl ⟨rfl, ?_⟩
 exact below_set6 hb2 (Nat.le_refl _)
theorem greatQ_no (x : Nat) (n : Int) (w : World)
 (HF : Hid (∀ W, Below w.heap.size w W → Calls Tryz.prog 168 #[pt x 15] W fun e w' => e = .returned (.tuple #[iv n, .bool false]) ∧ Below W.heap.size W w')) :
 Calls Tryz.prog 157 #[pt x 0] w fun e w' => e = .returned (.tuple #[.agg #[iv 0, iv 0, iv 0, iv 0, iv 0, iv 0], .bool false]) ∧ Below w.heap.size w w' := by
 go_enter Tryz.func157, Tryz.ntmps157
 go_wp2_with fail
 refine (HF.out _ ((Below.refl _ _).alloc (Nat.le_refl _) _)).mono ?_
 rintro e w1 ⟨rfl, b1⟩
 have n1 : w1.heap[w.heap.size]? = some (.cells #[iv 0, iv 0, iv 0, iv 0, iv 0, iv 0] 142 (0, 0)) := (b1.block _ (by simp)).trans (heap_alloc_new w _)
 have hb1 : Below w.heap.size w w1 := Below.trans ((Below.refl _ _).alloc (Nat.le_refl _) _) (b1.mono (by simp))
 have z1 : w.heap.size < w1.heap.size := (blt n1)
 obtain ⟨s0, s1, s2, s3, s4, s5⟩ := six_cells n1
 have f0 := row_free n1 0
 have f1 := row_free n1 1
 have f2 := row_free n1 2
 have f3 := row_free n1 3
 have f4 := row_free n1 4
 have f5 := row_free n1 5
 clear b1 n1
 go_wp2
 refine bodyPost_ret (v := .tuple #[.agg #[iv 0, iv 0, iv 0, iv 0, iv 0, iv 0], .bool false]) (by simp [results, Tryz.results157, go_sem, s0, s1, s2, s3, s4, s5]) rfl ⟨rfl, ?_⟩
 exact below_set6 hb1 (Nat.le_refl _)
theorem greatQ_yes (x : Nat) (n num cust units st cents up : Int) (w : World)
 (HF : Hid (∀ W, Below w.heap.size w W → Calls Tryz.prog 168 #[pt x 15] W fun e w' => e = .returned (.tuple #[iv n, .bool true]) ∧ Below W.heap.size W w'))
 (HG : Hid (∀ W, Below w.heap.size w W → Calls Tryz.prog 95 #[pt x 11, iv n] W fun e w' => e = .returned (.tuple #[.agg #[iv num, iv cust, iv units, iv st, iv cents, iv up], .bool true]) ∧ Below W.heap.size W w')) :
 Calls Tryz.prog 157 #[pt x 0] w fun e w' => e = .returned (.tuple #[.agg #[iv num, iv cust, iv units, iv st, iv cents, iv up], .bool true]) ∧ Below w.heap.size w w' := by
 go_enter Tryz.func157, Tryz.ntmps157
 go_wp2_with fail
 refine (HF.out _ ((Below.refl _ _).alloc (Nat.le_refl _) _)).mono ?_
 rintro e w1 ⟨rfl, b1⟩
 have n1 : w1.heap[w.heap.size]? = some (.cells #[iv 0, iv 0, iv 0, iv 0, iv 0, iv 0] 142 (0, 0)) := (b1.block _ (by simp)).trans (heap_alloc_new w _)
 have hb1 : Below w.heap.size w w1 := Below.trans ((Below.refl _ _).alloc (Nat.le_refl _) _) (b1.mono (by simp))
 have z1 : w.heap.size < w1.heap.size := (blt n1)
 clear b1
 go_wp2_with fail
 refine (HG.out _ hb1).mono ?_
 rintro e w2 ⟨rfl, b2⟩
 have n2 := (b2.block _ z1).trans n1
 have hb2 : Below w.heap.size w w2 := Below.trans hb1 (b2.mono hb1.size)
 have z2 : w.heap.size < w2.heap.size := (blt n2)
 obtain ⟨s0, s1, s2, s3, s4, s5⟩ := six_cells n2
 have f0 := row_free n2 0
 have f1 := row_free n2 1
 have f2 := row_free n2 2
 have f3 := row_free n2 3
 have f4 := row_free n2 4
 have f5 := row_free n2 5
 clear b2 n2 n1 HF HG
 go_wp2
 refine bodyPost_ret (v := .tuple #[.agg #[iv num, iv cust, iv units, iv st, iv cents, iv up], .bool true]) (by simp [results, Tryz.results157, go_sem, s0, s1, s2, s3, s4, s5]) rfl ⟨rfl, ?_⟩
 exact below_set6 hb2 (Nat.le_refl _)
end
end Go.Proofs.YtfhncfghblkgeabGreat
