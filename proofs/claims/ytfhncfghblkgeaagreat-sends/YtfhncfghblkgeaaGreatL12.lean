import Derived.Test.YtfhncfghblkgeaaGreatL08
import Derived.Test.YtfhncfghblkgeaaGreatL10
import Derived.Test.YtfhncfghblkgeaaGreatL11
set_option maxRecDepth 100000
set_option maxHeartbeats 2000000
namespace Go.Proofs.YtfhncfghblkgeaaGreat
open Go.RowKit
section
def Sal.confirm (S : Sal) (r : Req) : Rep × Sal := match findS S.os r.cust r.order with
 | none => (⟨9, 0, 0, 0⟩, S)
 | some i => if (S.os.getD i ord0).state ≠ 13 then (⟨9, 0, 0, 0⟩, S) else
   (⟨7, r.order, ((drainS (S.ends i 14) (queueS (S.ends i 14).os)).promote.os.getD i ord0).units * ((drainS (S.ends i 14) (queueS (S.ends i 14).os)).promote.os.getD i ord0).cents, 0⟩, (drainS (S.ends i 14) (queueS (S.ends i 14).os)).promote)
theorem drain_inv {n : Nat} : ∀ (qs : List Nat) (S : Sal), salI S → S.os.length = n → (∀ q ∈ qs, q < n) → salI (drainS S qs) ∧ (drainS S qs).os.length = n
 | [], S, h, hn, _ => ⟨h, hn⟩
 | q :: qs, S, h, hn, hq => by
   have hq' : ∀ q ∈ qs, q < n := fun x hx => hq x (List.mem_cons_of_mem _ hx)
   have e : drainS S (q :: qs) = drainS (if S.left < (S.os.getD q ord0).units then S.ends q 18 else S) qs := rfl
   rw [e]
   split
   ·exact drain_inv qs _ (salI_end h (by rw [hn]; exact hq q List.mem_cons_self) 18 (.inr (by decide)) (fun e => by cases e)) ((ends_len S q 18).trans hn) hq'
   ·exact drain_inv qs _ h hn hq'
theorem promoteN_inv : ∀ (n : Nat) (S : Sal), salI S → salI (promoteN n S)
 | 0, _, h => h
 | n + 1, S, h => by
   unfold promoteN
   split
   ·exact h
   ·next q qs hq =>
    split
    ·exact h
    ·next hf =>
     obtain ⟨_, hql, hqw⟩ := queue_tail hq ord0 (by decide)
     exact promoteN_inv n _ (salI_hold h hql hqw hf _ rfl rfl rfl ⟨priceT_bounds h.prices _ _ (Nat.le_refl _), (h.ords _ (ord_mem hql)).2⟩)
theorem promote_inv (S : Sal) (h : salI S) : salI S.promote := promoteN_inv _ S h
section
variable {w w' : World} {B R : Nat} {S : Sal} {ap : Option Addr} {lp cp : Nat} {vo va : Value}
theorem saleAns_then {W' : World} {n : Nat} (h : saleAns w w' B R S ap lp cp vo va n) (hb : Below w'.heap.size w' W') : saleAns w W' B R S ap lp cp vo va n :=
 ⟨saleAt_below h.1 hb, h.2.1, h.2.2.1, Same.trans h.2.2.2 (Same.of_below (own := fun _ => False) hb) (fun _ _ e => e.elim id False.elim)⟩
theorem mul_bounds {a b : Int} (ha : 1 ≤ a ∧ a ≤ 4294967296) (hb : 0 ≤ b ∧ b ≤ 1073741824) : 0 ≤ a * b ∧ a * b ≤ 4611686018427387904 := by
 have h1 : 0 ≤ a * b := Int.mul_nonneg (by omega) hb.1
 have h2 : a * b ≤ 4294967296 * 1073741824 := Int.mul_le_mul ha.2 hb.2 hb.1 (by omega)
 exact ⟨h1, by simpa using h2⟩
theorem rconfirm_sale (h : saleAt w B R S ap lp cp vo va) (hI : salI S) (hl : S.os.length * 48 + 48 ≤ 140737488351232) (r : Req) (ho : 1 ≤ r.order ∧ r.order ≤ 4294967296) :
 Calls Tryz.prog 149 #[pt R 0, r.val] w fun e w' => e = .returned (S.confirm r).1.val ∧ saleAns w w' B R (S.confirm r).2 ap lp cp vo va S.os.length := by
 have HF := rfind_sale h hl r ho
 unfold Sal.confirm
 cases hf : findS S.os r.cust r.order with
 | none =>
   rw [hf] at HF
   exact (rconfirm_none R r w HF).mono (by rintro e w' ⟨rfl, hb⟩; exact ⟨rfl, saleAns_below h hI hb⟩)
 | some i =>
   rw [hf] at HF
   obtain ⟨hi, _, _⟩ := find_lt ho.1 hf
   obtain ⟨g, cap, hvo, hgw, _, _, hoc, _⟩ := ord_in h hi
   obtain ⟨_, _, _, _, _, _, _, _, _, c9, _⟩ := cells11 h.blk
   rw [hvo] at c9
   simp only
   have hown : ∀ b, vo.ownBlock = some b ↔ b = g := fun b => by rw [hvo]; simp [Value.ownBlock]; exact eq_comm
   by_cases hs : (S.os.getD i ord0).state ≠ 13
   ·rw [if_pos hs]
    exact (rconfirm_gone R g cap _ i r w c9 hi _ hoc.2.2.1 hgw hs HF).mono (by rintro e w' ⟨rfl, hb⟩; exact ⟨rfl, saleAns_below h hI hb⟩)
   ·rw [if_neg hs]
    have hs' : (S.os.getD i ord0).state = 13 := Classical.byContradiction hs
    have hI1 : salI (S.ends i 14) := salI_end hI hi 14 (.inl rfl) (fun _ => hs')
    have hn1 := ends_len S i 14
    generalize hS1 : S.ends i 14 = S1 at hI1 hn1 ⊢
    have hqs : ∀ q ∈ queueS S1.os, q < S.os.length := fun q hq => by have := queueT_lt S1.os _ q hq; omega
    have hql : (queueS S1.os).length * 48 ≤ 140737488351232 := by have := queueT_len S1.os S1.os.length; unfold queueS; omega
    generalize hqe : queueS S1.os = qs at hqs hql ⊢
    have hD : ∀ k, salI (drainS S1 (qs.take k)) ∧ (drainS S1 (qs.take k)).os.length = S.os.length := fun k => drain_inv (qs.take k) S1 hI1 hn1 (fun q hq => hqs q (List.mem_of_mem_take hq))
    have hDa : drainS S1 (qs.take qs.length) = drainS S1 qs := by rw [List.take_length]
    have same_g : ∀ {x y : World}, Same (fun b => vo.ownBlock = some b) x y → Same (fun b => b = g) x y := fun a => ⟨a.os, a.tape, a.output, a.size, fun k hk hn => a.block k hk (fun c => hn ((hown k).1 c))⟩
    have hP : ∀ W, saleAns w W B R (drainS S1 qs) ap lp cp vo va S.os.length → Calls Tryz.prog 153 #[pt R 0] W fun e w' => e = .returned (.tuple #[]) ∧ saleAns w w' B R (drainS S1 qs).promote ap lp cp vo va S.os.length ∧ Same (fun b => b = g) W w' := fun W hW => by
     obtain ⟨b1, b2, b3, b4⟩ := hW
     refine (rpromote_walk B R _ ap lp cp vo va W b1 b2 (by rw [b3]; exact hl)).mono ?_
     rintro e w' ⟨rfl, a1, a2, a3⟩
     exact ⟨rfl, ⟨a1, a2, (promote_len _).trans b3, Same.trans b4 a3 (fun k _ e => e.elim id id)⟩, same_g a3⟩
    have hPI : salI (drainS S1 qs).promote := promote_inv (drainS S1 qs) (hDa ▸ (hD qs.length).1)
    have hPl : (drainS S1 qs).promote.os.length = S.os.length := (promote_len _).trans (hDa ▸ (hD qs.length).2)
    have hPm := ord_mem (os := (drainS S1 qs).promote.os) (i := i) (by omega)
    refine rconfirm_go R g cap _ i r w c9 hi _ hoc.2.2.1 hgw hs' qs hqs hql _
     (fun W => saleAns w W B R S1 ap lp cp vo va S.os.length)
     (fun k W => saleAns w W B R (drainS S1 (qs.take k)) ap lp cp vo va S.os.length)
     (fun W => saleAns w W B R (drainS S1 qs).promote ap lp cp vo va S.os.length) _
     (fun k => (drainS S1 (qs.take k)).left) (fun k => ((drainS S1 (qs.take k)).os.getD (qs.getD k 0) ord0).units)
     HF (fun W hb => ?_) (fun W hW => ?_) (fun W W' hW hb => saleAns_then hW hb) (fun k W W' hW hb => saleAns_then hW hb) (fun k W hW => ?_) (fun k W hW => ?_) (fun k W hk hd hW => ?_) (fun k W hk hd hW => ?_) (fun W hW => ?_) (mul_bounds (hPI.units _ hPm) (hPI.ords _ hPm).1) (fun W W' hW hs => saleAns_fresh h (by omega) hW hs)
    ·refine (rends_sale (saleAt_below h hb) hi 14 W (Below.refl _ _)).mono ?_
     rintro e w' ⟨rfl, a1, a2⟩
     rw [hS1] at a1
     exact ⟨rfl, ⟨a1, hI1, hn1, Same.trans (Same.of_below (own := fun _ => False) hb) a2 (fun k _ e => e.elim False.elim id)⟩, same_g a2⟩
    ·have := rqueue_sale hW.1 (hI1.N (by rw [hn1]; exact hl)) W (Below.refl _ _)
     rw [hqe] at this
     exact this
    ·obtain ⟨_, _, _, _, _, _, _, _, _, x9, _⟩ := cells11 hW.1.blk
     rw [hvo] at x9
     have hz := hW.2.2.2.size
     refine ⟨x9, World.block_lt_of_cell? W _ x9, by omega, fun hk => ?_⟩
     have hq : qs.getD k 0 < (drainS S1 (qs.take k)).os.length := by
        have e : qs.getD k 0 = qs[k] := by simp [List.getD, List.getElem?_eq_getElem hk]
        rw [(hD k).2, e]
        exact hqs _ (List.getElem_mem hk)
     obtain ⟨g', cap', hvo', _, _, _, ho', _⟩ := ord_in hW.1 hq
     rw [hvo] at hvo'
     simp at hvo'
     rw [← hvo'.1] at ho'
     exact ho'.2.1
    ·exact rleft_sale hW.1 ((hD k).1.N (by rw [(hD k).2]; exact hl)) W (Below.refl _ _)
    ·have hq : qs.getD k 0 < (drainS S1 (qs.take k)).os.length := by
        have e : qs.getD k 0 = qs[k] := by simp [List.getD, List.getElem?_eq_getElem hk]
        rw [(hD k).2, e]
        exact hqs _ (List.getElem_mem hk)
     refine (rends_sale hW.1 hq 18 W (Below.refl _ _)).mono ?_
     rintro e w' ⟨rfl, a1, a2⟩
     have e := drain_take S1 qs hk
     rw [if_pos hd] at e
     rw [← e] at a1
     exact ⟨rfl, ⟨a1, (hD _).1, (hD _).2, Same.trans hW.2.2.2 a2 (fun k _ e => e.elim id id)⟩, same_g a2⟩
    ·have e := drain_take S1 qs hk
     rw [if_neg (by omega)] at e
     rw [e]
     exact hW
    ·rw [hDa] at hW
     refine (hP W hW).mono ?_
     rintro e w' ⟨rfl, a1, a2⟩
     obtain ⟨_, _, _, _, _, _, _, _, _, x9, _⟩ := cells11 a1.1.blk
     rw [hvo] at x9
     obtain ⟨g', cap', hvo', hg', _, _, ho', _⟩ := ord_in a1.1 (i := i) (by omega)
     rw [hvo] at hvo'
     simp at hvo'
     rw [← hvo'.1] at ho' hg'
     exact ⟨rfl, a1, a2, _, _, x9, ho'.2.1, ho'.2.2.2.1, rfl, World.block_lt_of_cell? w' _ x9, hg'⟩
end
end
def dry (left now : Int) (o : Ord) : Ord := if o.state = 12 ∧ left < o.units then { o with state := 18, ended := now } else o
def Sal.drained (S : Sal) : Sal := { S with os := S.os.map (dry S.left S.now) }
theorem ends_left {S : Sal} {q : Nat} (hq : q < S.os.length) (hw : (S.os.getD q ord0).state = 12) : (S.ends q 18).left = S.left := by
 show S.C.stock - unitsS (S.os.set q _) 14 0 = S.C.stock - unitsS S.os 14 0
 rw [units_set hq]
 have h1 : (S.os.getD q ord0).part 14 0 = 0 := by
  generalize S.os.getD q ord0 = p at hw
  simp [Ord.part, Ord.is, hw]
 have h2 : ({ S.os.getD q ord0 with state := 18, ended := S.now } : Ord).part 14 0 = 0 := by simp [Ord.part, Ord.is]
 omega
theorem drained_step {S : Sal} {q : Nat} (hq : q < S.os.length) (hw : (S.os.getD q ord0).state = 12) (hu : S.left < (S.os.getD q ord0).units) : (S.ends q 18).drained = S.drained := by
 have hl := ends_left hq hw
 unfold Sal.drained
 rw [hl]
 have hn : (S.ends q 18).now = S.now := rfl
 rw [hn]
 have he : (S.ends q 18).os.map (dry S.left S.now) = S.os.map (dry S.left S.now) := by
  apply List.ext_getElem?
  intro i
  show ((S.os.set q { S.os.getD q ord0 with state := 18, ended := S.now }).map (dry S.left S.now))[i]? = _
  rw [List.getElem?_map, List.getElem?_map, List.getElem?_set]
  by_cases e : q = i
  ·subst e
   rw [if_pos rfl, if_pos hq]
   have e1 : S.os[q]? = some (S.os.getD q ord0) := by simp [List.getD, List.getElem?_eq_getElem hq]
   rw [e1]
   simp only [Option.map_some, Option.some.injEq]
   generalize S.os.getD q ord0 = p at hw hu
   show dry S.left S.now { p with state := 18, ended := S.now } = dry S.left S.now p
   unfold dry
   rw [if_neg (fun c => by have := c.1; simp at this), if_pos ⟨hw, hu⟩]
  ·rw [if_neg e]
 rw [he]
 rfl
theorem drained_stop {S : Sal} (h : ∀ o ∈ S.os, o.state = 12 → o.units ≤ S.left) : S.drained = S := by
 unfold Sal.drained
 have : S.os.map (dry S.left S.now) = S.os := by
  conv => rhs; rw [← List.map_id S.os]
  apply List.map_congr_left
  intro o ho
  unfold dry
  rw [if_neg (fun c => by have := h o ho c.1; have := c.2; omega)]
  rfl
 rw [this]
theorem drainS_all : ∀ (qs : List Nat) (S : Sal), qs.Nodup → (∀ q ∈ qs, q < S.os.length ∧ (S.os.getD q ord0).state = 12) → (∀ i, i < S.os.length → i ∉ qs → (S.os.getD i ord0).state = 12 → (S.os.getD i ord0).units ≤ S.left) → drainS S qs = S.drained
 | [], S, _, _, h => by
   refine (drained_stop (fun o ho hs => ?_)).symm
   obtain ⟨i, hi, rfl⟩ := List.getElem_of_mem ho
   have hi' : i < S.os.length := hi
   have e : S.os.getD i ord0 = S.os[i]'hi' := by simp [List.getD, List.getElem?_eq_getElem hi']
   have := h i hi' (by simp)
   rw [e] at this
   exact this hs
 | q :: qs, S, hn, hq, h => by
   obtain ⟨hq1, hq2⟩ := hq q List.mem_cons_self
   obtain ⟨hn1, hn2⟩ := List.nodup_cons.1 hn
   have e : drainS S (q :: qs) = drainS (if S.left < (S.os.getD q ord0).units then S.ends q 18 else S) qs := rfl
   rw [e]
   by_cases hu : S.left < (S.os.getD q ord0).units
   ·rw [if_pos hu, ← drained_step hq1 hq2 hu]
    have ha : ∀ i, ((S.ends q 18).os.getD i ord0) = if i = q then { S.os.getD q ord0 with state := 18, ended := S.now } else S.os.getD i ord0 := fun i => getD_set _ hq1
    refine drainS_all qs _ hn2 (fun x hx => ?_) (fun i hi hx hs => ?_)
    ·obtain ⟨a, b⟩ := hq x (List.mem_cons_of_mem _ hx)
     refine ⟨by rw [ends_len]; exact a, ?_⟩
     rw [ha, if_neg (by rintro rfl; exact hn1 hx)]
     exact b
    ·rw [ends_left hq1 hq2]
     rw [ha] at hs ⊢
     by_cases e : i = q
     ·rw [if_pos e] at hs; cases hs
     ·rw [if_neg e] at hs ⊢
      exact h i (by rw [ends_len] at hi; exact hi) (fun c => (List.mem_cons.1 c).elim e hx) hs
   ·rw [if_neg hu]
    refine drainS_all qs _ hn2 (fun x hx => hq x (List.mem_cons_of_mem _ hx)) (fun i hi hx hs => ?_)
    by_cases e : i = q
    ·subst e; omega
    ·exact h i hi (fun c => (List.mem_cons.1 c).elim e hx) hs
theorem drainS_queue (S : Sal) : drainS S (queueS S.os) = S.drained := by
 refine drainS_all _ S ?_ (fun q hq => (queueT_mem S.os _ q).1 hq) (fun i hi hx hs => absurd ((queueT_mem S.os _ i).2 ⟨hi, hs⟩) hx)
 exact (queueT_sorted S.os _).imp (fun h => by omega)
theorem mem_ins {l : List Ent} {k : Int × Int} {v : Int} {e : Ent} : e ∈ insS k v l ↔ e = (k, v) ∨ (e ∈ l ∧ e.1 ≠ k) := by
 unfold insS
 rw [List.mem_append, List.mem_cons, List.mem_filter, List.mem_filter]
 constructor
 ·rintro (⟨h1, h2⟩ | h | ⟨h1, h2⟩)
  ·exact .inr ⟨h1, ahead_ne h2⟩
  ·exact .inl h
  ·exact .inr ⟨h1, (ahead_ne h2).symm⟩
 ·rintro (h | ⟨h1, h2⟩)
  ·exact .inr (.inl h)
  ·cases ha : aheadB e.1 k
   ·cases hb : aheadB k e.1
    ·exact absurd (ahead_eq ha hb) h2
    ·exact .inr (.inr ⟨h1, rfl⟩)
   ·exact .inl ⟨h1, rfl⟩
theorem mem_del {l : List Ent} {k : Int × Int} {e : Ent} : e ∈ delS k l ↔ e ∈ l ∧ e.1 ≠ k := by
 unfold delS
 rw [List.mem_filter]
 simp
theorem srt_key {l : List Ent} (hs : srt l) {x y : Ent} (hx : x ∈ l) (hy : y ∈ l) (h : x.1 = y.1) : x = y := by
 induction l with
 | nil => simp at hx
 | cons a l ih =>
   obtain ⟨h1, h2⟩ := List.pairwise_cons.1 hs
   rcases List.mem_cons.1 hx with e1 | hx' <;> rcases List.mem_cons.1 hy with e2 | hy'
   ·rw [e1, e2]
   ·rw [e1] at h; exact absurd h (ahead_ne (h1 _ hy'))
   ·rw [e2] at h; exact absurd h.symm (ahead_ne (h1 _ hx'))
   ·exact ih h2 hx' hy'
theorem get_iff {l : List Ent} (hs : srt l) {k : Int × Int} {v : Int} : getS k l = some v ↔ (k, v) ∈ l := by
 constructor
 ·exact get_some
 ·intro h
  cases hg : getS k l with
  | none => exact absurd rfl (get_none.1 hg _ h)
  | some u =>
    have := srt_key hs (get_some hg) h rfl
    simp only [Prod.mk.injEq, true_and] at this
    rw [this]
theorem ins_len {l : List Ent} {k : Int × Int} {v : Int} (h : getS k l = none) : (insS k v l).length = l.length + 1 := (ins_perm h).length_eq.trans (by simp)
theorem ins_len_old {l : List Ent} (hs : srt l) {k : Int × Int} {v u : Int} (h : getS k l = some u) : (insS k v l).length = l.length := by
 obtain ⟨A, B, e⟩ := List.append_of_mem (get_some h)
 subst e
 rw [ins_here hs rfl]
 simp
theorem del_len {l : List Ent} (hs : srt l) {k : Int × Int} {u : Int} (h : getS k l = some u) : (delS k l).length + 1 = l.length := by
 obtain ⟨A, B, e⟩ := List.append_of_mem (get_some h)
 subst e
 rw [del_here hs rfl]
 simp; omega
theorem srt_head {l : List Ent} (hs : srt l) {x : Ent} (hx : x ∈ l) (hmin : ∀ y ∈ l, y ≠ x → aheadB x.1 y.1 = true) : l.headD ((0, 0), 0) = x := by
 cases l with
 | nil => simp at hx
 | cons a l =>
   obtain ⟨h1, _⟩ := List.pairwise_cons.1 hs
   show a = x
   rcases List.mem_cons.1 hx with e | hx
   ·exact e.symm
   ·refine Classical.byContradiction fun hne => ?_
    have h2 := hmin a List.mem_cons_self hne
    have h3 := h1 _ hx
    rw [ahead_not h3] at h2
    cases h2
theorem srt_head_mem {l : List Ent} (h : l ≠ []) : l.headD ((0, 0), 0) ∈ l := by
 cases l with
 | nil => exact absurd rfl h
 | cons a l => exact List.mem_cons_self
theorem srt_head_le {l : List Ent} (hs : srt l) {y : Ent} (hy : y ∈ l) : y = l.headD ((0, 0), 0) ∨ aheadB (l.headD ((0, 0), 0)).1 y.1 = true := by
 cases l with
 | nil => simp at hy
 | cons a l =>
   rcases List.mem_cons.1 hy with e | hy
   ·exact .inl e
   ·exact .inr ((List.pairwise_cons.1 hs).1 _ hy)
def turnsOk (T : List Ent) (os : List Ord) : Prop := srt T ∧ ∀ e, e ∈ T ↔ ∃ i, i < os.length ∧ (os.getD i ord0).state = 12 ∧ e = (((i : Int) + 1, 0), 0)
def sizesOk (Z : List Ent) (os : List Ord) : Prop := srt Z ∧ ∀ e, e ∈ Z ↔ ∃ i, i < os.length ∧ (os.getD i ord0).state = 12 ∧ e = ((-(os.getD i ord0).units, (i : Int) + 1), 0)
def ledgOk (L : List Ent) (f : Int → Int → Int) : Prop := srt L ∧ ∀ e, e ∈ L ↔ e.1.1 ≠ 0 ∧ (e.1.2 = 12 ∨ e.1.2 = 13 ∨ e.1.2 = 14) ∧ e.2 = f e.1.2 e.1.1 ∧ e.2 ≠ 0
theorem turns_nil : turnsOk [] [] := ⟨List.Pairwise.nil, fun e => by simp⟩
theorem sizes_nil : sizesOk [] [] := ⟨List.Pairwise.nil, fun e => by simp⟩
theorem ledg_nil : ledgOk [] (fun _ _ => 0) := ⟨List.Pairwise.nil, fun e => by
 constructor
 ·intro h; simp at h
 ·rintro ⟨_, _, h1, h2⟩; exact absurd h1 h2⟩
theorem ledg_get {L : List Ent} {f : Int → Int → Int} (h : ledgOk L f) {c st : Int} (hc : c ≠ 0) (hst : st = 12 ∨ st = 13 ∨ st = 14) : getS (c, st) L = if f st c = 0 then none else some (f st c) := by
 by_cases h0 : f st c = 0
 ·rw [if_pos h0, get_none]
  intro e he hk
  obtain ⟨_, _, h3, h4⟩ := (h.2 e).1 he
  rw [hk] at h3
  exact h4 (h3.trans h0)
 ·rw [if_neg h0, get_iff h.1, h.2]
  exact ⟨hc, hst, rfl, h0⟩
def addL (L : List Ent) (c st d : Int) : List Ent := if (getS (c, st) L).getD 0 + d = 0 then delS (c, st) L else insS (c, st) ((getS (c, st) L).getD 0 + d) L
def addF (f : Int → Int → Int) (c st d : Int) : Int → Int → Int := fun st' c' => if st' = st ∧ c' = c then f st c + d else f st' c'
theorem ledg_add {L : List Ent} {f : Int → Int → Int} (h : ledgOk L f) {c st : Int} (d : Int) (hc : c ≠ 0) (hst : st = 12 ∨ st = 13 ∨ st = 14) : ledgOk (addL L c st d) (addF f c st d) := by
 have hg : (getS (c, st) L).getD 0 = f st c := by
  rw [ledg_get h hc hst]
  split
  ·next e => simp [e]
  ·rfl
 unfold addL
 rw [hg]
 split
 ·next e0 =>
  refine ⟨srt_del _ h.1, fun e => ?_⟩
  rw [mem_del, h.2]
  obtain ⟨⟨e1, e2⟩, v⟩ := e
  simp only [addF, ne_eq, Prod.mk.injEq]
  by_cases hk : e2 = st ∧ e1 = c
  ·rw [if_pos hk]
   constructor
   ·rintro ⟨_, hx⟩; exact absurd ⟨hk.2, hk.1⟩ hx
   ·rintro ⟨_, _, h1, h2⟩; rw [e0] at h1; exact absurd h1 h2
  ·rw [if_neg hk]
   constructor
   ·rintro ⟨hx, _⟩; exact hx
   ·intro hx; exact ⟨hx, fun c => hk ⟨c.2, c.1⟩⟩
 ·next e0 =>
  refine ⟨srt_ins _ _ h.1, fun e => ?_⟩
  rw [mem_ins, h.2]
  obtain ⟨⟨e1, e2⟩, v⟩ := e
  simp only [addF, ne_eq, Prod.mk.injEq]
  by_cases hk : e2 = st ∧ e1 = c
  ·rw [if_pos hk]
   obtain ⟨rfl, rfl⟩ := hk
   constructor
   ·rintro (⟨_, h1⟩ | ⟨_, hx⟩)
    ·exact ⟨hc, hst, h1, by rw [h1]; exact e0⟩
    ·exact absurd ⟨rfl, rfl⟩ hx
   ·rintro ⟨_, _, h1, h2⟩; exact .inl ⟨⟨rfl, rfl⟩, h1⟩
  ·rw [if_neg hk]
   constructor
   ·rintro (⟨⟨h1, h2⟩, _⟩ | ⟨hx, _⟩)
    ·exact absurd ⟨h2, h1⟩ hk
    ·exact hx
   ·intro hx; exact .inr ⟨hx, fun c => hk ⟨c.2, c.1⟩⟩
def unitsF (os : List Ord) : Int → Int → Int := fun st c => unitsS os st c
def isL (st : Int) : Prop := st = 12 ∨ st = 13 ∨ st = 14
instance (st : Int) : Decidable (isL st) := by unfold isL; infer_instance
def addA (L : List Ent) (c st d : Int) : List Ent := if isL st then addL L c st d else L
theorem ledg_ext {L : List Ent} {f g : Int → Int → Int} (h : ledgOk L f) (he : ∀ st c, c ≠ 0 → isL st → f st c = g st c) : ledgOk L g := by
 refine ⟨h.1, fun e => (h.2 e).trans ?_⟩
 constructor
 ·rintro ⟨h1, h2, h3, h4⟩; exact ⟨h1, h2, by rw [← he _ _ h1 h2]; exact h3, h4⟩
 ·rintro ⟨h1, h2, h3, h4⟩; exact ⟨h1, h2, by rw [he _ _ h1 h2]; exact h3, h4⟩
theorem ledg_addA {L : List Ent} {f : Int → Int → Int} (h : ledgOk L f) {c st : Int} (d : Int) (hc : c ≠ 0) : ledgOk (addA L c st d) (addF f c st d) := by
 unfold addA
 split
 ·next hst => exact ledg_add h d hc hst
 ·next hst =>
  refine ledg_ext h (fun st' c' _ hl => ?_)
  unfold addF
  rw [if_neg (by rintro ⟨e, _⟩; exact hst (e ▸ hl))]
theorem part_ne {o : Ord} {st c : Int} (hc : c ≠ 0) : o.part st c = if st = o.state ∧ c = o.cust then o.units else 0 := by
 unfold Ord.part
 by_cases h1 : st = o.state ∧ c = o.cust
 ·rw [if_pos h1, if_pos]
  unfold Ord.is
  rw [← h1.1, ← h1.2]
  simp
 ·rw [if_neg h1, if_neg]
  intro hh
  unfold Ord.is at hh
  simp only [Bool.and_eq_true, Bool.or_eq_true, beq_iff_eq] at hh
  exact h1 ⟨hh.1.symm, (hh.2.resolve_left hc).symm⟩
theorem addF_at (f : Int → Int → Int) (c0 s d s' c' : Int) : addF f c0 s d s' c' = f s' c' + if s' = s ∧ c' = c0 then d else 0 := by
 unfold addF
 split
 ·next h => rw [h.1, h.2]
 ·omega
theorem ledg_move {L : List Ent} {os : List Ord} (h : ledgOk L (unitsF os)) {i : Nat} (hi : i < os.length) (o : Ord) (h1 : o.cust = (os.getD i ord0).cust) (h2 : o.units = (os.getD i ord0).units) (hc : o.cust ≠ 0) : ledgOk (addA (addA L o.cust (os.getD i ord0).state (-o.units)) o.cust o.state o.units) (unitsF (os.set i o)) := by
 refine ledg_ext (ledg_addA (ledg_addA h (-o.units) hc) o.units hc) (fun st c hc' hl => ?_)
 rw [addF_at, addF_at]
 unfold unitsF
 rw [units_set hi, part_ne hc', part_ne hc', ← h1, ← h2]
 generalize unitsS os st c = U
 split <;> split <;> omega
theorem ledg_snoc {L : List Ent} {os : List Ord} (h : ledgOk L (unitsF os)) (o : Ord) (hc : o.cust ≠ 0) : ledgOk (addA L o.cust o.state o.units) (unitsF (os ++ [o])) := by
 refine ledg_ext (ledg_addA h o.units hc) (fun st c hc' hl => ?_)
 rw [addF_at]
 unfold unitsF
 rw [units_snoc, part_ne hc']
theorem turns_out {T : List Ent} {os : List Ord} (h : turnsOk T os) {i : Nat} (hi : i < os.length) (o : Ord) (ho : o.state ≠ 12) : turnsOk (delS ((i : Int) + 1, 0) T) (os.set i o) := by
 refine ⟨srt_del _ h.1, fun e => ?_⟩
 rw [mem_del, h.2]
 constructor
 ·rintro ⟨⟨j, h1, h2, rfl⟩, h4⟩
  have hji : j ≠ i := fun e => h4 (by rw [e])
  exact ⟨j, by simpa using h1, by rw [getD_set o hi, if_neg hji]; exact h2, rfl⟩
 ·rintro ⟨j, h1, h2, rfl⟩
  rw [getD_set o hi] at h2
  by_cases e : j = i
  ·rw [if_pos e] at h2; exact absurd h2 ho
  ·rw [if_neg e] at h2
   exact ⟨⟨j, by simpa using h1, h2, rfl⟩, fun c => e (by simp at c; omega)⟩
theorem sizes_out {T : List Ent} {os : List Ord} (h : sizesOk T os) {i : Nat} (hi : i < os.length) (o : Ord) (ho : o.state ≠ 12) : sizesOk (delS (-(os.getD i ord0).units, (i : Int) + 1) T) (os.set i o) := by
 refine ⟨srt_del _ h.1, fun e => ?_⟩
 rw [mem_del, h.2]
 constructor
 ·rintro ⟨⟨j, h1, h2, rfl⟩, h4⟩
  have hji : j ≠ i := fun e => h4 (by rw [e])
  exact ⟨j, by simpa using h1, by rw [getD_set o hi, if_neg hji]; exact h2, by rw [getD_set o hi, if_neg hji]⟩
 ·rintro ⟨j, h1, h2, rfl⟩
  rw [getD_set o hi] at h2 ⊢
  by_cases e : j = i
  ·rw [if_pos e] at h2; exact absurd h2 ho
  ·rw [if_neg e] at h2 ⊢
   exact ⟨⟨j, by simpa using h1, h2, rfl⟩, fun c => e (by simp at c; omega)⟩
theorem turns_stay {T : List Ent} {os : List Ord} (h : turnsOk T os) {i : Nat} (hi : i < os.length) (o : Ord) (ho : o.state ≠ 12) (hs : (os.getD i ord0).state ≠ 12) : turnsOk T (os.set i o) := by
 refine ⟨h.1, fun e => (h.2 e).trans ?_⟩
 constructor
 ·rintro ⟨j, h1, h2, rfl⟩
  have hji : j ≠ i := fun e => hs (e ▸ h2)
  exact ⟨j, by simpa using h1, by rw [getD_set o hi, if_neg hji]; exact h2, rfl⟩
 ·rintro ⟨j, h1, h2, rfl⟩
  rw [getD_set o hi] at h2
  by_cases e : j = i
  ·rw [if_pos e] at h2; exact absurd h2 ho
  ·rw [if_neg e] at h2; exact ⟨j, by simpa using h1, h2, rfl⟩
theorem sizes_stay {T : List Ent} {os : List Ord} (h : sizesOk T os) {i : Nat} (hi : i < os.length) (o : Ord) (ho : o.state ≠ 12) (hs : (os.getD i ord0).state ≠ 12) : sizesOk T (os.set i o) := by
 refine ⟨h.1, fun e => (h.2 e).trans ?_⟩
 constructor
 ·rintro ⟨j, h1, h2, rfl⟩
  have hji : j ≠ i := fun e => hs (e ▸ h2)
  exact ⟨j, by simpa using h1, by rw [getD_set o hi, if_neg hji]; exact h2, by rw [getD_set o hi, if_neg hji]⟩
 ·rintro ⟨j, h1, h2, rfl⟩
  rw [getD_set o hi] at h2 ⊢
  by_cases e : j = i
  ·rw [if_pos e] at h2; exact absurd h2 ho
  ·rw [if_neg e] at h2 ⊢; exact ⟨j, by simpa using h1, h2, rfl⟩
theorem getD_snoc {os : List Ord} {o : Ord} {j : Nat} (h : j < os.length + 1) : (os ++ [o]).getD j ord0 = if j = os.length then o else os.getD j ord0 := by
 simp only [List.getD]
 by_cases e : j = os.length
 ·subst e; simp
 ·rw [if_neg e, List.getElem?_append_left (by omega)]
theorem turns_in {T : List Ent} {os : List Ord} (h : turnsOk T os) (o : Ord) (ho : o.state = 12) : turnsOk (insS ((os.length : Int) + 1, 0) 0 T) (os ++ [o]) := by
 refine ⟨srt_ins _ _ h.1, fun e => ?_⟩
 rw [mem_ins, h.2]
 constructor
 ·rintro (rfl | ⟨⟨j, h1, h2, rfl⟩, _⟩)
  ·exact ⟨os.length, by simp, by rw [getD_snoc (by omega), if_pos rfl]; exact ho, rfl⟩
  ·exact ⟨j, by simp; omega, by rw [getD_snoc (by omega), if_neg (by omega)]; exact h2, rfl⟩
 ·rintro ⟨j, h1, h2, rfl⟩
  have h1' : j < os.length + 1 := by simpa using h1
  rw [getD_snoc h1'] at h2
  by_cases e : j = os.length
  ·exact .inl (by rw [e])
  ·rw [if_neg e] at h2
   exact .inr ⟨⟨j, by omega, h2, rfl⟩, fun c => e (by simp at c; omega)⟩
theorem sizes_in {T : List Ent} {os : List Ord} (h : sizesOk T os) (o : Ord) (ho : o.state = 12) : sizesOk (insS (-o.units, (os.length : Int) + 1) 0 T) (os ++ [o]) := by
 refine ⟨srt_ins _ _ h.1, fun e => ?_⟩
 rw [mem_ins, h.2]
 constructor
 ·rintro (rfl | ⟨⟨j, h1, h2, rfl⟩, _⟩)
  ·exact ⟨os.length, by simp, by rw [getD_snoc (by omega), if_pos rfl]; exact ho, by rw [getD_snoc (by omega), if_pos rfl]⟩
  ·exact ⟨j, by simp; omega, by rw [getD_snoc (by omega), if_neg (by omega)]; exact h2, by rw [getD_snoc (by omega), if_neg (by omega)]⟩
 ·rintro ⟨j, h1, h2, rfl⟩
  have h1' : j < os.length + 1 := by simpa using h1
  rw [getD_snoc h1'] at h2 ⊢
  by_cases e : j = os.length
  ·exact .inl (by rw [if_pos e, e])
  ·rw [if_neg e] at h2 ⊢
   exact .inr ⟨⟨j, by omega, h2, rfl⟩, fun c => e (by simp at c; omega)⟩
theorem turns_skip {T : List Ent} {os : List Ord} (h : turnsOk T os) (o : Ord) (ho : o.state ≠ 12) : turnsOk T (os ++ [o]) := by
 refine ⟨h.1, fun e => (h.2 e).trans ?_⟩
 constructor
 ·rintro ⟨j, h1, h2, rfl⟩
  exact ⟨j, by simp; omega, by rw [getD_snoc (by omega), if_neg (by omega)]; exact h2, rfl⟩
 ·rintro ⟨j, h1, h2, rfl⟩
  have h1' : j < os.length + 1 := by simpa using h1
  rw [getD_snoc h1'] at h2
  by_cases e : j = os.length
  ·rw [if_pos e] at h2; exact absurd h2 ho
  ·rw [if_neg e] at h2; exact ⟨j, by omega, h2, rfl⟩
theorem sizes_skip {T : List Ent} {os : List Ord} (h : sizesOk T os) (o : Ord) (ho : o.state ≠ 12) : sizesOk T (os ++ [o]) := by
 refine ⟨h.1, fun e => (h.2 e).trans ?_⟩
 constructor
 ·rintro ⟨j, h1, h2, rfl⟩
  exact ⟨j, by simp; omega, by rw [getD_snoc (by omega), if_neg (by omega)]; exact h2, by rw [getD_snoc (by omega), if_neg (by omega)]⟩
 ·rintro ⟨j, h1, h2, rfl⟩
  have h1' : j < os.length + 1 := by simpa using h1
  rw [getD_snoc h1'] at h2 ⊢
  by_cases e : j = os.length
  ·rw [if_pos e] at h2; exact absurd h2 ho
  ·rw [if_neg e] at h2 ⊢; exact ⟨j, by omega, h2, rfl⟩
theorem turnsQ_first {T : List Ent} {os : List Ord} (h : turnsOk T os) {q : Nat} {qs : List Nat} (hq : queueS os = q :: qs) : T.headD ((0, 0), 0) = (((q : Int) + 1, 0), 0) := by
 have hm : q ∈ queueS os := by rw [hq]; simp
 obtain ⟨h1, h2⟩ := (queueT_mem os _ q).1 hm
 refine srt_head h.1 ((h.2 _).2 ⟨q, h1, h2, rfl⟩) (fun y hy hne => ?_)
 obtain ⟨j, a, b, rfl⟩ := (h.2 _).1 hy
 have hj : j ∈ q :: qs := by rw [← hq]; exact (queueT_mem os _ j).2 ⟨a, b⟩
 have hs' : (q :: qs).Pairwise (· < ·) := by rw [← hq]; exact queueT_sorted os os.length
 rcases List.mem_cons.1 hj with rfl | hj
 ·exact absurd rfl hne
 ·have := List.rel_of_pairwise_cons hs' hj
  rw [ahead_iff]
  exact .inl (by show (q : Int) + 1 < (j : Int) + 1; omega)
theorem turnsQ_none {T : List Ent} {os : List Ord} (h : turnsOk T os) : T = [] ↔ queueS os = [] := by
 constructor
 ·rintro rfl
  rw [List.eq_nil_iff_forall_not_mem]
  intro q hq
  obtain ⟨h1, h2⟩ := (queueT_mem os _ q).1 hq
  have := (h.2 _).2 ⟨q, h1, h2, rfl⟩
  simp at this
 ·intro hq
  rw [List.eq_nil_iff_forall_not_mem]
  intro e he
  obtain ⟨j, a, b, _⟩ := (h.2 e).1 he
  have : j ∈ queueS os := (queueT_mem os _ j).2 ⟨a, b⟩
  rw [hq] at this
  simp at this
theorem sizesQ_none {T : List Ent} {os : List Ord} (h : sizesOk T os) : T = [] ↔ queueS os = [] := by
 constructor
 ·rintro rfl
  rw [List.eq_nil_iff_forall_not_mem]
  intro q hq
  obtain ⟨h1, h2⟩ := (queueT_mem os _ q).1 hq
  have := (h.2 _).2 ⟨q, h1, h2, rfl⟩
  simp at this
 ·intro hq
  rw [List.eq_nil_iff_forall_not_mem]
  intro e he
  obtain ⟨j, a, b, _⟩ := (h.2 e).1 he
  have : j ∈ queueS os := (queueT_mem os _ j).2 ⟨a, b⟩
  rw [hq] at this
  simp at this
theorem sizesQ_first {Z : List Ent} {os : List Ord} (h : sizesOk Z os) (hn : Z ≠ []) : ∃ i, i < os.length ∧ (os.getD i ord0).state = 12 ∧ Z.headD ((0, 0), 0) = ((-(os.getD i ord0).units, (i : Int) + 1), 0) ∧ ∀ j, j < os.length → (os.getD j ord0).state = 12 → (os.getD j ord0).units ≤ (os.getD i ord0).units := by
 obtain ⟨i, a, b, e⟩ := (h.2 _).1 (srt_head_mem hn)
 refine ⟨i, a, b, e, fun j hj hs => ?_⟩
 have := srt_head_le h.1 ((h.2 _).2 ⟨j, hj, hs, rfl⟩)
 rw [e] at this
 rcases this with c | c
 ·have := congrArg (fun e : Ent => e.1.1) c
  simp only at this
  omega
 ·rw [ahead_iff] at c
  simp only at c
  omega
theorem srt_same {a b : List Ent} (ha : srt a) (hb : srt b) (h : ∀ e, e ∈ a ↔ e ∈ b) : a = b := by
 induction a generalizing b with
 | nil =>
   symm
   rw [List.eq_nil_iff_forall_not_mem]
   intro e he
   have := (h e).2 he
   simp at this
 | cons x a ih =>
   cases b with
   | nil => have := (h x).1 List.mem_cons_self; simp at this
   | cons y b =>
     obtain ⟨ha1, ha2⟩ := List.pairwise_cons.1 ha
     obtain ⟨hb1, hb2⟩ := List.pairwise_cons.1 hb
     have hxy : x = y := by
      rcases List.mem_cons.1 ((h x).1 List.mem_cons_self) with e | hx
      ·exact e
      ·rcases List.mem_cons.1 ((h y).2 List.mem_cons_self) with e | hy
       ·exact e.symm
       ·have := ahead_not (hb1 _ hx)
        rw [ha1 _ hy] at this
        cases this
     subst hxy
     congr 1
     refine ih ha2 hb2 (fun e => ?_)
     constructor
     ·intro he
      rcases List.mem_cons.1 ((h e).1 (List.mem_cons_of_mem _ he)) with c | c
      ·exact absurd (congrArg Prod.fst c).symm (ahead_ne (ha1 _ he))
      ·exact c
     ·intro he
      rcases List.mem_cons.1 ((h e).2 (List.mem_cons_of_mem _ he)) with c | c
      ·exact absurd (congrArg Prod.fst c).symm (ahead_ne (hb1 _ he))
      ·exact c
theorem turns_len {T : List Ent} {os : List Ord} (h : turnsOk T os) : T.length = (queueS os).length := by
 have e : T = (queueS os).map (fun i => ((((i : Nat) : Int) + 1, (0 : Int)), (0 : Int))) := by
  refine srt_same h.1 ?_ (fun e => (h.2 e).trans ?_)
  ·unfold srt
   rw [List.pairwise_map]
   refine (queueT_sorted os _).imp (fun {a b} hab => ?_)
   rw [ahead_iff]
   exact .inl (by show (a : Int) + 1 < (b : Int) + 1; omega)
  ·rw [List.mem_map]
   constructor
   ·rintro ⟨i, a, b, rfl⟩
    exact ⟨i, (queueT_mem os _ i).2 ⟨a, b⟩, rfl⟩
   ·rintro ⟨i, a, rfl⟩
    obtain ⟨x, y⟩ := (queueT_mem os _ i).1 a
    exact ⟨i, x, y, rfl⟩
 rw [e, List.length_map]
section
def Sal.more (S : Sal) (o : Ord) : Sal := { S with os := S.os ++ [o] }
def Sal.ask (S : Sal) (r : Req) : Rep × Sal :=
 if S.C.cap < unitsS S.os 13 r.cust + unitsS S.os 14 r.cust + unitsS S.os 12 r.cust + r.units then (⟨4, 0, 0, 0⟩, S)
 else if S.left < r.units then (⟨5, 0, 0, 0⟩, S)
 else if 4294967296 ≤ S.os.length then (⟨6, 0, 0, 0⟩, S)
 else if queueS S.os = [] ∧ r.units ≤ S.free then
  (⟨2, S.os.length + 1, (((S.more ⟨r.cust, r.units, 0, 0, 0, 0⟩).holds S.os.length).os.getD S.os.length ord0).cents, S.now + S.C.lease⟩, (S.more ⟨r.cust, r.units, 0, 0, 0, 0⟩).holds S.os.length)
 else if ((queueS S.os).length : Int) = S.C.queue then (⟨6, 0, 0, 0⟩, S)
 else (⟨3, S.os.length + 1, 0, S.now + S.C.wait⟩, S.more ⟨r.cust, r.units, 12, 0, S.now + S.C.wait, 0⟩)
theorem flatO_snoc (os : List Ord) (o : Ord) : flatO (os ++ [o]) = flatO os ++ o.vals := by simp [flatO]
def askAns (w w' : World) (B R : Nat) (S' : Sal) (ap : Option Addr) (lp cp : Nat) (vo va : Value) : Prop :=
 ∃ vo', saleAt w' B R S' ap lp cp vo' va ∧ salI S' ∧ Same (fun b => b = R ∨ vo.ownBlock = some b) w w' ∧ ∀ k, vo'.ownBlock = some k → vo.ownBlock = some k ∨ w.heap.size + 2 ≤ k
section
variable {w w' : World} {B R : Nat} {S : Sal} {ap : Option Addr} {lp cp : Nat} {vo va : Value}
theorem own_apart (h : saleAt w B R S ap lp cp vo va) {k : Nat} (h1 : vo.ownBlock = some k) (h2 : va.ownBlock = some k) : False := by
 rcases h.os.2 with ⟨rfl, _⟩ | ⟨g, c, cur, rfl, _, hh, _⟩
 ·simp [Value.ownBlock] at h1
 ·have e : g = k := by simpa [Value.ownBlock] using h1
  subst e
  exact own_type h.ansL hh (by decide) h2
theorem tiers_same {own : Nat → Prop} {ps : List (Int × Int)} (h : tiersAt w ap lp cp ps) (hs : Same own w w') (h4 : ∀ b off, ap = some (aq b off) → ¬ own b) : tiersAt w' ap lp cp ps := by
 obtain ⟨t1, t2, t3, t4, t5⟩ := h
 refine ⟨t1, t2, t3, t4, fun hne => ?_⟩
 obtain ⟨b, off, e, hbw, hc⟩ := t5 hne
 exact ⟨b, off, e, Nat.lt_of_lt_of_le hbw hs.size, fun k hk => ⟨(hs.cell hbw (h4 b off e)).trans (hc k hk).1, (hs.cell hbw (h4 b off e)).trans (hc k hk).2⟩⟩
theorem askPut_sale (h : saleAt w B R S ap lp cp vo va) (hBR : B ≤ R) {C : Array Value} (hC : w.heap[R]? = some (.cells C 164 (0, 0))) (o : Ord) {L : List Value} (hL : L = o.vals) (hp : askPut w w' B R C vo S.os.length (flatO S.os) L) :
 ∃ vo', saleAt w' B R (S.more o) ap lp cp vo' va ∧ Same (fun b => b = R ∨ vo.ownBlock = some b) w w' ∧ (∀ k, vo'.ownBlock = some k → vo.ownBlock = some k ∨ w.heap.size + 2 ≤ k) ∧ ∃ g c, vo' = .slice (some (aq g 0)) (S.os.length + 1) c := by
 obtain ⟨g, cap, h1, h2, h3, h4⟩ := hp
 have hb := h.blk
 rw [hC] at hb
 simp only [Option.some.injEq, Obj.cells.injEq, and_true] at hb
 subst hb
 subst hL
 have hRw : R < w.heap.size := (blt hC)
 refine ⟨.slice (some (aq g 0)) (S.os.length + 1) cap, ⟨h1, ?_, h.low, ?_, ?_⟩, h3, fun k hk => ?_, g, cap, rfl⟩
 ·refine tiers_same h.tiers h3 (fun b off e => ?_)
  have hlow := h.low b off e
  rintro (e1 | e1)
  ·omega
  ·have := (World.ownsRow.lt h.os b e1).1; omega
 ·show w'.ownsRow B 228 6 _ (S.os ++ [o]).length (flatO (S.os ++ [o]))
  rw [flatO_snoc]
  simpa using h2
 ·refine owns_keep h.ansL (fun k hk => h3.block k (World.ownsRow.lt h.ansL k hk).2 ?_)
  rintro (e1 | e1)
  ·exact own_type h.ansL hC (by decide) (e1 ▸ hk)
  ·exact own_apart h e1 hk
 ·have e : g = k := by simpa [Value.ownBlock] using hk
  rw [← e]
  exact h4
theorem askAns_below (h : saleAt w B R S ap lp cp vo va) (hI : salI S) (hb : Below w.heap.size w w') : askAns w w' B R S ap lp cp vo va :=
 ⟨vo, saleAt_below h hb, hI, Same.of_below hb, fun _ hk => .inl hk⟩
end
theorem salI_wait {S : Sal} (h : salI S) (c u : Int) (hu : 1 ≤ u ∧ u ≤ 4294967296) (hc : unitsS S.os 12 c + u ≤ 4294967296) (t : Int) : salI (S.more ⟨c, u, 12, 0, t, 0⟩) := by
 refine ⟨fun x hx => ?_, ?_, fun d hd => ?_, h.cfg, h.now, fun x hx => ?_, h.prices⟩
 ·rcases List.mem_append.1 hx with hx | hx
  ·exact h.units x hx
  ·simp at hx; subst hx; exact hu
 ·show unitsS (S.os ++ [_]) 13 0 + unitsS (S.os ++ [_]) 14 0 ≤ S.C.stock
  rw [units_snoc, units_snoc]
  have := h.stock
  simp [Ord.part, Ord.is]
  omega
 ·show unitsS (S.os ++ [_]) 12 d ≤ 4294967296
  rw [units_snoc, part_ne hd]
  have := h.cap d hd
  split
  ·next e => have e2 : d = c := e.2; subst e2; show unitsS S.os 12 d + u ≤ _; omega
  ·omega
 ·rcases List.mem_append.1 hx with hx | hx
  ·exact h.ords x hx
  ·simp at hx; subst hx; exact ⟨by simp, by simp⟩
theorem salI_grant {S : Sal} (h : salI S) (o : Ord) (hs : o.state = 13) (hu : 1 ≤ o.units ∧ o.units ≤ 4294967296) (hf : o.units ≤ S.free) (ho : (0 ≤ o.cents ∧ o.cents ≤ 1073741824) ∧ (0 ≤ o.ended ∧ o.ended ≤ 4611686018427387904)) : salI (S.more o) := by
 refine ⟨fun x hx => ?_, ?_, fun d hd => ?_, h.cfg, h.now, fun x hx => ?_, h.prices⟩
 ·rcases List.mem_append.1 hx with hx | hx
  ·exact h.units x hx
  ·simp at hx; subst hx; exact hu
 ·show unitsS (S.os ++ [_]) 13 0 + unitsS (S.os ++ [_]) 14 0 ≤ S.C.stock
  rw [units_snoc, units_snoc]
  unfold Sal.free Sal.left at hf
  simp [Ord.part, Ord.is, hs]
  omega
 ·show unitsS (S.os ++ [_]) 12 d ≤ 4294967296
  rw [units_snoc, part_ne hd]
  have := h.cap d hd
  split
  ·next e => have e1 := e.1; rw [hs] at e1; cases e1
  ·omega
 ·rcases List.mem_append.1 hx with hx | hx
  ·exact h.ords x hx
  ·simp at hx; subst hx; exact ho
theorem set_snoc (os : List Ord) (o p : Ord) : (os ++ [o]).set os.length p = os ++ [p] := by
 rw [List.set_append_right (h := Nat.le_refl _)]
 simp
theorem more_holds (S : Sal) (c u : Int) : (S.more ⟨c, u, 0, 0, 0, 0⟩).holds S.os.length = S.more ⟨c, u, 13, (S.more ⟨c, u, 13, 0, 0, 0⟩).price, S.now + S.C.lease, 0⟩ ∧ (S.more ⟨c, u, 13, 0, 0, 0⟩).price = S.price := by
 have g : (S.more ⟨c, u, 0, 0, 0, 0⟩).os.getD S.os.length ord0 = ⟨c, u, 0, 0, 0, 0⟩ := by
  show (S.os ++ [_]).getD S.os.length ord0 = _
  rw [getD_snoc (by omega), if_pos rfl]
 constructor
 ·unfold Sal.holds
  rw [g]
  unfold Sal.put
  simp only [Sal.more, set_snoc]
 ·unfold Sal.price
  show priceT S.C.prices (unitsS (S.os ++ [_]) 14 0) _ = _
  rw [units_snoc]
  simp [Ord.part, Ord.is]
  rfl
section
variable {w w' : World} {B R : Nat} {S : Sal} {ap : Option Addr} {lp cp : Nat} {vo va : Value}
theorem rask_sale (h : saleAt w B R S ap lp cp vo va) (hI : salI S) (hBR : B ≤ R) (hcap : S.C.cap ≤ 4294967296) (hqm : 1 ≤ S.C.queue) (hl : S.os.length * 48 + 48 ≤ 140737488351232) (r : Req) (hr : 1 ≤ r.cust ∧ 1 ≤ r.units ∧ r.units ≤ 4294967296) :
 Calls Tryz.prog 148 #[pt R 0, r.val] w fun e w' => e = .returned (S.ask r).1.val ∧ askAns w w' B R (S.ask r).2 ap lp cp vo va := by
 have hN := hI.N hl
 have hRw : R < w.heap.size := (blt h.blk)
 obtain ⟨_, c1, c2, _, c4, _, _, _, c8, c9, _⟩ := cells11 h.blk
 obtain ⟨oo, oc', hvo⟩ := own_slice h.os
 subst hvo
 have hc0 : r.cust ≠ 0 := by omega
 have ha : 0 ≤ unitsS S.os 13 r.cust ∧ unitsS S.os 13 r.cust ≤ 4294967296 := ⟨units_pos hN _ _, hN.held _⟩
 have hb : 0 ≤ unitsS S.os 14 r.cust ∧ unitsS S.os 14 r.cust ≤ 4294967296 := ⟨units_pos hN _ _, hN.sold _⟩
 have hd : 0 ≤ unitsS S.os 12 r.cust ∧ unitsS S.os 12 r.cust ≤ 4294967296 := ⟨units_pos hN _ _, hN.waits _ hc0⟩
 have hu : 0 ≤ r.units ∧ r.units ≤ 4294967296 := ⟨by omega, hr.2.2⟩
 have HU : Hid (∀ st : Int, (st = 13 ∨ st = 14 ∨ st = 12) → ∀ W, Below w.heap.size w W → Calls Tryz.prog 125 #[pt R 0, iv st, iv r.cust] W fun e w' => e = .returned (iv (unitsS S.os st r.cust)) ∧ Below W.heap.size W w') := fun st hst => runits_sale h hN st r.cust (hst.imp id (fun x => x.imp id (fun x => ⟨x, hc0⟩)))
 have HQ : Hid (∀ W, Below w.heap.size w W → Calls Tryz.prog 123 #[pt R 0] W fun e w' => ∃ oa oc, e = .returned (.slice oa (queueS S.os).length oc) ∧ Below W.heap.size W w') := fun W hW => (rqueue_sale h hN W hW).mono (by
  rintro e w' ⟨out, rfl, ho, hb⟩
  obtain ⟨a, c, rfl⟩ := own_slice ho
  exact ⟨a, c, rfl, hb⟩)
 have HL := rleft_sale h hN
 have HFR := rfree_sale h hN
 have hlow : B ≤ w.heap.size := by omega
 unfold Sal.ask
 by_cases g1 : S.C.cap < unitsS S.os 13 r.cust + unitsS S.os 14 r.cust + unitsS S.os 12 r.cust + r.units
 ·rw [if_pos g1]
  exact (rask_cap R _ r w (fun st => unitsS S.os st r.cust) _ c1 ha hb hd hu g1 HU HQ).mono (by rintro e w' ⟨rfl, hb⟩; exact ⟨rfl, askAns_below h hI hb⟩)
 rw [if_neg g1]
 by_cases g2 : S.left < r.units
 ·rw [if_pos g2]
  exact (rask_out R _ r w (fun st => unitsS S.os st r.cust) _ _ c1 ha hb hd hu g1 g2 HU HQ HL).mono (by rintro e w' ⟨rfl, hb⟩; exact ⟨rfl, askAns_below h hI hb⟩)
 rw [if_neg g2]
 by_cases g3 : 4294967296 ≤ S.os.length
 ·rw [if_pos g3]
  exact (rask_many R _ r w (fun st => unitsS S.os st r.cust) _ _ c1 ha hb hd hu g1 g2 oo _ oc' c9 g3 HU HQ HL).mono (by rintro e w' ⟨rfl, hb⟩; exact ⟨rfl, askAns_below h hI hb⟩)
 rw [if_neg g3]
 by_cases g4 : queueS S.os = [] ∧ r.units ≤ S.free
 ·rw [if_pos g4]
  obtain ⟨m1, m2⟩ := more_holds S r.cust r.units
  have hg : ((S.more ⟨r.cust, r.units, 0, 0, 0, 0⟩).holds S.os.length).os.getD S.os.length ord0 = ⟨r.cust, r.units, 13, S.price, S.now + S.C.lease, 0⟩ := by
   rw [m1, m2]
   show (S.os ++ [_]).getD S.os.length ord0 = _
   rw [getD_snoc (by omega), if_pos rfl]
  have hI' : salI ((S.more ⟨r.cust, r.units, 0, 0, 0, 0⟩).holds S.os.length) := by
   rw [m1, m2]
   exact salI_grant hI _ rfl hr.2 g4.2 ⟨priceT_bounds hI.prices _ _ (Nat.le_refl _), by simp⟩
  have hN1 : salN ((S.more ⟨r.cust, r.units, 0, 0, 0, 0⟩).put S.os.length { (S.more ⟨r.cust, r.units, 0, 0, 0, 0⟩).os.getD S.os.length ord0 with state := 13 }) := by
   have e : (S.more ⟨r.cust, r.units, 0, 0, 0, 0⟩).put S.os.length { (S.more ⟨r.cust, r.units, 0, 0, 0, 0⟩).os.getD S.os.length ord0 with state := 13 } = S.more ⟨r.cust, r.units, 13, 0, 0, 0⟩ := by
      have g : (S.more ⟨r.cust, r.units, 0, 0, 0, 0⟩).os.getD S.os.length ord0 = ⟨r.cust, r.units, 0, 0, 0, 0⟩ := by
       show (S.os ++ [_]).getD S.os.length ord0 = _
       rw [getD_snoc (by omega), if_pos rfl]
      rw [g]
      unfold Sal.put
      simp only [Sal.more, set_snoc]
   rw [e]
   exact (salI_grant hI ⟨r.cust, r.units, 13, 0, 0, 0⟩ rfl hr.2 g4.2 ⟨by simp, by simp⟩).N (by simp [Sal.more]; omega)
  rw [hg]
  refine (rask_grant R B _ r w (fun st => unitsS S.os st r.cust) _ _ _ S.price (S.now + S.C.lease) _ oo _ oc' (flatO S.os) (fun W => askAns w W B R ((S.more ⟨r.cust, r.units, 0, 0, 0, 0⟩).holds S.os.length) ap lp cp (.slice oo S.os.length oc') va) c1 ha hb hd hu g1 g2 c9 (by omega) (by rw [g4.1]; rfl) (by omega) h.blk h.os hlow ?_ ?_ HU HQ HL HFR).mono (by rintro e w' ⟨rfl, hq⟩; exact ⟨rfl, hq⟩)
  ·intro W hw1 hW
   obtain ⟨vo', a1, a2, a3, g, c, hvo'⟩ := askPut_sale h hBR h.blk ⟨r.cust, r.units, 0, 0, 0, 0⟩ rfl hW
   refine (rholds_sale a1 (i := S.os.length) (by simp [Sal.more]) hN1 ⟨hI.now.1, hI.now.2, hI.cfg.2.2.1, hI.cfg.2.2.2.1⟩ W (Below.refl _ _)).mono ?_
   rintro e w' ⟨rfl, b1, b2⟩
   have hne : ¬ vo'.ownBlock = some (w.heap.size + 1) := fun e => by
      rcases a3 _ e with x | x
      ·have := (World.ownsRow.lt h.os _ x).2; omega
      ·omega
   have zW := a2.size
   have z2 := b2.size
   obtain ⟨_, _, _, _, _, _, _, _, _, x9, _⟩ := cells11 b1.blk
   obtain ⟨g2, cap2, hv2, hg2, _, _, ho2, _⟩ := ord_in b1 (i := S.os.length) (by rw [m1]; simp [Sal.more])
   rw [hg] at ho2
   refine ⟨rfl, ⟨vo', b1, hI', ?_, a3⟩, b2.block _ hw1 hne, z2, ?_⟩
   ·exact Same.trans a2 b2 (fun k hk e => e.elim id (fun e => (a3 k e).elim .inr (fun e => by omega)))
   ·rw [hv2] at x9
    have hlen : ((S.more ⟨r.cust, r.units, 0, 0, 0, 0⟩).holds S.os.length).os.length = S.os.length + 1 := by rw [m1]; simp [Sal.more]
    rw [hlen] at x9
    exact ⟨g2, cap2, x9, ho2.2.2.2.1, ho2.2.2.2.2.1, hg2⟩
  ·rintro W W' ⟨vo', a1, a2, a3, a4⟩ hs
   have hRw' : R ≠ w.heap.size + 1 := by omega
   refine ⟨vo', saleAt_same a1 hs hRw' (fun k hk => ?_) (fun k hk => ?_) (fun _ b off e => ?_), a2, Same.trans a3 hs (fun k hk e => e.elim id (fun e => by omega)), a4⟩
   ·show k ≠ w.heap.size + 1
    rcases a4 k hk with x | x
    ·have := (World.ownsRow.lt h.os _ x).2; omega
    ·omega
   ·show k ≠ w.heap.size + 1
    have := (World.ownsRow.lt h.ansL _ hk).2
    omega
   ·show b ≠ w.heap.size + 1
    have := h.low b off e
    omega
 rw [if_neg g4]
 have fresh : ∀ w', askPut w w' B R #[iv S.C.stock, iv S.C.cap, iv S.C.queue, iv S.C.lease, iv S.C.wait, iv S.C.keep, iv S.C.tokens, .slice ap lp cp, iv S.now, .slice oo S.os.length oc', va] (.slice oo S.os.length oc') S.os.length (flatO S.os) [iv r.cust, iv r.units, iv 12, iv 0, iv (S.now + S.C.wait), iv 0] → askAns w w' B R (S.more ⟨r.cust, r.units, 12, 0, S.now + S.C.wait, 0⟩) ap lp cp (.slice oo S.os.length oc') va := fun w' hW => by
  obtain ⟨vo', a1, a2, a3, g, c, hvo'⟩ := askPut_sale h hBR h.blk ⟨r.cust, r.units, 12, 0, S.now + S.C.wait, 0⟩ rfl hW
  exact ⟨vo', a1, salI_wait hI _ _ hr.2 (by omega) _, a2, a3⟩
 have hnw : 0 ≤ S.now ∧ S.now ≤ 4611686018427387904 ∧ 0 ≤ S.C.wait ∧ S.C.wait ≤ 4294967296 := ⟨hI.now.1, hI.now.2, hI.cfg.2.2.2.2.1, hI.cfg.2.2.2.2.2⟩
 by_cases g5 : ((queueS S.os).length : Int) = S.C.queue
 ·rw [if_pos g5]
  rw [← g5] at c2
  exact (rask_full R _ r w (fun st => unitsS S.os st r.cust) _ _ c1 ha hb hd hu g1 g2 oo _ oc' c9 (by omega) c2 (by omega) HU HQ HL).mono (by rintro e w' ⟨rfl, hb⟩; exact ⟨rfl, askAns_below h hI hb⟩)
 rw [if_neg g5]
 by_cases g6 : queueS S.os = []
 ·have hf : S.free < r.units := by
   have : ¬ r.units ≤ S.free := fun c => g4 ⟨g6, c⟩
   omega
  refine (rask_wait0 R B _ r w (fun st => unitsS S.os st r.cust) _ _ _ _ _ _ _ oo _ oc' (flatO S.os) c1 ha hb hd hu g1 g2 c9 (by omega) c2 (by rw [g6]; rfl) (by omega) hf c8 c4 hnw h.blk h.os hlow HU HQ HL HFR).mono ?_
  rintro e w' ⟨rfl, hq⟩
  exact ⟨rfl, fresh w' hq⟩
 ·have hql : 0 < (queueS S.os).length := by
   cases hq : queueS S.os with
   | nil => exact absurd hq g6
   | cons a l => simp
  refine (rask_wait1 R B _ r w (fun st => unitsS S.os st r.cust) _ _ _ _ _ _ oo _ oc' (flatO S.os) c1 ha hb hd hu g1 g2 c9 (by omega) c2 hql g5 c8 c4 hnw h.blk h.os hlow HU HQ HL).mono ?_
  rintro e w' ⟨rfl, hq⟩
  exact ⟨rfl, fresh w' hq⟩
end
end
theorem rsend_bad (R bl bc : Nat) (ba : Option Addr) (k t c u o err : Int) (w : World) (he : err = 2)
 (HUP : Hid (∀ W, Below w.heap.size w W → Calls Tryz.prog 73 #[.slice ba bl bc] W fun e w' => e = .returned (.tuple #[.agg #[iv k, iv t, iv c, iv u, iv o], iv err]) ∧ Below W.heap.size W w')) :
 Calls Tryz.prog 121 #[pt R 0, .slice ba bl bc] w fun e w' => e = .returned (.agg #[iv 1, iv 0, iv 0, iv 0]) ∧ Below w.heap.size w w' := by
 subst he
 go_enter Tryz.func121, Tryz.ntmps121
 go_wp2_with fail
 refine (HUP.out _ bL).mono ?_
 rintro e w1 ⟨rfl, b1⟩
 have w01 : Below w.heap.size w w1 := Below.trans (show Below w.heap.size w _ from bL) (b1.mono (by simp))
 have n0 : w1.heap[w.heap.size]? = some (.cells #[iv 0, iv 0, iv 0, iv 0] 42 (0, 0)) := (b1.block _ (by simp)).trans (heap_alloc_new w _)
 have hz : w.heap.size < w1.heap.size := (blt n0)
 have hne : w1.heap.size ≠ w.heap.size := by omega
 obtain ⟨s0, s1, s2, s3⟩ := four_cells n0
 have f0 := row_free n0 0
 have f1 := row_free n0 1
 have f2 := row_free n0 2
 have f3 := row_free n0 3
 go_wp2
 refine bodyPost_ret (v := .agg #[iv 1, iv 0, iv 0, iv 0]) (by simp [results, Tryz.results121, go_sem, *]) rfl ⟨rfl, ?_⟩
 exact bL
theorem rsend_poll (R bl bc : Nat) (ba : Option Addr) (k t c u o err p0 p1 p2 p3 : Int) (w : World) (he : err = 0) (hk : k = 4)
 (HUP : Hid (∀ W, Below w.heap.size w W → Calls Tryz.prog 73 #[.slice ba bl bc] W fun e w' => e = .returned (.tuple #[.agg #[iv k, iv t, iv c, iv u, iv o], iv err]) ∧ Below W.heap.size W w'))
 (HPO : Hid (∀ W, Below w.heap.size w W → Calls Tryz.prog 146 #[pt R 0, .agg #[iv 4, iv t, iv c, iv u, iv o]] W fun e w' => e = .returned (.agg #[iv p0, iv p1, iv p2, iv p3]) ∧ Below W.heap.size W w')) :
 Calls Tryz.prog 121 #[pt R 0, .slice ba bl bc] w fun e w' => e = .returned (.agg #[iv p0, iv p1, iv p2, iv p3]) ∧ Below w.heap.size w w' := by
 subst he
 subst hk
 go_enter Tryz.func121, Tryz.ntmps121
 go_wp2_with fail
 refine (HUP.out _ bL).mono ?_
 rintro e w1 ⟨rfl, b1⟩
 have w01 : Below w.heap.size w w1 := Below.trans (show Below w.heap.size w _ from bL) (b1.mono (by simp))
 have n0 : w1.heap[w.heap.size]? = some (.cells #[iv 0, iv 0, iv 0, iv 0] 42 (0, 0)) := (b1.block _ (by simp)).trans (heap_alloc_new w _)
 have hz : w.heap.size < w1.heap.size := (blt n0)
 have hne : w1.heap.size ≠ w.heap.size := by omega
 clear b1
 go_wp2_with fail
 refine (HPO.out _ bL).mono ?_
 rintro e w2 ⟨rfl, b2⟩
 have w02 : Below w.heap.size w w2 := Below.trans (show Below w.heap.size w _ from bL) (b2.mono (by simp <;> omega))
 have n2 := (b2.block w.heap.size (by simp <;> omega)).trans ((Below.heap_alloc w1 _ _ hz).trans n0)
 have hz2 : w.heap.size < w2.heap.size := (blt n2)
 obtain ⟨s0, s1, s2, s3⟩ := four_cells n2
 have f0 := row_free n2 0
 have f1 := row_free n2 1
 have f2 := row_free n2 2
 have f3 := row_free n2 3
 clear b2 n0 n2
 go_wp2
 refine bodyPost_ret (v := .agg #[iv p0, iv p1, iv p2, iv p3]) (by simp [results, Tryz.results121, go_sem, *]) rfl ⟨rfl, ?_⟩
 exact bL
section
def Ans.val (a : Ans) : Value := .agg #[.string a.frame, iv a.token, iv a.rep.kind, iv a.rep.order, iv a.rep.cents, iv a.rep.upto, iv a.at']
def Sal.remem (S : Sal) (a : Ans) : Bool := decide (S.now - a.at' < S.C.keep)
def Sal.answers (S : Sal) : Nat := (S.ansL.filter S.remem).length
def ansAt (w : World) (g i : Nat) (a : Ans) : Prop :=
 w.cell? (aq g (i * 7)) = some (.string a.frame) ∧ w.cell? (aq g (i * 7 + 1)) = some (iv a.token) ∧ w.cell? (aq g (i * 7 + 2)) = some (iv a.rep.kind) ∧ w.cell? (aq g (i * 7 + 3)) = some (iv a.rep.order) ∧ w.cell? (aq g (i * 7 + 4)) = some (iv a.rep.cents) ∧ w.cell? (aq g (i * 7 + 5)) = some (iv a.rep.upto) ∧ w.cell? (aq g (i * 7 + 6)) = some (iv a.at')
def anssAt (w : World) (v : Value) (l : List Ans) : Prop := ∃ a c, v = .slice a l.length c ∧ (0 < l.length → ∃ g, a = some (aq g 0) ∧ g < w.heap.size ∧ ∀ i, i < l.length → ansAt w g i (l.getD i ans0))
theorem anssAt_of {w : World} {B : Nat} {v : Value} {l : List Ans} {T : TypeId} (h : w.ownsRow B T 7 v l.length (flatA l)) : anssAt w v l := by
 rcases h.2 with ⟨rfl, h0⟩ | ⟨g, cap, cur, rfl, hg, hh, _⟩
 ·exact ⟨none, 0, by rw [h0], fun hp => by omega⟩
 ·refine ⟨_, _, rfl, fun _ => ⟨g, rfl, (blt hh), fun i hi => ?_⟩⟩
  have c : ∀ j, j < 7 → ∀ u, (l.getD i ans0).vals[j]? = some u → w.cell? (aq g (i * 7 + j)) = some u := fun j hj u hu => by
   have := h.cells (g := g) rfl _ _ ((flatA_at hi j hj).trans hu)
   rwa [Addr.add_lit, Nat.zero_add] at this
  exact ⟨c 0 (by omega) _ rfl, c 1 (by omega) _ rfl, c 2 (by omega) _ rfl, c 3 (by omega) _ rfl, c 4 (by omega) _ rfl, c 5 (by omega) _ rfl, c 6 (by omega) _ rfl⟩
theorem rremem_any (R : Nat) (now keep : Int) (a : Ans) (w : World) (h8 : w.cell? (aq R 8) = some (iv now)) (h5 : w.cell? (aq R 5) = some (iv keep)) (hb : 0 ≤ now ∧ now ≤ 4611686018427387904 ∧ 0 ≤ a.at' ∧ a.at' ≤ 4611686018427387904) :
 Calls Tryz.prog 147 #[pt R 0, a.val] w fun e w' => e = .returned (.bool (decide (now - a.at' < keep))) ∧ Below w.heap.size w w' := by
 have hRw : R < w.heap.size := World.block_lt_of_cell? w _ h8
 obtain ⟨f, t, ⟨k, o, c, u⟩, at'⟩ := a
 unfold Ans.val
 simp only at hb ⊢
 have hw : IntKind.i64.wrap (now - at') = now - at' := wrap_in (by omega) (by omega)
 go_enter Tryz.func147, Tryz.ntmps147
 go_wp2_with fail
 go_quiet (fail)
 go_wp2
 go_ret
 exact ⟨rfl, bL⟩
theorem ranswers_walk (R : Nat) (v : Value) (l : List Ans) (p : Ans → Bool) (w : World) (h10 : w.cell? (aq R 10) = some v) (hd : anssAt w v l) (hl : l.length * 64 ≤ 140737488355328)
 (HR : Hid (∀ a ∈ l, ∀ W, Below w.heap.size w W → Calls Tryz.prog 147 #[pt R 0, a.val] W fun e w' => e = .returned (.bool (p a)) ∧ Below W.heap.size W w')) :
 Calls Tryz.prog 126 #[pt R 0] w fun e w' => e = .returned (iv (l.filter p).length) ∧ Below w.heap.size w w' := by
 obtain ⟨a, cp, rfl, hc⟩ := hd
 have hRw : R < w.heap.size := World.block_lt_of_cell? w _ h10
 have HC : Hid (0 < l.length → ∃ g, a = some (aq g 0) ∧ g < w.heap.size ∧ ∀ i, i < l.length → ansAt w g i (l.getD i ans0)) := hc
 have H10 : Hid (w.cell? (aq R 10) = some (.slice a l.length cp)) := h10
 clear hc h10
 go_enter Tryz.func126, Tryz.ntmps126
 go_wp2_with fail
 go_loopw [3, 4] (fun n i wr => ∃ k : Nat, k ≤ l.length ∧ i = iv k ∧ n = iv ((l.take k).filter p).length ∧ Below w.heap.size w wr) (fun _ i _ => l.length - (intOf i).toNat)
 case atStart => exact ⟨0, Nat.zero_le _, rfl, rfl, Below.refl _ _⟩
 case round =>
  obtain ⟨k, hk, rfl, rfl, hbel⟩ := hrel
  have c10 := (hbel.cell (p := (aq R 10)) hRw).trans H10.out
  have hRr : R < wr.heap.size := Nat.lt_of_lt_of_le hRw hbel.size
  have hz := hbel.size
  by_cases hlt : k < l.length
  ·obtain ⟨g, rfl, hgw, hcell⟩ := HC.out (by omega)
   obtain ⟨e0, e1, e2, e3, e4, e5, e6⟩ := hcell k hlt
   have hgr : g < wr.heap.size := Nat.lt_of_lt_of_le hgw hbel.size
   have hmem : l.getD k ans0 ∈ l := by
    simp only [List.getD, List.getElem?_eq_getElem hlt, Option.getD_some]
    exact List.getElem_mem hlt
   have HRK : Hid (∀ W, Below w.heap.size w W → Calls Tryz.prog 147 #[pt R 0, (l.getD k ans0).val] W fun e w' => e = .returned (.bool (p (l.getD k ans0))) ∧ Below W.heap.size W w') := HR.out _ hmem
   have HN : Hid (((l.take (k + 1)).filter p).length = ((l.take k).filter p).length + if p (l.getD k ans0) then 1 else 0) := by
    unfold Hid
    rw [List.take_succ_eq_append_getElem hlt, List.filter_append, List.length_append]
    have : l.getD k ans0 = l[k] := by simp [List.getD, List.getElem?_eq_getElem hlt]
    rw [this]
    cases h : p l[k] <;> simp [h]
   have hfl : ((l.take k).filter p).length ≤ k := Nat.le_trans (List.length_filter_le _ _) (by simp; omega)
   replace e0 := (hbel.cell (p := (aq g (k * 7))) hgw).trans e0
   replace e1 := (hbel.cell (p := (aq g (k * 7 + 1))) hgw).trans e1
   replace e2 := (hbel.cell (p := (aq g (k * 7 + 2))) hgw).trans e2
   replace e3 := (hbel.cell (p := (aq g (k * 7 + 3))) hgw).trans e3
   replace e4 := (hbel.cell (p := (aq g (k * 7 + 4))) hgw).trans e4
   replace e5 := (hbel.cell (p := (aq g (k * 7 + 5))) hgw).trans e5
   replace e6 := (hbel.cell (p := (aq g (k * 7 + 6))) hgw).trans e6
   have b0 : (0 : Int) ≤ (k : Int) := by omega
   have b1 : (k : Int) < (l.length : Int) := by omega
   generalize l.getD k ans0 = x at e0 e1 e2 e3 e4 e5 e6 HRK HN
   generalize p x = px at HRK HN
   obtain ⟨f, t, ⟨kk, oo, cc, uu⟩, at'⟩ := x
   unfold Ans.val at HRK
   simp only at e0 e1 e2 e3 e4 e5 e6 HRK
   generalize hm1 : ((l.take (k + 1)).filter p).length = m1 at HN
   have HK : Hid (((l.take (k + 1)).filter p).length = m1) := hm1
   clear hm1
   generalize ((l.take k).filter p).length = m at HN hfl
   clear hcell HC HR
   cases px
   ·have hm2 : m1 = m := by simpa using HN.out
    go_wp2_with (go_at_call 147; refine (HRK.out _ bL).mono ?_; rintro e w1 ⟨rfl, b⟩)
    have hb1 : Below w.heap.size w w1 := Below.trans (show Below w.heap.size w _ from bL) (b.mono (by omega))
    exact ⟨⟨k + 1, by omega, by go_num, by rw [HK.out, hm2], hb1⟩, by simp [intOf]; omega⟩
   ·have hm2 : m1 = m + 1 := by simpa using HN.out
    go_wp2_with (go_at_call 147; refine (HRK.out _ bL).mono ?_; rintro e w1 ⟨rfl, b⟩)
    have hb1 : Below w.heap.size w w1 := Below.trans (show Below w.heap.size w _ from bL) (b.mono (by omega))
    exact ⟨⟨k + 1, by omega, by go_num, by rw [HK.out, hm2]; go_num, hb1⟩, by simp [intOf]; omega⟩
  ·have hke : k = l.length := by omega
   subst hke
   go_wp2
   go_ret
   exact ⟨by rw [List.take_length]; rfl, hbel⟩
section
variable {w : World} {B R : Nat} {S : Sal} {ap : Option Addr} {lp cp : Nat} {vo va : Value}
theorem ranswers_sale (h : saleAt w B R S ap lp cp vo va) (hI : salI S) (hat : ∀ a ∈ S.ansL, 0 ≤ a.at' ∧ a.at' ≤ 4611686018427387904) (hl : S.ansL.length * 64 ≤ 140737488355328) :
 ∀ W, Below w.heap.size w W → Calls Tryz.prog 126 #[pt R 0] W fun e w' => e = .returned (iv S.answers) ∧ Below W.heap.size W w' := by
 intro W hW
 have h' := saleAt_below h hW
 refine ranswers_walk R va S.ansL S.remem W (by rw [Joins.cell_of_block h'.blk]; rfl) (anssAt_of h'.ansL) hl (fun a ha W2 h2 => ?_)
 have h'' := saleAt_below h' h2
 obtain ⟨_, _, _, _, _, c5, _, _, c8, _⟩ := cells11 h''.blk
 exact rremem_any R S.now S.C.keep a W2 c8 c5 ⟨hI.now.1, hI.now.2, (hat a ha).1, (hat a ha).2⟩
end
end
end Go.Proofs.YtfhncfghblkgeaaGreat
