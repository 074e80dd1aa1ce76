import Derived.Test.YtfhncfghblkgeabGreatL20
set_option maxRecDepth 100000
set_option maxHeartbeats 2000000
namespace Go.Proofs.YtfhncfghblkgeabGreat
open Go.RowKit
def Ord.wt (o : Ord) : Nat := if o.state = 12 then 2 else if o.state = 13 then 1 else 0
def liveS (os : List Ord) : Nat := (os.map Ord.wt).sum
theorem live_set {os : List Ord} {i : Nat} (h : i < os.length) (o : Ord) : liveS (os.set i o) + (os.getD i ord0).wt = liveS os + o.wt := by
 have e : os = os.take i ++ os.getD i ord0 :: os.drop (i + 1) := by
  have := List.drop_eq_getElem_cons h
  have g : os.getD i ord0 = os[i] := by simp [List.getD, List.getElem?_eq_getElem h]
  rw [g, ← this, List.take_append_drop]
 have e1 : liveS os = liveS (os.take i) + ((os.getD i ord0).wt + liveS (os.drop (i + 1))) := by
  conv => lhs; rw [e]
  simp [liveS]
 have e2 : liveS (os.set i o) = liveS (os.take i) + (o.wt + liveS (os.drop (i + 1))) := by
  rw [List.set_eq_take_append_cons_drop, if_pos h]
  simp [liveS]
 omega
theorem wt_end {o : Ord} {st now : Int} (h : st ≠ 12 ∧ st ≠ 13) : ({ o with state := st, ended := now } : Ord).wt = 0 := by
 unfold Ord.wt
 rw [if_neg h.1, if_neg h.2]
theorem live_holds {S : Sal} {q : Nat} (hq : q < S.os.length) (hw : (S.os.getD q ord0).state = 12) : liveS (S.holds q).os < liveS S.os := by
 have h1 := live_set hq { S.os.getD q ord0 with state := 13, cents := (S.put q { S.os.getD q ord0 with state := 13 }).price, upto := S.now + S.C.lease }
 have h2 : (S.os.getD q ord0).wt = 2 := by unfold Ord.wt; rw [if_pos hw]
 have h3 : ({ S.os.getD q ord0 with state := 13, cents := (S.put q { S.os.getD q ord0 with state := 13 }).price, upto := S.now + S.C.lease } : Ord).wt = 1 := by unfold Ord.wt; rw [if_neg (by show ¬ (13 : Int) = 12; decide), if_pos rfl]
 show liveS (S.os.set q _) < _
 omega
theorem live_promoteN : ∀ (n : Nat) (S : Sal), liveS (promoteN n S).os < liveS S.os ∨ promoteN n S = S
 | 0, _ => .inr rfl
 | n + 1, S => by
   unfold promoteN
   split
   ·exact .inr rfl
   ·next q qs hq =>
    split
    ·exact .inr rfl
    ·obtain ⟨_, hql, hqw⟩ := queue_tail hq ord0 (by decide)
     have h1 := live_holds hql hqw
     rcases live_promoteN n (S.holds q) with h | h
     ·exact .inl (by omega)
     ·rw [h]; exact .inl h1
theorem live_promote (S : Sal) : liveS S.promote.os < liveS S.os ∨ S.promote = S := live_promoteN _ S
theorem live_ends {S : Sal} {i : Nat} (hi : i < S.os.length) {st en : Int} (hst : st = 12 ∨ st = 13) (hs : (S.os.getD i ord0).state = st) (hen : en ≠ 12 ∧ en ≠ 13) : liveS (S.ends i en).os < liveS S.os := by
 have h1 := live_set hi { S.os.getD i ord0 with state := en, ended := S.now }
 have h2 : 1 ≤ (S.os.getD i ord0).wt := by
  unfold Ord.wt
  rcases hst with rfl | rfl
  ·rw [if_pos hs]; omega
  ·rw [if_neg (by rw [hs]; decide), if_pos hs]; omega
 rw [wt_end hen] at h1
 show liveS (S.os.set i _) < _
 omega
theorem live_pastN (S : Sal) {st en : Int} (hst : st = 12 ∨ st = 13) (hen : en ≠ 12 ∧ en ≠ 13) : ∀ k, k ≤ S.os.length → liveS (pastN S st en k).os < liveS S.os ∨ pastN S st en k = S
 | 0, _ => .inr rfl
 | k + 1, hk => by
   have ih := live_pastN S hst hen k (by omega)
   unfold pastN
   split
   ·next hc =>
    have h1 := live_ends (S := pastN S st en k) (i := k) (by rw [pastN_len]; omega) hst hc.1 hen
    rcases ih with h | h
    ·exact .inl (by omega)
    ·rw [h] at h1 ⊢; exact .inl h1
   ·exact ih
theorem live_pastN_lt {S : Sal} {st en : Int} (hst : st = 12 ∨ st = 13) (hen : en ≠ 12 ∧ en ≠ 13) {i : Nat} (hi : i < S.os.length) (hs : (S.os.getD i ord0).state = st) (hu : (S.os.getD i ord0).upto = S.now) : liveS (pastN S st en S.os.length).os < liveS S.os := by
 have key : ∀ k, i < k → k ≤ S.os.length → liveS (pastN S st en k).os < liveS S.os := by
  intro k
  induction k with
  | zero => intro h; omega
  | succ k ih =>
    intro h1 h2
    by_cases e : i < k
    ·have := ih e (by omega)
     unfold pastN
     split
     ·next hc =>
      have := live_ends (S := pastN S st en k) (i := k) (by rw [pastN_len]; omega) hst hc.1 hen
      omega
     ·exact this
    ·have e' : i = k := by omega
     subst e'
     rcases live_pastN S hst hen i (by omega) with h | h
     ·unfold pastN
      split
      ·next hc =>
       have := live_ends (S := pastN S st en i) (i := i) (by rw [pastN_len]; omega) hst hc.1 hen
       omega
      ·exact h
     ·unfold pastN
      rw [h, if_pos ⟨hs, hu⟩]
      exact live_ends hi hst hs hen
 exact key _ hi (Nat.le_refl _)
theorem live_past (S : Sal) {st en : Int} (hst : st = 12 ∨ st = 13) (hen : en ≠ 12 ∧ en ≠ 13) : liveS (S.past st en).os < liveS S.os ∨ S.past st en = S := by
 unfold Sal.past
 rcases live_promote (pastN S st en S.os.length) with h1 | h1 <;> rcases live_pastN S hst hen _ (Nat.le_refl _) with h2 | h2
 ·exact .inl (by omega)
 ·rw [h2] at h1; exact .inl (by rw [h2]; exact h1)
 ·rw [h1]; exact .inl h2
 ·rw [h1, h2]; exact .inr rfl
theorem live_past_lt {S : Sal} {st en : Int} (hst : st = 12 ∨ st = 13) (hen : en ≠ 12 ∧ en ≠ 13) {i : Nat} (hi : i < S.os.length) (hs : (S.os.getD i ord0).state = st) (hu : (S.os.getD i ord0).upto = S.now) : liveS (S.past st en).os < liveS S.os := by
 have h2 := live_pastN_lt hst hen hi hs hu
 unfold Sal.past
 rcases live_promote (pastN S st en S.os.length) with h1 | h1
 ·omega
 ·rw [h1]; exact h2
theorem due_one (os : List Ord) (to : Int) : ∀ k, k ≤ os.length → 0 ≤ dueT os to k → ∃ i, i < os.length ∧ ((os.getD i ord0).state = 13 ∨ (os.getD i ord0).state = 12) ∧ (os.getD i ord0).upto = dueT os to k ∧ dueT os to k ≤ to
 | 0, _, h => by simp [dueT] at h
 | k + 1, hk, h => by
   have ih := due_one os to k (by omega)
   unfold dueT at h ⊢
   split
   ·next hc => exact ⟨k, by omega, hc.1, rfl, hc.2.1⟩
   ·next hc => rw [if_neg hc] at h; exact ih h
def Sal.round (S : Sal) (t : Int) : Sal := ((({ S with now := t } : Sal).past 13 15).past 12 17)
theorem round_lt {S : Sal} {to : Int} (h : 0 ≤ S.due to) : liveS (S.round (S.due to)).os < liveS S.os := by
 obtain ⟨i, hi, hs, hu, _⟩ := due_one S.os to S.os.length (Nat.le_refl _) h
 have hu' : (S.os.getD i ord0).upto = S.due to := hu
 generalize S.due to = t at hu'
 unfold Sal.round
 have e2 := live_past (({ S with now := t } : Sal).past 13 15) (st := 12) (en := 17) (.inl rfl) (by decide)
 rcases hs with hs | hs
 ·have h1 := live_past_lt (S := { S with now := t }) (st := 13) (en := 15) (.inr rfl) (by decide) hi hs hu'
  have h1' : liveS (({ S with now := t } : Sal).past 13 15).os < liveS S.os := h1
  rcases e2 with h2 | h2
  ·omega
  ·rw [h2]; exact h1'
 ·rcases live_past ({ S with now := t } : Sal) (st := 13) (en := 15) (.inr rfl) (by decide) with h1 | h1
  ·have h1' : liveS (({ S with now := t } : Sal).past 13 15).os < liveS S.os := h1
   rcases e2 with h2 | h2
   ·omega
   ·rw [h2]; exact h1'
  ·rw [h1]
   exact live_past_lt (S := { S with now := t }) (st := 12) (en := 17) (.inl rfl) (by decide) hi hs hu'
def tickN : Nat → Sal → Int → Sal
 | 0, S, to => { S with now := to }
 | n + 1, S, to => if S.due to < 0 then { S with now := to } else tickN n (S.round (S.due to)) to
def Sal.tickTo (S : Sal) (to : Int) : Sal := tickN (liveS S.os) S to
theorem tickN_more : ∀ (n : Nat) (S : Sal) (to : Int), liveS S.os ≤ n → tickN n S to = tickN (liveS S.os) S to
 | 0, S, to, h => by
   have e : liveS S.os = 0 := by omega
   rw [e]
 | n + 1, S, to, h => by
   by_cases hd : S.due to < 0
   ·rw [tickN, if_pos hd]
    cases hl : liveS S.os with
    | zero => rfl
    | succ m => rw [tickN, if_pos hd]
   ·have hlt := round_lt (S := S) (to := to) (by omega)
    cases hl : liveS S.os with
    | zero => omega
    | succ m =>
      rw [tickN, if_neg hd, tickN, if_neg hd, tickN_more n _ to (by omega), tickN_more m _ to (by omega)]
theorem tick_stop {S : Sal} {to : Int} (h : S.due to < 0) : S.tickTo to = { S with now := to } := by
 unfold Sal.tickTo
 cases liveS S.os with
 | zero => rfl
 | succ m => rw [tickN, if_pos h]
theorem tick_go {S : Sal} {to : Int} (h : ¬ S.due to < 0) : S.tickTo to = (S.round (S.due to)).tickTo to := by
 have hlt := round_lt (S := S) (to := to) (by omega)
 unfold Sal.tickTo
 cases hl : liveS S.os with
 | zero => omega
 | succ m => rw [tickN, if_neg h, tickN_more m _ to (by omega)]
theorem past_len (S : Sal) (st en : Int) : (S.past st en).os.length = S.os.length := (promote_len _).trans (pastN_len S st en _)
theorem past_inv {S : Sal} (h : salI S) (st en : Int) (hen : en ≠ 12 ∧ en ≠ 13 ∧ en ≠ 14) : salI (S.past st en) := promote_inv _ (pastN_inv h st en hen _ (Nat.le_refl _))
def Sal.tick (S : Sal) (n : Int) : (Int × Int) × Sal :=
 if n < 0 then ((0, 3), S)
 else if n < 4611686018427387904 - S.now then ((S.now + n, 0), S.tickTo (S.now + n))
 else ((4611686018427387904, 0), S.tickTo 4611686018427387904)
section
section
variable {w w' : World} {B R : Nat} {S : Sal} {ap : Option Addr} {lp cp : Nat} {vo va : Value}
theorem salI_now (h : salI S) {t : Int} (ht : 0 ≤ t ∧ t ≤ 4611686018427387904) : salI { S with now := t } := ⟨h.units, h.stock, h.cap, h.cfg, ht, h.ords, h.prices⟩
end
section
variable {w wr : World} {B R : Nat} {S S' : Sal} {ap : Option Addr} {lp cp : Nat} {vo va : Value} {to : Int}
end
section
variable {w w' : World} {B R : Nat} {S : Sal} {ap : Option Addr} {lp cp : Nat} {vo va : Value}
end
end
section
def Sal.account (S : Sal) (c : Int) : Int × Int × Int := (unitsS S.os 13 c, unitsS S.os 14 c, unitsS S.os 12 c)
section
variable {w : World} {B R : Nat} {S : Sal} {ap : Option Addr} {lp cp : Nat} {vo va : Value}
end
section
variable {w : World} {B R : Nat} {S : Sal} {ap : Option Addr} {lp cp : Nat} {vo va : Value}
end
end
end Go.Proofs.YtfhncfghblkgeabGreat
