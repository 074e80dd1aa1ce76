import Derived.Test.YtfhncfghblkgeabGreatL03
set_option maxRecDepth 100000
set_option maxHeartbeats 2000000
namespace Go.Proofs.YtfhncfghblkgeabGreat
open Go.RowKit
structure Ord where
 cust : Int
 units : Int
 state : Int
 cents : Int
 upto : Int
 ended : Int
structure Rep where
 kind : Int
 order : Int
 cents : Int
 upto : Int
structure Ans where
 frame : ByteArray
 token : Int
 rep : Rep
 at' : Int
structure Cfg where
 stock : Int
 cap : Int
 queue : Int
 lease : Int
 wait : Int
 keep : Int
 tokens : Int
 prices : List (Int × Int)
structure Sal where
 C : Cfg
 now : Int
 os : List Ord
 ansL : List Ans
def ord0 : Ord := ⟨0, 0, 0, 0, 0, 0⟩
def rep0 : Rep := ⟨0, 0, 0, 0⟩
def ans0 : Ans := ⟨ByteArray.empty, 0, rep0, 0⟩
def Ord.is (o : Ord) (st c : Int) : Bool := o.state == st && (c == 0 || o.cust == c)
def unitsS (os : List Ord) (st c : Int) : Int := (os.map (fun o => if o.is st c then o.units else 0)).sum
theorem units_nonneg {os : List Ord} (st c : Int) (h : ∀ o ∈ os, 0 ≤ o.units) : 0 ≤ unitsS os st c := by
 induction os with
 | nil => simp [unitsS]
 | cons o os ih =>
   have h1 := ih (fun o ho => h o (List.mem_cons_of_mem _ ho))
   have h2 := h o (List.mem_cons_self)
   simp only [unitsS, List.map_cons, List.sum_cons] at h1 ⊢
   split <;> omega
def Sal.left (S : Sal) : Int := S.C.stock - unitsS S.os 14 0
def Sal.free (S : Sal) : Int := S.left - unitsS S.os 13 0
def queueT (os : List Ord) : Nat → List Nat
 | 0 => []
 | k + 1 => if (os.getD k ord0).state = 12 then queueT os k ++ [k] else queueT os k
def queueS (os : List Ord) : List Nat := queueT os os.length
def priceT (ps : List (Int × Int)) (sold : Int) : Nat → Int
 | 0 => 0
 | k + 1 => if (ps.getD k (0, 0)).1 ≤ sold then (ps.getD k (0, 0)).2 else priceT ps sold k
def Sal.price (S : Sal) : Int := priceT S.C.prices (unitsS S.os 14 0) S.C.prices.length
def Ord.vals (o : Ord) : List Value := [iv o.cust, iv o.units, iv o.state, iv o.cents, iv o.upto, iv o.ended]
def Ans.vals (a : Ans) : List Value := [.string a.frame, iv a.token, iv a.rep.kind, iv a.rep.order, iv a.rep.cents, iv a.rep.upto, iv a.at']
theorem wrap_in {n : Int} (h0 : -9223372036854775808 ≤ n) (h1 : n ≤ 9223372036854775807) : IntKind.i64.wrap n = n := by
 rw [IntKind.wrap_i64]
 omega
section
section
variable {w : World} {B R : Nat} {S : Sal} {ap : Option Addr} {lp cp : Nat} {vo va : Value}
end
section
variable {w : World} {B R : Nat} {S : Sal} {ap : Option Addr} {lp cp : Nat} {vo va : Value}
end
theorem Tryz.infoInt : (Tryz.prog.info? 3).map (fun i => (i.zero, i.size, i.bytes)) = some (some (iv 0), 1, 8) := by kernel_rfl
theorem queueT_lt (os : List Ord) : ∀ k, ∀ q ∈ queueT os k, q < k
 | 0, q, h => by simp [queueT] at h
 | k + 1, q, h => by
   unfold queueT at h
   split at h
   ·rcases List.mem_append.1 h with h | h
    ·have := queueT_lt os k q h; omega
    ·simp at h; omega
   ·have := queueT_lt os k q h; omega
section
variable {w : World} {B R : Nat} {S : Sal} {ap : Option Addr} {lp cp : Nat} {vo va : Value}
end
section
variable {w : World} {B R : Nat} {S : Sal} {ap : Option Addr} {lp cp : Nat} {vo va : Value}
end
end
section
def Sal.put (S : Sal) (i : Nat) (o : Ord) : Sal := { S with os := S.os.set i o }
section
variable {w w' : World} {B R : Nat} {S : Sal} {ap : Option Addr} {lp cp : Nat} {vo va : Value}
end
def Sal.ends (S : Sal) (i : Nat) (st : Int) : Sal := S.put i { S.os.getD i ord0 with state := st, ended := S.now }
section
variable {w w' : World} {B R : Nat} {S : Sal} {ap : Option Addr} {lp cp : Nat} {vo va : Value}
end
end
def Ord.part (o : Ord) (st c : Int) : Int := if o.is st c then o.units else 0
theorem units_set {os : List Ord} {i : Nat} (h : i < os.length) (o : Ord) (st c : Int) : unitsS (os.set i o) st c = unitsS os st c - (os.getD i ord0).part st c + o.part st c := by
 have e : os = os.take i ++ os.getD i ord0 :: os.drop (i + 1) := by
  have := List.drop_eq_getElem_cons h
  have g : os.getD i ord0 = os[i] := by simp [List.getD, List.getElem?_eq_getElem h]
  rw [g, ← this, List.take_append_drop]
 have e1 : unitsS os st c = unitsS (os.take i) st c + ((os.getD i ord0).part st c + unitsS (os.drop (i + 1)) st c) := by
  conv => lhs; rw [e]
  simp [unitsS, Ord.part]
 have e2 : unitsS (os.set i o) st c = unitsS (os.take i) st c + (o.part st c + unitsS (os.drop (i + 1)) st c) := by
  rw [List.set_eq_take_append_cons_drop, if_pos h]
  simp [unitsS, Ord.part]
 omega
theorem units_snoc (os : List Ord) (o : Ord) (st c : Int) : unitsS (os ++ [o]) st c = unitsS os st c + o.part st c := by simp [unitsS, Ord.part]
theorem getD_set {os : List Ord} {i k : Nat} (o : Ord) (h : i < os.length) : (os.set i o).getD k ord0 = if k = i then o else os.getD k ord0 := by
 simp only [List.getD, List.getElem?_set]
 by_cases e : i = k
 ·subst e
  simp [h]
 ·rw [if_neg e, if_neg (fun c => e c.symm)]
theorem queueT_mem (os : List Ord) : ∀ k q, q ∈ queueT os k ↔ q < k ∧ (os.getD q ord0).state = 12
 | 0, q => by simp [queueT]
 | k + 1, q => by
   have ih := queueT_mem os k q
   unfold queueT
   split
   ·next h =>
    rw [List.mem_append, ih]
    constructor
    ·rintro (⟨h1, h2⟩ | h1)
     ·exact ⟨by omega, h2⟩
     ·simp at h1; subst h1; exact ⟨by omega, h⟩
    ·rintro ⟨h1, h2⟩
     by_cases e : q = k
     ·exact .inr (by simp [e])
     ·exact .inl ⟨by omega, h2⟩
   ·next h =>
    rw [ih]
    constructor
    ·rintro ⟨h1, h2⟩; exact ⟨by omega, h2⟩
    ·rintro ⟨h1, h2⟩
     refine ⟨?_, h2⟩
     by_cases e : q = k
     ·subst e; exact absurd h2 h
     ·omega
theorem queueT_sorted (os : List Ord) : ∀ k, (queueT os k).Pairwise (· < ·)
 | 0 => by simp [queueT]
 | k + 1 => by
   have ih := queueT_sorted os k
   unfold queueT
   split
   ·rw [List.pairwise_append]
    exact ⟨ih, by simp, fun a ha b hb => by
     have hb' : b = k := by simpa using hb
     rw [hb']
     exact queueT_lt os k a ha⟩
   ·exact ih
theorem queueT_set {os : List Ord} {i : Nat} (o : Ord) (h : i < os.length) (ho : o.state ≠ 12) : ∀ k, queueT (os.set i o) k = (queueT os k).filter (· != i)
 | 0 => by simp [queueT]
 | k + 1 => by
   have ih := queueT_set o h ho k
   by_cases e : k = i
   ·subst e
    have h1 : ((os.set k o).getD k ord0).state ≠ 12 := by rw [getD_set o h, if_pos rfl]; exact ho
    have h0 : (queueT os k).filter (· != k) = queueT os k := by
     rw [List.filter_eq_self]
     intro q hq
     have := queueT_lt os k q hq
     simp; omega
    have hl : queueT (os.set k o) (k + 1) = queueT os k := by rw [queueT, if_neg h1, ih, h0]
    rw [hl]
    by_cases hs : (os.getD k ord0).state = 12
    ·have hr : queueT os (k + 1) = queueT os k ++ [k] := by rw [queueT, if_pos hs]
     rw [hr, List.filter_append, h0]
     simp
    ·have hr : queueT os (k + 1) = queueT os k := by rw [queueT, if_neg hs]
     rw [hr, h0]
   ·have h1 : ((os.set i o).getD k ord0) = os.getD k ord0 := by rw [getD_set o h, if_neg e]
    by_cases hs : (os.getD k ord0).state = 12
    ·have hr : queueT os (k + 1) = queueT os k ++ [k] := by rw [queueT, if_pos hs]
     have hl : queueT (os.set i o) (k + 1) = queueT (os.set i o) k ++ [k] := by rw [queueT, h1, if_pos hs]
     rw [hl, hr, List.filter_append, ih]
     simp [e]
    ·have hr : queueT os (k + 1) = queueT os k := by rw [queueT, if_neg hs]
     have hl : queueT (os.set i o) (k + 1) = queueT (os.set i o) k := by rw [queueT, h1, if_neg hs]
     rw [hl, hr, ih]
theorem queue_set {os : List Ord} {i : Nat} (o : Ord) (h : i < os.length) (ho : o.state ≠ 12) : queueS (os.set i o) = (queueS os).filter (· != i) := by
 unfold queueS
 rw [List.length_set]
 exact queueT_set o h ho _
theorem queue_tail {os : List Ord} {q : Nat} {qs : List Nat} (hq : queueS os = q :: qs) (o : Ord) (ho : o.state ≠ 12) : queueS (os.set q o) = qs ∧ q < os.length ∧ (os.getD q ord0).state = 12 := by
 have hm : q ∈ queueS os := by rw [hq]; simp
 obtain ⟨h1, h2⟩ := (queueT_mem os _ q).1 hm
 refine ⟨?_, h1, h2⟩
 rw [queue_set o h1 ho, hq, List.filter_cons_of_neg (by simp), List.filter_eq_self]
 intro a ha
 have hs := queueT_sorted os os.length
 have hs' : (q :: qs).Pairwise (· < ·) := by rw [← hq]; exact hs
 have := List.rel_of_pairwise_cons hs' ha
 simp; omega
def Sal.holds (S : Sal) (i : Nat) : Sal := S.put i { S.os.getD i ord0 with state := 13, cents := (S.put i { S.os.getD i ord0 with state := 13 }).price, upto := S.now + S.C.lease }
def promoteN : Nat → Sal → Sal
 | 0, S => S
 | n + 1, S => match queueS S.os with
   | [] => S
   | q :: _ => if S.free < (S.os.getD q ord0).units then S else promoteN n (S.holds q)
def Sal.promote (S : Sal) : Sal := promoteN (queueS S.os).length S
theorem promote_nil {S : Sal} (h : queueS S.os = []) : S.promote = S := by unfold Sal.promote; rw [h]; rfl
theorem promote_stop {S : Sal} {q : Nat} {qs : List Nat} (h : queueS S.os = q :: qs) (hf : S.free < (S.os.getD q ord0).units) : S.promote = S := by
 unfold Sal.promote
 rw [h]
 simp only [List.length_cons, promoteN, h, if_pos hf]
theorem holds_queue {S : Sal} {q : Nat} {qs : List Nat} (h : queueS S.os = q :: qs) : queueS (S.holds q).os = qs := (queue_tail h _ (by simp)).1
theorem promote_go {S : Sal} {q : Nat} {qs : List Nat} (h : queueS S.os = q :: qs) (hf : ¬ S.free < (S.os.getD q ord0).units) : S.promote = (S.holds q).promote := by
 unfold Sal.promote
 rw [h, holds_queue h]
 simp only [List.length_cons, promoteN, h, if_neg hf]
structure salI (S : Sal) : Prop where
 units : ∀ o ∈ S.os, 1 ≤ o.units ∧ o.units ≤ 4294967296
 stock : unitsS S.os 13 0 + unitsS S.os 14 0 ≤ S.C.stock
 cap : ∀ c, c ≠ 0 → unitsS S.os 12 c ≤ 4294967296
 cfg : 0 ≤ S.C.stock ∧ S.C.stock ≤ 4294967296 ∧ 0 ≤ S.C.lease ∧ S.C.lease ≤ 4294967296 ∧ 0 ≤ S.C.wait ∧ S.C.wait ≤ 4294967296
 now : 0 ≤ S.now ∧ S.now ≤ 4611686018427387904
 ords : ∀ o ∈ S.os, (0 ≤ o.cents ∧ o.cents ≤ 1073741824) ∧ (0 ≤ o.ended ∧ o.ended ≤ 4611686018427387904)
 prices : ∀ p ∈ S.C.prices, 0 ≤ p.2 ∧ p.2 ≤ 1073741824
theorem priceT_bounds {ps : List (Int × Int)} (h : ∀ p ∈ ps, 0 ≤ p.2 ∧ p.2 ≤ 1073741824) (sold : Int) : ∀ k, k ≤ ps.length → 0 ≤ priceT ps sold k ∧ priceT ps sold k ≤ 1073741824
 | 0, _ => by simp [priceT]
 | k + 1, hk => by
   have ih := priceT_bounds h sold k (by omega)
   unfold priceT
   split
   ·exact h _ (getD_mem (by omega))
   ·exact ih
theorem part_le {o : Ord} (h : 0 ≤ o.units) (st c : Int) : o.part st c ≤ o.part st 0 := by
 unfold Ord.part Ord.is
 by_cases e : o.state = st <;> by_cases e2 : c = 0 <;> by_cases e3 : o.cust = c <;> simp [e, e2, e3, h]
theorem units_le {os : List Ord} (h : ∀ o ∈ os, 0 ≤ o.units) (st c : Int) : unitsS os st c ≤ unitsS os st 0 := by
 induction os with
 | nil => simp [unitsS]
 | cons o os ih =>
   have h1 := ih (fun o ho => h o (List.mem_cons_of_mem _ ho))
   have h2 := part_le (h o (List.mem_cons_self)) st c
   have e : ∀ c, unitsS (o :: os) st c = o.part st c + unitsS os st c := fun c => by simp [unitsS, Ord.part]
   rw [e, e]
   omega
theorem mem_set {os : List Ord} {i : Nat} {o x : Ord} (h : x ∈ os.set i o) : x = o ∨ x ∈ os := by
 rcases List.mem_or_eq_of_mem_set h with h | h
 ·exact .inr h
 ·exact .inl h
theorem ord_mem {os : List Ord} {i : Nat} (h : i < os.length) : os.getD i ord0 ∈ os := by
 simp only [List.getD, List.getElem?_eq_getElem h, Option.getD_some]
 exact List.getElem_mem h
theorem salI_hold {S : Sal} (h : salI S) {q : Nat} (hq : q < S.os.length) (hw : (S.os.getD q ord0).state = 12) (hf : ¬ S.free < (S.os.getD q ord0).units) (o : Ord) (h1 : o.cust = (S.os.getD q ord0).cust) (h2 : o.units = (S.os.getD q ord0).units) (h3 : o.state = 13) (h4 : (0 ≤ o.cents ∧ o.cents ≤ 1073741824) ∧ (0 ≤ o.ended ∧ o.ended ≤ 4611686018427387904)) : salI (S.put q o) := by
 have hm := ord_mem hq
 have hu := h.units _ hm
 have hst := h.stock
 have hc := h.cfg
 refine ⟨fun x hx => ?_, ?_, fun c hc0 => ?_, h.cfg, h.now, fun x hx => (mem_set hx).elim (fun e => e ▸ h4) (h.ords x), h.prices⟩
 ·rcases mem_set hx with rfl | hx
  ·rw [h2]; exact hu
  ·exact h.units x hx
 ·show unitsS (S.os.set q o) 13 0 + unitsS (S.os.set q o) 14 0 ≤ S.C.stock
  rw [units_set hq, units_set hq]
  unfold Sal.free Sal.left at hf
  generalize S.os.getD q ord0 = p at hw hf h1 h2 hu
  simp [Ord.part, Ord.is, hw, h3, h2]
  omega
 ·show unitsS (S.os.set q o) 12 c ≤ 4294967296
  rw [units_set hq]
  have := h.cap c hc0
  have hp : 0 ≤ (S.os.getD q ord0).part 12 c := by unfold Ord.part; split <;> omega
  have ho : o.part 12 c = 0 := by simp [Ord.part, Ord.is, h3]
  omega
section
section
variable {w w' : World} {B R : Nat} {S : Sal} {ap : Option Addr} {lp cp : Nat} {vo va : Value}
theorem salI_end (h : salI S) {i : Nat} (hi : i < S.os.length) (st : Int) (hst : st = 14 ∨ (st ≠ 12 ∧ st ≠ 13 ∧ st ≠ 14)) (h14 : st = 14 → (S.os.getD i ord0).state = 13) : salI (S.ends i st) := by
 have hm := ord_mem hi
 have hu := h.units _ hm
 have hoo := h.ords _ hm
 have hs := h.stock
 refine ⟨fun x hx => ?_, ?_, fun c hc0 => ?_, h.cfg, h.now, fun x hx => ?_, h.prices⟩
 ·rcases mem_set hx with rfl | hx
  ·exact hu
  ·exact h.units x hx
 ·show unitsS (S.os.set i _) 13 0 + unitsS (S.os.set i _) 14 0 ≤ S.C.stock
  rw [units_set hi, units_set hi]
  generalize S.os.getD i ord0 = p at hu h14
  obtain ⟨pc, pu, ps, pce, pup, pe⟩ := p
  simp only [Ord.part, Ord.is] at *
  rcases hst with rfl | ⟨h1, h2, h3⟩
  ·have := h14 rfl
   subst this
   simp
   omega
  ·have e1 : (st == 13) = false := by simpa using h2
   have e2 : (st == 14) = false := by simpa using h3
   simp [e1, e2]
   split <;> split <;> omega
 ·show unitsS (S.os.set i _) 12 c ≤ 4294967296
  rw [units_set hi]
  have := h.cap c hc0
  have hp : 0 ≤ (S.os.getD i ord0).part 12 c := by unfold Ord.part; split <;> omega
  have ho : Ord.part { S.os.getD i ord0 with state := st, ended := S.now } 12 c = 0 := by
   have e : (st == 12) = false := by
    rcases hst with rfl | ⟨h1, _, _⟩
    ·decide
    ·simpa using h1
   simp [Ord.part, Ord.is, e]
  omega
 ·rcases mem_set hx with rfl | hx
  ·exact ⟨hoo.1, h.now⟩
  ·exact h.ords x hx
end
end
end Go.Proofs.YtfhncfghblkgeabGreat
