import Derived.Test.YtfhncfghblkgeabGreatL02
import Derived.Test.YtfhncfghblkgeabGreatL19
set_option maxRecDepth 100000
set_option maxHeartbeats 2000000
namespace Go.Proofs.YtfhncfghblkgeabGreat
open Go.RowKit
section
def Sal.doS (S : Sal) (r : Req) : Rep × Sal := if r.kind = 1 then S.ask r else if r.kind = 2 then S.confirm r else S.cancel r
def Sal.used (S : Sal) (t : Int) : Option Ans := S.ansL.find? (fun a => S.remem a && a.token == t)
def Sal.send (S : Sal) (bs : List Int) (r : Req) (err : Int) : Rep × Sal :=
 if err ≠ 0 then (⟨1, 0, 0, 0⟩, S)
 else if r.kind = 4 then (S.poll r, S)
 else match S.used r.token with
  | some a => if a.frame = strOfNums bs then (a.rep, S) else (⟨10, 0, 0, 0⟩, S)
  | none =>
    if (S.answers : Int) = S.C.tokens then (⟨11, 0, 0, 0⟩, S)
    else ((S.doS r).1, { (S.doS r).2 with ansL := (S.doS r).2.ansL ++ [⟨strOfNums bs, r.token, (S.doS r).1, S.now⟩] })
theorem promoteN_keep : ∀ (n : Nat) (S : Sal), (promoteN n S).C = S.C ∧ (promoteN n S).now = S.now ∧ (promoteN n S).ansL = S.ansL
 | 0, _ => ⟨rfl, rfl, rfl⟩
 | n + 1, S => by
   unfold promoteN
   split
   ·exact ⟨rfl, rfl, rfl⟩
   ·split
    ·exact ⟨rfl, rfl, rfl⟩
    ·exact promoteN_keep n _
theorem promote_keep (S : Sal) : S.promote.C = S.C ∧ S.promote.now = S.now ∧ S.promote.ansL = S.ansL := promoteN_keep _ S
theorem drainS_keep : ∀ (qs : List Nat) (S : Sal), (drainS S qs).C = S.C ∧ (drainS S qs).now = S.now ∧ (drainS S qs).ansL = S.ansL
 | [], _ => ⟨rfl, rfl, rfl⟩
 | q :: qs, S => by
   have e : drainS S (q :: qs) = drainS (if S.left < (S.os.getD q ord0).units then S.ends q 18 else S) qs := rfl
   rw [e]
   split
   ·exact drainS_keep qs _
   ·exact drainS_keep qs _
theorem ask_same (S : Sal) (r : Req) : (S.ask r).2.C = S.C ∧ (S.ask r).2.now = S.now ∧ (S.ask r).2.ansL = S.ansL := by
 unfold Sal.ask
 split
 ·exact ⟨rfl, rfl, rfl⟩
 split
 ·exact ⟨rfl, rfl, rfl⟩
 split
 ·exact ⟨rfl, rfl, rfl⟩
 split
 ·exact ⟨rfl, rfl, rfl⟩
 split <;> exact ⟨rfl, rfl, rfl⟩
theorem cancel_same (S : Sal) (r : Req) : (S.cancel r).2.C = S.C ∧ (S.cancel r).2.now = S.now ∧ (S.cancel r).2.ansL = S.ansL := by
 unfold Sal.cancel
 split
 ·exact ⟨rfl, rfl, rfl⟩
 ·split
  ·exact ⟨rfl, rfl, rfl⟩
  ·exact promote_keep _
theorem confirm_same (S : Sal) (r : Req) : (S.confirm r).2.C = S.C ∧ (S.confirm r).2.now = S.now ∧ (S.confirm r).2.ansL = S.ansL := by
 unfold Sal.confirm
 split
 ·exact ⟨rfl, rfl, rfl⟩
 ·next i _ =>
  split
  ·exact ⟨rfl, rfl, rfl⟩
  ·obtain ⟨a, b, c⟩ := promote_keep (drainS (S.ends i 14) (queueS (S.ends i 14).os))
   obtain ⟨d, e, f⟩ := drainS_keep (queueS (S.ends i 14).os) (S.ends i 14)
   exact ⟨a.trans d, b.trans e, c.trans f⟩
theorem doS_same (S : Sal) (r : Req) : (S.doS r).2.C = S.C ∧ (S.doS r).2.now = S.now ∧ (S.doS r).2.ansL = S.ansL := by
 unfold Sal.doS
 split
 ·exact ask_same S r
 split
 ·exact confirm_same S r
 ·exact cancel_same S r
section
variable {w w' : World} {B R : Nat} {S : Sal} {ap : Option Addr} {lp cp : Nat} {vo va : Value}
end
end
section
theorem used_some {S : Sal} {t : Int} {a : Ans} (h : S.used t = some a) : ∃ i, i < S.ansL.length ∧ S.ansL.getD i ans0 = a ∧ S.remem a = true ∧ a.token = t ∧ ∀ j, j < i → ¬ (S.remem (S.ansL.getD j ans0) = true ∧ (S.ansL.getD j ans0).token = t) := by
 unfold Sal.used at h
 obtain ⟨hp, i, hi, e, hf⟩ := List.find?_eq_some_iff_getElem.1 h
 simp only [Bool.and_eq_true, beq_iff_eq] at hp
 refine ⟨i, hi, by simp [List.getD, List.getElem?_eq_getElem hi, e], hp.1, hp.2, fun j hj => ?_⟩
 have := hf j hj
 have hjl : j < S.ansL.length := by omega
 simp only [List.getD, List.getElem?_eq_getElem hjl, Option.getD_some]
 simp only [Bool.not_eq_true', Bool.and_eq_false_iff, beq_eq_false_iff_ne] at this
 rintro ⟨a1, a2⟩
 rcases this with x | x
 ·rw [a1] at x; cases x
 ·exact x a2
theorem isB_num {k t c u o : Int} (h : isB k t c u o = true) : (k = 1 ∧ 1 ≤ c ∧ 1 ≤ u ∧ u ≤ 4294967296) ∨ ((k = 2 ∨ k = 3) ∧ 1 ≤ o ∧ o ≤ 4294967296) ∨ (k = 4 ∧ 1 ≤ o ∧ o ≤ 4294967296) := by
 unfold isB numB at h
 split at h
 ·next e => simp at h; exact .inl ⟨e, by omega, by omega, by omega⟩
 split at h
 ·next e => simp at h; exact .inr (.inl ⟨e, by omega, by omega⟩)
 split at h
 ·next e => simp at h; exact .inr (.inr ⟨e, by omega, by omega⟩)
 ·cases h
section
variable {w w' : World} {B R : Nat} {S : Sal} {ap : Option Addr} {lp cp : Nat} {vo va : Value}
end
end
section
def dueT (os : List Ord) (to : Int) : Nat → Int
 | 0 => -1
 | k + 1 => if ((os.getD k ord0).state = 13 ∨ (os.getD k ord0).state = 12) ∧ (os.getD k ord0).upto ≤ to ∧ (dueT os to k < 0 ∨ (os.getD k ord0).upto < dueT os to k) then (os.getD k ord0).upto else dueT os to k
def Sal.due (S : Sal) (to : Int) : Int := dueT S.os to S.os.length
section
variable {w : World} {B R : Nat} {S : Sal} {ap : Option Addr} {lp cp : Nat} {vo va : Value}
end
end
section
def pastN (S : Sal) (st en : Int) : Nat → Sal
 | 0 => S
 | k + 1 => if ((pastN S st en k).os.getD k ord0).state = st ∧ ((pastN S st en k).os.getD k ord0).upto = S.now then (pastN S st en k).ends k en else pastN S st en k
def Sal.past (S : Sal) (st en : Int) : Sal := (pastN S st en S.os.length).promote
theorem pastN_len (S : Sal) (st en : Int) : ∀ k, (pastN S st en k).os.length = S.os.length
 | 0 => rfl
 | k + 1 => by
   have ih := pastN_len S st en k
   unfold pastN
   split
   ·rw [ends_len]; exact ih
   ·exact ih
theorem pastN_keep (S : Sal) (st en : Int) : ∀ k, (pastN S st en k).C = S.C ∧ (pastN S st en k).now = S.now ∧ (pastN S st en k).ansL = S.ansL
 | 0 => ⟨rfl, rfl, rfl⟩
 | k + 1 => by
   have ih := pastN_keep S st en k
   unfold pastN
   split
   ·exact ih
   ·exact ih
theorem pastN_inv {S : Sal} (h : salI S) (st en : Int) (hen : en ≠ 12 ∧ en ≠ 13 ∧ en ≠ 14) : ∀ k, k ≤ S.os.length → salI (pastN S st en k)
 | 0, _ => h
 | k + 1, hk => by
   have ih := pastN_inv h st en hen k (by omega)
   unfold pastN
   split
   ·exact salI_end ih (by rw [pastN_len]; omega) en (.inr hen) (fun e => absurd e hen.2.2)
   ·exact ih
section
variable {w : World} {B R : Nat} {S : Sal} {ap : Option Addr} {lp cp : Nat} {vo va : Value}
end
end
end Go.Proofs.YtfhncfghblkgeabGreat
