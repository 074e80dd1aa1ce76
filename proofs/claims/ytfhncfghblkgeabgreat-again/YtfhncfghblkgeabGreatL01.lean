import Derived.Test.YtfhncfghblkgeabGreatL00
set_option maxRecDepth 100000
set_option maxHeartbeats 2000000
namespace Go.Proofs.YtfhncfghblkgeabGreat
open Go.RowKit
def codeF : Nat → Nat → List Int
 | 0, n => [(n : Int)]
 | k + 1, n => if n < 128 then [(n : Int)] else ((n % 128 + 128 : Nat) : Int) :: codeF k (n / 128)
def code (n : Nat) : List Int := codeF n n
theorem codeF_any : ∀ (k k' n : Nat), n ≤ k → n ≤ k' → codeF k n = codeF k' n
 | 0, 0, _, _, _ => rfl
 | 0, k' + 1, n, h, _ => by
   have : n = 0 := by omega
   subst this; simp [codeF]
 | k + 1, 0, n, _, h => by
   have : n = 0 := by omega
   subst this; simp [codeF]
 | k + 1, k' + 1, n, h, h' => by
   unfold codeF
   split
   ·rfl
   ·rw [codeF_any k k' (n / 128) (by omega) (by omega)]
theorem code_small {n : Nat} (h : n < 128) : code n = [(n : Int)] := by
 unfold code
 cases n with
 | zero => rfl
 | succ n => simp only [codeF]; rw [if_pos h]
theorem code_great {n : Nat} (h : 128 ≤ n) : code n = ((n % 128 + 128 : Nat) : Int) :: code (n / 128) := by
 unfold code
 cases n with
 | zero => omega
 | succ n =>
   simp only [codeF]
   rw [if_neg (by omega), codeF_any n ((n + 1) / 128) ((n + 1) / 128) (by omega) (Nat.le_refl _)]
theorem code_pos (n : Nat) : 1 ≤ (code n).length := by
 by_cases h : n < 128
 ·rw [code_small h]; simp
 ·rw [code_great (by omega)]; simp
theorem code_len_le : ∀ (k n : Nat), n < 128 ^ (k + 1) → (code n).length ≤ k + 1
 | 0, n, h => by rw [code_small (by simpa using h)]; simp
 | k + 1, n, h => by
   by_cases h' : n < 128
   ·rw [code_small h']; simp
   ·rw [code_great (by omega)]
    have := code_len_le k (n / 128) (by rw [Nat.pow_succ] at h; omega)
    simp; omega
theorem code_len_one {n : Nat} : (code n).length = 1 ↔ n < 128 := by
 by_cases h : n < 128
 ·simp [code_small h, h]
 ·rw [code_great (by omega)]
  have := code_pos (n / 128)
  simp only [List.length_cons]
  constructor <;> intro h' <;> omega
theorem code_byte (n : Nat) : ∀ x ∈ code n, 0 ≤ x ∧ x < 256 := by
 suffices H : ∀ (k n : Nat), n ≤ k → ∀ x ∈ code n, 0 ≤ x ∧ x < 256 from H n n (Nat.le_refl _)
 intro k
 induction k with
 | zero => intro n h x hx; rw [code_small (by omega)] at hx; simp at hx; omega
 | succ k ih =>
   intro n h x hx
   by_cases h' : n < 128
   ·rw [code_small h'] at hx; simp at hx; omega
   ·rw [code_great (by omega)] at hx
    rcases List.mem_cons.1 hx with rfl | hx
    ·omega
    ·exact ih (n / 128) (by omega) x hx
def frameB (k : Int) (ns : List Int) : List Int := k :: ns.flatMap (fun n => code n.toNat)
end Go.Proofs.YtfhncfghblkgeabGreat
