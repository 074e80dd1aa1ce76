/-
  Walks of the leaves: number, groups, is, numbersOf, areNumbers.
-/
import Derived.Test.YtfhncfghblkgeaaGreatRows
import Derived.Test.YtfhncfghblkgeaaGreatPlain
import Derived.WalkKit
import Derived.WalkSpells
import Derived.WalkLawsBesides
import Derived.Deep.QuietTactic
import Derived.BigQuiet
namespace Go.Proofs.YtfhncfghblkgeaaGreat
open Go.RowKit

/-- Is n from 1 to MaxNumber? -/
def numB (n : Int) : Bool := decide (1 ≤ n) && decide (n ≤ 4294967296)

theorem ret_int {k : IntKind} {a b : Int} (h : a = b) : Ending.returned (.int k a) = .returned (.int k b) := by rw [h]

theorem code_len9 {n : Nat} (hn : n < 9223372036854775808) : (code n).length ≤ 9 := code_len_le 8 n (Nat.lt_of_lt_of_le hn (by decide))

theorem groups_step {n m j : Nat} (h : ¬ m < 128) (hc : (code n).length + 1 = j + (code m).length) : (code n).length + 1 = j + 1 + (code (m / 128)).length := by
  rw [code_great (n := m) (by omega), List.length_cons] at hc; omega
theorem groups_end {n m j : Nat} (h : m < 128) (hc : (code n).length + 1 = j + (code m).length) : j = (code n).length := by
  have := code_len_one.2 h; omega

/-- The numbers of a request, by its kind. -/
def numsOf (k t c u o : Int) : List Int := if k = 1 then [t, c, u] else if k = 2 ∨ k = 3 then [t, c, o] else if k = 4 then [c, o] else []

/-- Is this a request? -/
def isB (k t c u o : Int) : Bool :=
  if k = 1 then numB t && numB c && numB u && o == 0
  else if k = 2 ∨ k = 3 then numB t && numB c && numB o && u == 0
  else if k = 4 then numB c && numB o && t == 0 && u == 0
  else false

end Go.Proofs.YtfhncfghblkgeaaGreat
