import Derived.WalkKit
import Derived.Test.YtfhncfghblkgeaaGreatRows
import Derived.ProofKit
import Derived.OpenShut
import Derived.ShutString
import Derived.ChangeOld
import Derived.Below
import Derived.Lib.SmallJoins
import Derived.Maps.AppendAt
import Derived.Deep.RegionHeld3
import Derived.WalkSpells
import Derived.WalkLawsBesides
import Derived.Deep.QuietTactic
import Derived.BigQuiet
import Derived.Laws.CopyOwn
import Derived.Lib.SliceRun
import Derived.Deep.AppendSrc
import Derived.Deep.AppendLies
import Derived.Deep.RegionHeldLaw
import Derived.BigRegion
import Derived.SizedLaws
import Derived.Deep.Slices
import Derived.Deep.RegionLaw
namespace Go.Proofs.YtfhncfghblkgeaaGreat
open Go.RowKit
abbrev iv (n : Int) : Value := .int .i64 n
abbrev aq (b o : Nat) : Addr := ⟨b, o, none⟩
abbrev pt (b o : Nat) : Value := .pointer (some ⟨b, o, none⟩)
theorem blt {α : Type} {a : Array α} {k : Nat} {O : α} (h : a[k]? = some O) : k < a.size := (Array.getElem?_eq_some_iff.1 h).1
theorem bdN {B n : Nat} {w w1 : World} (h : Below B w w1) : Below B w (w1.drewN n) := h.trans ⟨rfl, rfl, rfl, Nat.le_refl _, fun _ _ => rfl⟩
theorem bL {B : Nat} {w W : World} (h : Below B w W := by
  repeat (first | exact Below.refl _ _ | assumption | exact Hid.out (by assumption) | refine Below.drew ?_ | refine bdN ?_ | refine Below.setCell ?_ (by first | exact Nat.le_refl _ | omega | (simp <;> omega)) _ | refine Below.alloc ?_ (by first | exact Nat.le_refl _ | omega | (simp <;> omega) | (simp [World.setCell] <;> omega)) _)) : Below B w W := h
theorem lA {α : Type} {xs : List α} {i : Nat} (h : i < xs.toArray.size) : xs.toArray[i] = xs[i]'(by simpa using h) := List.getElem_toArray h
theorem lB {α : Type} {a : α} {xs : List α} {i : Nat} (h : i + 1 < (a :: xs).length) : (a :: xs)[i + 1] = xs[i]'(by simpa using h) := List.getElem_cons_succ ..
theorem lC {α : Type} {a : α} {xs : List α} (h : 0 < (a :: xs).length) : (a :: xs)[0] = a := rfl
theorem lD {α : Type} (xs : List α) (i : Nat) (a : α) : xs.toArray.setIfInBounds i a = (xs.set i a).toArray := List.setIfInBounds_toArray ..
theorem lE {α : Type} {a b : α} {xs : List α} : (a :: xs).set 0 b = b :: xs := rfl
theorem lF {α : Type} {a b : α} {xs : List α} {n : Nat} : (a :: xs).set (n + 1) b = a :: xs.set n b := rfl
end Go.Proofs.YtfhncfghblkgeaaGreat
