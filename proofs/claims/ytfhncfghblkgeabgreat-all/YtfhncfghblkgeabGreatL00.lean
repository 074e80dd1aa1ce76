import Derived.WalkKit
import Derived.Test.YtfhncfghblkgeabGreatRows
import Derived.WalkSpells
import Derived.WalkLawsBesides
import Derived.Deep.QuietTactic
import Derived.BigQuiet
import Derived.Lib.SmallJoins
import Derived.Maps.AppendAt
import Derived.Deep.RegionHeld3
import Derived.Laws.CopyOwn
import Derived.Lib.SliceRun
import Derived.Deep.AppendLies
import Derived.Deep.RegionLaw
import Derived.ProofKit
import Derived.OpenShut
import Derived.ShutString
import Derived.ChangeOld
import Derived.Below
import Derived.SizedLaws
import Derived.Deep.Slices
import Derived.Deep.AppendSrc
import Derived.Deep.RegionHeldLaw
import Derived.BigRegion
namespace Go.Proofs.YtfhncfghblkgeabGreat
open Go.RowKit
abbrev iv (n : Int) : Value := .int .i64 n
abbrev aq (b o : Nat) : Addr := ⟨b, o, none⟩
abbrev pt (b o : Nat) : Value := .pointer (some ⟨b, o, none⟩)
theorem blt {α : Type} {a : Array α} {k : Nat} {O : α} (h : a[k]? = some O) : k < a.size := (Array.getElem?_eq_some_iff.1 h).1
theorem bdN {B n : Nat} {w w1 : World} (h : Below B w w1) : Below B w (w1.drewN n) := h.trans ⟨rfl, rfl, rfl, Nat.le_refl _, fun _ _ => rfl⟩
theorem bL {B : Nat} {w W : World} (h : Below B w W := by
  repeat (first | exact Below.refl _ _ | assumption | exact Hid.out (by assumption) | refine Below.drew ?_ | refine bdN ?_ | refine Below.setCell ?_ (by first | exact Nat.le_refl _ | omega | (simp <;> omega)) _ | refine Below.alloc ?_ (by first | exact Nat.le_refl _ | omega | (simp <;> omega) | (simp [World.setCell] <;> omega)) _)) : Below B w W := h
theorem lA {α : Type} {xs : List α} {i : Nat} (h : i < xs.toArray.size) : xs.toArray[i] = xs[i]'(by simpa using h) := List.getElem_toArray h
theorem lB {α : Type} {a : α} {xs : List α} {i : Nat} (h : i + 1 < (a :: xs).length) : (a :: xs)[i + 1] = xs[i]'(by simpa using h) := List.getElem_cons_succ ..
theorem lC {α : Type} {a : α} {xs : List α} (h : 0 < (a :: xs).length) : (a :: xs)[0] = a := rfl
theorem lD {α : Type} (xs : List α) (i : Nat) (a : α) : xs.toArray.setIfInBounds i a = (xs.set i a).toArray := List.setIfInBounds_toArray ..
theorem lE {α : Type} {a b : α} {xs : List α} : (a :: xs).set 0 b = b :: xs := rfl
theorem lF {α : Type} {a b : α} {xs : List α} {n : Nat} : (a :: xs).set (n + 1) b = a :: xs.set n b := rfl
abbrev Bl (w : World) : World → Prop := Below w.heap.size w
abbrev Ca (f : FuncId) (a : Array Value) (w : World) (Q : Ending → World → Prop) : Prop := Calls Tryz.prog f a w Q
theorem cB {w : World} {b i : Nat} {cs : Array Value} {t : TypeId} {fr : Nat × Nat} (h : w.heap[b]? = some (.cells cs t fr)) : w.cell? ⟨b, i, none⟩ = cs[i]? := Joins.cell_of_block h i
theorem zq1 (w : World) (a : Array Value) (s : TypeId) (b : Array Value) (t : TypeId) : Hid (((w.alloc (.cells a s)).alloc (.cells b t)).heap[w.heap.size]? = some (.cells a s)) := (Below.heap_alloc _ _ _ (by simp)).trans (heap_alloc_new w _)
theorem zq2 (w : World) (a : Array Value) (s : TypeId) (b : Array Value) (t : TypeId) : Hid (((w.alloc (.cells a s)).alloc (.cells b t)).heap[w.heap.size + 1]? = some (.cells b t)) := by
  have h := heap_alloc_new (w.alloc (.cells a s)) (.cells b t)
  rwa [show (w.alloc (.cells a s)).heap.size = w.heap.size + 1 by simp] at h
theorem zq3 (w : World) (a : Array Value) (s : TypeId) (b : Array Value) (t : TypeId) : Hid (Below w.heap.size w ((w.alloc (.cells a s)).alloc (.cells b t))) := ((Below.refl _ _).alloc (Nat.le_refl _) _).alloc (by simp) _
theorem uA : type_of% @Nat.le_refl := @Nat.le_refl
theorem uB : type_of% @Nat.lt_of_lt_of_le := @Nat.lt_of_lt_of_le
theorem uC : type_of% @World.block_lt_of_cell? := @World.block_lt_of_cell?
theorem uD : type_of% @List.getElem?_eq_getElem := @List.getElem?_eq_getElem
theorem uE : type_of% @Below.heap_alloc := @Below.heap_alloc
theorem uF : type_of% @heap_alloc_new := @heap_alloc_new
theorem uG : type_of% @Below.heap_setCell := @Below.heap_setCell
theorem uH : type_of% @Joins.block_setCell := @Joins.block_setCell
theorem uI : type_of% @Joins.cell_of_block := @Joins.cell_of_block
theorem uJ : type_of% @World.ownsRow.lt := @World.ownsRow.lt
theorem uK : type_of% @bodyPost_ret := @bodyPost_ret
theorem uL : type_of% @Below.trans := @Below.trans
theorem uM : type_of% @Below.refl := @Below.refl
theorem uP : type_of% @if_neg := @if_neg
theorem uQ : type_of% @if_pos := @if_pos
theorem uV : type_of% @World.cell?_of_block := @World.cell?_of_block
theorem uW : type_of% @World.frozen?_of_block := @World.frozen?_of_block
theorem uX : type_of% @Nat.le_trans := @Nat.le_trans
theorem uY : type_of% @Nat.le_of_lt := @Nat.le_of_lt
theorem uR : type_of% @results_none := @results_none
theorem vA : type_of% @Nat.lt_of_le_of_lt := @Nat.lt_of_le_of_lt
theorem vB : type_of% @Nat.lt_irrefl := @Nat.lt_irrefl
theorem vE : type_of% @Array.getElem?_setIfInBounds := @Array.getElem?_setIfInBounds
theorem uO {P : Prop} (h : P := by omega) : P := h
theorem uS {P : Prop} (h : P := by simp <;> omega) : P := h
theorem uT {P : Prop} (h : P := by simp; omega) : P := h
theorem uU {P : Prop} (h : P := by simp [go_sem]) : P := h
theorem vK {P : Prop} (h : P := by kernel_rfl) : P := h
theorem vS {P : Prop} (h : P := by simp) : P := h
theorem vO {P : Prop} (h : P := by decide) : P := h
theorem vP {P : Prop} (h : P := by assumption) : P := h
theorem vN {P : Prop} (h : P := by go_num) : P := h
theorem uN {P : Prop} (h : P := by simp [go_sem, *]) : P := h
end Go.Proofs.YtfhncfghblkgeabGreat
namespace Go
abbrev World.sc (w : World) (b i : Nat) (v : Value) : World := w.setCell ⟨b, i, none⟩ v
end Go
