import Derived.Test.YtfhncfghblkgeabGreatL00
set_option maxRecDepth 100000
set_option maxHeartbeats 2000000
namespace Go.Proofs.YtfhncfghblkgeabGreat
open Go.RowKit
def flatT (ts : List (Int × Int)) : List Value := ts.flatMap fun p => [iv p.1, iv p.2]
theorem flatT_cons (p : Int × Int) (ts : List (Int × Int)) : flatT (p :: ts) = iv p.1 :: iv p.2 :: flatT ts := rfl
theorem flatT_app (a b : List (Int × Int)) : flatT (a ++ b) = flatT a ++ flatT b := by simp [flatT]
theorem flatT_len (ts : List (Int × Int)) : (flatT ts).length = ts.length * 2 := by
 induction ts with
 | nil => rfl
 | cons p ts ih => rw [flatT_cons]; simp [ih]; omega
theorem flatT_one (ts : List (Int × Int)) : ∀ v ∈ flatT ts, v.oneCell' = true := by
 intro v hv
 obtain ⟨p, _, hv⟩ := List.mem_flatMap.1 hv
 simp at hv
 rcases hv with rfl | rfl <;> rfl
theorem flatT_at : ∀ (ts : List (Int × Int)) (i : Nat), i < ts.length → (flatT ts)[i * 2]? = some (iv (ts.getD i (0, 0)).1) ∧ (flatT ts)[i * 2 + 1]? = some (iv (ts.getD i (0, 0)).2)
 | [], i, h => by simp at h
 | p :: ts, 0, _ => by simp [flatT_cons]
 | p :: ts, i + 1, h => by
   have ih := flatT_at ts i (by simpa using h)
   rw [flatT_cons]
   have e1 : (i + 1) * 2 = i * 2 + 2 := by omega
   rw [e1]
   simpa using ih
theorem row_free {w : World} {g : Nat} {C : Array Value} {T : TypeId} (h : w.heap[g]? = some (.cells C T (0, 0))) (i : Nat) : w.frozen? (aq g i) = false := Joins.unfrozen_of_block h i
theorem ownsRow_below {w w' : World} {base B : Nat} {e : TypeId} {size : Nat} {v : Value} {n : Nat} {xs : List Value} (h : w.ownsRow base e size v n xs) (hb : Below B w w') (hB : w.heap.size ≤ B) : w'.ownsRow base e size v n xs := by
 refine ⟨h.1, ?_⟩
 rcases h.2 with h | ⟨g, cap, cur, h1, h2, h3, h4⟩
 ·exact .inl h
 ·exact .inr ⟨g, cap, cur, h1, h2, (hb.block g (by have := (blt h3); omega)).trans h3, h4⟩
structure Same (own : Nat → Prop) (w w' : World) : Prop where
 os : w'.os = w.os
 tape : w'.tape = w.tape
 output : w'.output = w.output
 size : w.heap.size ≤ w'.heap.size
 block : ∀ k, k < w.heap.size → ¬ own k → w'.heap[k]? = w.heap[k]?
theorem Same.of_below {own : Nat → Prop} {w w' : World} (h : Below w.heap.size w w') : Same own w w' := ⟨h.os, h.tape, h.output, h.size, fun k hk _ => h.block k hk⟩
theorem Same.cell {own : Nat → Prop} {w w' : World} (h : Same own w w') {b o : Nat} (hb : b < w.heap.size) (hn : ¬ own b) : w'.cell? (aq b o) = w.cell? (aq b o) := World.cell?_of_block (a := (aq b o)) (h.block b hb hn)
theorem Tryz.infoDue : (Tryz.prog.info? 123).map (fun i => (i.zero, i.size, i.bytes)) = some (some (.agg #[iv 0, iv 0]), 2, 16) := by kernel_rfl
def aheadB (a b : Int × Int) : Bool := decide (a.1 < b.1) || (a.1 == b.1 && decide (a.2 < b.2))
def idxT (L : List (Int × Int)) (id : Int) : Int := match L.findIdx? (fun p => p.2 == id) with | some i => (i : Int) | none => -1
theorem take_get (L : List (Int × Int)) {j : Nat} (h : j < L.length) : L.take (j + 1) = L.take j ++ [L.getD j (0, 0)] := by
 rw [List.take_succ_eq_append_getElem h]
 simp [List.getD, List.getElem?_eq_getElem h]
theorem flatT_snoc (l : List (Int × Int)) (p : Int × Int) : flatT (l ++ [p]) = flatT l ++ [iv p.1, iv p.2] := by rw [flatT_app]; rfl
theorem two_new {w : World} {T : TypeId} {x y : Value} : ∀ j u, ([x, y] : List Value)[j]? = some u → (w.alloc (.cells #[x, y] T)).cell? (((aq w.heap.size 0) : Addr).add j) = some u := by
 intro j u hu
 rw [Addr.add_lit, Nat.zero_add, Joins.cell_of_block (heap_alloc_new w _)]
 simpa using hu
def leastTo (L : List (Int × Int)) : Nat → Int
 | 0 => -1
 | j + 1 => if leastTo L j < 0 then (j : Int) else if aheadB (L.getD j (0, 0)) (L.getD (leastTo L j).toNat (0, 0)) then (j : Int) else leastTo L j
theorem leastTo_lt (L : List (Int × Int)) : ∀ j, leastTo L j < (j : Int) ∧ -1 ≤ leastTo L j
 | 0 => by simp [leastTo]
 | j + 1 => by
   have := leastTo_lt L j
   unfold leastTo
   split
   ·omega
   ·split <;> omega
theorem rw_cells {w : World} {R : Nat} {c0 c1 : Value} {T : TypeId} (h : w.heap[R]? = some (.cells #[c0, c1] T (0, 0))) : w.cell? (aq R 0) = some c0 ∧ w.cell? (aq R 1) = some c1 :=
 ⟨by rw [Joins.cell_of_block h]; rfl, by rw [Joins.cell_of_block h]; rfl⟩
theorem own_slice {w : World} {B n size : Nat} {T : TypeId} {v : Value} {xs : List Value} (h : w.ownsRow B T size v n xs) : ∃ a c, v = .slice a n c := by
 rcases h.2 with ⟨rfl, h0⟩ | ⟨g, cap, cur, rfl, _⟩
 ·exact ⟨none, 0, by rw [h0]⟩
 ·exact ⟨_, _, rfl⟩
def setE (now : Int) (L : List (Int × Int)) (id at' : Int) : Int := if at' ≤ now then 3 else if 0 ≤ idxT L id then 4 else 0
def setL (now : Int) (L : List (Int × Int)) (id at' : Int) : List (Int × Int) := if at' ≤ now then L else if 0 ≤ idxT L id then L else L ++ [(at', id)]
def unsetE (L : List (Int × Int)) (id : Int) : Int := if idxT L id < 0 then 5 else 0
def unsetL (L : List (Int × Int)) (id : Int) : List (Int × Int) := if idxT L id < 0 then L else L.eraseIdx (idxT L id).toNat
def firstT (L : List (Int × Int)) : Int × Int := if leastTo L L.length < 0 then (0, 0) else L.getD (leastTo L L.length).toNat (0, 0)
def firstB (L : List (Int × Int)) : Bool := decide (0 ≤ leastTo L L.length)
def advN (to : Int) : Nat → List (Int × Int) → List (Int × Int) × List (Int × Int)
 | 0, L => ([], L)
 | n + 1, L => if leastTo L L.length < 0 ∨ to < (L.getD (leastTo L L.length).toNat (0, 0)).1 then ([], L)
   else (L.getD (leastTo L L.length).toNat (0, 0) :: (advN to n (L.eraseIdx (leastTo L L.length).toNat)).1, (advN to n (L.eraseIdx (leastTo L L.length).toNat)).2)
def adv (to : Int) (L : List (Int × Int)) : List (Int × Int) × List (Int × Int) := advN to L.length L
theorem adv_stop {to : Int} {L : List (Int × Int)} (h : leastTo L L.length < 0 ∨ to < (L.getD (leastTo L L.length).toNat (0, 0)).1) : adv to L = ([], L) := by
 unfold adv
 cases hn : L.length with
 | zero => rfl
 | succ n => rw [advN, if_pos h]
theorem adv_go {to : Int} {L : List (Int × Int)} {q : Nat} (hq : leastTo L L.length = q) (hl : q < L.length) (h : (L.getD q (0, 0)).1 ≤ to) : adv to L = (L.getD q (0, 0) :: (adv to (L.eraseIdx q)).1, (adv to (L.eraseIdx q)).2) := by
 unfold adv
 have he : (L.eraseIdx q).length = L.length - 1 := List.length_eraseIdx_of_lt hl
 obtain ⟨n, hn⟩ : ∃ n, L.length = n + 1 := ⟨L.length - 1, by omega⟩
 have hf : ¬ (leastTo L L.length < 0 ∨ to < (L.getD (leastTo L L.length).toNat (0, 0)).1) := by rw [hq, Int.toNat_natCast]; omega
 rw [he, hn, Nat.add_sub_cancel, advN, if_neg hf, hq, Int.toNat_natCast]
def lenOf : Value → Nat
 | .slice _ n _ => n
 | _ => 0
def advE (now to : Int) : Int := if to < now then 3 else 0
def advO (now to : Int) (L : List (Int × Int)) : List (Int × Int) := if to < now then [] else (adv to L).1
def advL (now to : Int) (L : List (Int × Int)) : List (Int × Int) := if to < now then L else (adv to L).2
def advT (now to : Int) : Int := if to < now then now else to
theorem aheadB_iff {a b : Int × Int} : aheadB a b = true ↔ a.1 < b.1 ∨ (a.1 = b.1 ∧ a.2 < b.2) := by
 simp [aheadB]
theorem not_ahead {a b : Int × Int} : ¬ aheadB a b = true ↔ b.1 < a.1 ∨ (b.1 = a.1 ∧ b.2 ≤ a.2) := by
 rw [aheadB_iff]; omega
theorem ahead_antisymm {a b : Int × Int} (h1 : ¬ aheadB a b = true) (h2 : ¬ aheadB b a = true) : a = b := by
 rw [not_ahead] at h1 h2
 obtain ⟨a1, a2⟩ := a
 obtain ⟨b1, b2⟩ := b
 simp only at h1 h2
 have e1 : a1 = b1 := by omega
 have e2 : a2 = b2 := by omega
 rw [e1, e2]
def inOrder (L : List (Int × Int)) : Prop := L.Pairwise fun a b => ¬ aheadB b a = true
theorem leastTo_min (L : List (Int × Int)) : ∀ j, ∀ i, i < j → 0 ≤ leastTo L j ∧ ¬ aheadB (L.getD i (0, 0)) (L.getD (leastTo L j).toNat (0, 0)) = true
 | 0, i, h => by omega
 | j + 1, i, h => by
   have hb := leastTo_lt L j
   unfold leastTo
   by_cases h0 : leastTo L j < 0
   ·rw [if_pos h0]
    have hi : i = j := by
     by_cases hi : i < j
     ·have := (leastTo_min L j i hi).1; omega
     ·omega
    subst hi
    refine ⟨by omega, ?_⟩
    rw [Int.toNat_natCast, not_ahead]
    omega
   ·rw [if_neg h0]
    by_cases ha : aheadB (L.getD j (0, 0)) (L.getD (leastTo L j).toNat (0, 0)) = true
    ·rw [if_pos ha]
     refine ⟨by omega, ?_⟩
     rw [Int.toNat_natCast]
     by_cases hi : i < j
     ·have h1 := (leastTo_min L j i hi).2
      rw [aheadB_iff] at ha
      rw [not_ahead] at h1 ⊢
      omega
     ·have : i = j := by omega
      subst this
      rw [not_ahead]; omega
    ·rw [if_neg ha]
     refine ⟨by omega, ?_⟩
     by_cases hi : i < j
     ·exact (leastTo_min L j i hi).2
     ·have : i = j := by omega
      subst this
      exact ha
theorem getD_mem {L : List (Int × Int)} {q : Nat} (h : q < L.length) : L.getD q (0, 0) ∈ L := by
 simp [List.getD, List.getElem?_eq_getElem h]
theorem least_all {L : List (Int × Int)} {p : Int × Int} (hp : p ∈ L) : 0 ≤ leastTo L L.length ∧ (leastTo L L.length).toNat < L.length ∧ ¬ aheadB p (L.getD (leastTo L L.length).toNat (0, 0)) = true := by
 obtain ⟨i, hi, rfl⟩ := List.getElem_of_mem hp
 have h := leastTo_min L L.length i hi
 have hb := leastTo_lt L L.length
 refine ⟨h.1, by omega, ?_⟩
 have := h.2
 rwa [show L.getD i (0, 0) = L[i] by simp [List.getD, List.getElem?_eq_getElem hi]] at this
theorem first_nil : firstT [] = (0, 0) ∧ firstB [] = false := by simp [firstT, firstB, leastTo]
theorem first_some {L : List (Int × Int)} (h : L ≠ []) : firstB L = true ∧ firstT L ∈ L ∧ ∀ p ∈ L, ¬ aheadB p (firstT L) = true := by
 obtain ⟨p, hp⟩ := List.exists_mem_of_ne_nil L h
 have h0 := least_all hp
 have he : firstT L = L.getD (leastTo L L.length).toNat (0, 0) := by unfold firstT; rw [if_neg (by omega)]
 refine ⟨by simp [firstB]; exact h0.1, by rw [he]; exact getD_mem h0.2.1, fun p hp => ?_⟩
 rw [he]
 exact (least_all hp).2.2
theorem first_unique {L L' : List (Int × Int)} (hp : L.Perm L') {p : Int × Int} (hm : p ∈ L') (hf : ∀ r ∈ L', ¬ aheadB r p = true) : firstB L = true ∧ firstT L = p := by
 have hL : p ∈ L := hp.mem_iff.2 hm
 have h := first_some (L := L) (fun e => by rw [e] at hL; simp at hL)
 exact ⟨h.1, ahead_antisymm (hf _ (hp.mem_iff.1 h.2.1)) (h.2.2 p hL)⟩
theorem perm_eraseIdx {L : List (Int × Int)} {q : Nat} (h : q < L.length) : L.Perm (L.getD q (0, 0) :: L.eraseIdx q) := by
 have e : L.getD q (0, 0) = L[q] := by simp [List.getD, List.getElem?_eq_getElem h]
 rw [e]
 induction L generalizing q with
 | nil => simp at h
 | cons a L ih =>
   cases q with
   | zero => simp
   | succ q =>
     have hq : q < L.length := by simpa using h
     simp only [List.getElem_cons_succ, List.eraseIdx_cons_succ]
     exact ((ih hq (by simp [List.getD, List.getElem?_eq_getElem hq])).cons a).trans (List.Perm.swap _ _ _)
theorem filter_eraseIdx {L : List (Int × Int)} {q : Nat} (h : q < L.length) {f : Int × Int → Bool} (hf : f (L.getD q (0, 0)) = false) : (L.eraseIdx q).filter f = L.filter f := by
 induction L generalizing q with
 | nil => simp at h
 | cons a L ih =>
   cases q with
   | zero => simp at hf; simp [hf]
   | succ q =>
     have hq : q < L.length := by simpa using h
     have : f (L.getD q (0, 0)) = false := by simpa using hf
     simp only [List.eraseIdx_cons_succ, List.filter_cons, ih hq this]
theorem adv_spec (to : Int) : ∀ n (L : List (Int × Int)), L.length = n → (adv to L).2 = L.filter (fun p => decide (to < p.1)) ∧ (adv to L).1.Perm (L.filter (fun p => decide (p.1 ≤ to))) ∧ inOrder (adv to L).1
 | 0, L, hn => by
   have : L = [] := List.length_eq_zero_iff.1 hn
   subst this
   exact ⟨rfl, .refl _, .nil⟩
 | n + 1, L, hn => by
   obtain ⟨p, hp⟩ := List.exists_mem_of_ne_nil L (fun e => by rw [e] at hn; simp at hn)
   have h0 := least_all hp
   obtain ⟨q, hq⟩ := Int.eq_ofNat_of_zero_le h0.1
   have hql : q < L.length := by have := h0.2.1; rw [hq, Int.toNat_natCast] at this; exact this
   have hmin : ∀ r ∈ L, ¬ aheadB r (L.getD q (0, 0)) = true := fun r hr => by have := (least_all hr).2.2; rwa [hq, Int.toNat_natCast] at this
   by_cases ht : to < (L.getD q (0, 0)).1
   ·rw [adv_stop (.inr (by rw [hq, Int.toNat_natCast]; exact ht))]
    have hall : ∀ r ∈ L, to < r.1 := fun r hr => by have := hmin r hr; rw [not_ahead] at this; omega
    refine ⟨?_, ?_, .nil⟩
    ·exact (List.filter_eq_self.2 (fun r hr => by simpa using hall r hr)).symm
    ·rw [List.filter_eq_nil_iff.2 (fun r hr => by have := hall r hr; simp; omega)]
   ·rw [adv_go hq hql (by omega)]
    have hle : (L.eraseIdx q).length = n := by rw [List.length_eraseIdx_of_lt hql]; omega
    obtain ⟨i1, i2, i3⟩ := adv_spec to n (L.eraseIdx q) hle
    have hpe := perm_eraseIdx hql
    refine ⟨?_, ?_, ?_⟩
    ·simp only
     rw [i1, filter_eraseIdx hql (by simpa using ht)]
    ·refine (i2.cons _).trans ?_
     refine List.Perm.trans ?_ (hpe.filter _).symm
     rw [List.filter_cons, if_pos (decide_eq_true (by omega))]
    ·refine List.pairwise_cons.2 ⟨fun r hr => ?_, i3⟩
     have : r ∈ L.eraseIdx q := (List.mem_filter.1 (i2.mem_iff.1 hr)).1
     exact hmin r (List.mem_of_mem_eraseIdx this)
theorem adv_left {to : Int} {L : List (Int × Int)} : (adv to L).2 = L.filter (fun p => decide (to < p.1)) := (adv_spec to _ L rfl).1
def onceT (L : List (Int × Int)) : Prop := (L.map (·.2)).Nodup
theorem idxT_mem {L : List (Int × Int)} {id : Int} : 0 ≤ idxT L id ↔ ∃ p ∈ L, p.2 = id := by
 unfold idxT
 cases h : L.findIdx? (fun p => p.2 == id) with
 | none =>
   rw [List.findIdx?_eq_none_iff] at h
   refine ⟨fun h' => by simp at h', ?_⟩
   rintro ⟨p, hp, rfl⟩
   have := h p hp
   simp at this
 | some i =>
   rw [List.findIdx?_eq_some_iff_getElem] at h
   obtain ⟨hi, hp, _⟩ := h
   exact ⟨fun _ => ⟨L[i], List.getElem_mem hi, by simpa using hp⟩, fun _ => by simp⟩
theorem idxT_at {L : List (Int × Int)} {id : Int} (h : 0 ≤ idxT L id) : (idxT L id).toNat < L.length ∧ (L.getD (idxT L id).toNat (0, 0)).2 = id := by
 unfold idxT at h ⊢
 cases hf : L.findIdx? (fun p => p.2 == id) with
 | none => rw [hf] at h; simp at h
 | some i =>
   rw [List.findIdx?_eq_some_iff_getElem] at hf
   obtain ⟨hi, hp, _⟩ := hf
   refine ⟨by simpa using hi, ?_⟩
   simp [List.getD, List.getElem?_eq_getElem hi]
   simpa using hp
theorem onceT_perm {L L' : List (Int × Int)} (hp : L.Perm L') (h : onceT L) : onceT L' := (hp.map _).nodup_iff.1 h
theorem onceT_filter {L : List (Int × Int)} (f : Int × Int → Bool) (h : onceT L) : onceT (L.filter f) := List.Nodup.sublist (List.Sublist.map _ List.filter_sublist) h
theorem unsetL_eq {L : List (Int × Int)} {id : Int} (h : onceT L) : unsetL L id = L.filter (fun p => p.2 != id) := by
 unfold unsetL
 by_cases hx : idxT L id < 0
 ·rw [if_pos hx]
  refine (List.filter_eq_self.2 fun p hp => ?_).symm
  have : p.2 ≠ id := fun e => by have := idxT_mem.2 ⟨p, hp, e⟩; omega
  simpa using this
 ·rw [if_neg hx]
  obtain ⟨h1, h2⟩ := idxT_at (show 0 ≤ idxT L id by omega)
  have hpe := perm_eraseIdx h1
  rw [← filter_eraseIdx h1 (f := fun p => p.2 != id) (by rw [h2]; simp)]
  refine (List.filter_eq_self.2 fun p hp => ?_).symm
  have hn := onceT_perm hpe h
  unfold onceT at hn
  rw [List.map_cons, List.nodup_cons, h2] at hn
  have : p.2 ≠ id := fun e => hn.1 (List.mem_map.2 ⟨p, hp, e⟩)
  simpa using this
theorem onceT_set {now : Int} {L : List (Int × Int)} {id at' : Int} (h : onceT L) : onceT (setL now L id at') := by
 unfold setL
 split
 ·exact h
 ·split
  ·exact h
  ·rename_i hx
   have hn : id ∉ L.map (·.2) := fun hm => by
    obtain ⟨p, hp, e⟩ := List.mem_map.1 hm
    exact hx (idxT_mem.2 ⟨p, hp, e⟩)
   have : onceT ((at', id) :: L) := by unfold onceT; rw [List.map_cons, List.nodup_cons]; exact ⟨hn, h⟩
   exact onceT_perm (by have := List.perm_append_comm (l₁ := [(at', id)]) (l₂ := L); simpa using this) this
theorem onceT_unset {L : List (Int × Int)} {id : Int} (h : onceT L) : onceT (unsetL L id) := by rw [unsetL_eq h]; exact onceT_filter _ h
theorem unsetL_len (L : List (Int × Int)) (id : Int) : (unsetL L id).length ≤ L.length := by
 unfold unsetL
 split
 ·omega
 ·exact List.length_eraseIdx_le _ _
structure Timers (PW : World → Nat → (Nat → Prop) → Int → List (Int × Int) → Prop) : Prop where
 lt : ∀ {w x own now L}, PW w x own now L → ∀ k, own k → k < w.heap.size
 keep : ∀ {w w' x own now L}, PW w x own now L → w.heap.size ≤ w'.heap.size → (∀ k, own k → w'.heap[k]? = w.heap[k]?) → PW w' x own now L
 advance : ∀ {w x own now L} (to : Int), PW w x own now L → L.length * 16 + 16 ≤ 140737488351232 →
  Calls Tryz.prog 101 #[pt x 0, iv to] w fun e w' => ∃ out own', e = .returned (.tuple #[out, iv (advE now to)]) ∧ w'.ownsRow w.heap.size 123 2 out (advO now to L).length (flatT (advO now to L)) ∧
   (advE now to ≠ 0 → out = .slice none 0 0) ∧ PW w' x own' (advT now to) (advL now to L) ∧ Same own w w' ∧ (∀ k, own' k → own k ∨ w.heap.size ≤ k) ∧ (∀ k, out.ownBlock = some k → ¬ own' k)
theorem own_type {w : World} {B n size R : Nat} {T U : TypeId} {v : Value} {xs : List Value} {C : Array Value} (h : w.ownsRow B T size v n xs) (hR : w.heap[R]? = some (.cells C U (0, 0))) (hT : T ≠ U) : v.ownBlock ≠ some R := by
 intro e
 rcases h.2 with ⟨rfl, _⟩ | ⟨g, c, cur, rfl, _, hh, _⟩
 ·simp [Value.ownBlock] at e
 ·simp [Value.ownBlock] at e
  subst e
  rw [hR] at hh
  simp at hh
  exact hT hh.2.symm
theorem owns_keep {w w' : World} {B n size : Nat} {T : TypeId} {v : Value} {xs : List Value} (h : w.ownsRow B T size v n xs) (hk : ∀ k, v.ownBlock = some k → w'.heap[k]? = w.heap[k]?) : w'.ownsRow B T size v n xs := by
 refine ⟨h.1, h.2.imp id ?_⟩
 rintro ⟨g, cap, cur, hv, hg, hh, hr⟩
 exact ⟨g, cap, cur, hv, hg, (hk g (by rw [hv]; rfl)).trans hh, hr⟩
theorem owns_base {w : World} {B B' n size : Nat} {T : TypeId} {v : Value} {xs : List Value} (h : w.ownsRow B T size v n xs) (hB : B' ≤ B) : w.ownsRow B' T size v n xs := by
 refine ⟨h.1, h.2.imp id ?_⟩
 rintro ⟨g, cap, cur, hv, hg, hr⟩
 exact ⟨g, cap, cur, hv, by omega, hr⟩
def pwAns (PW : World → Nat → (Nat → Prop) → Int → List (Int × Int) → Prop) (w w' : World) (x : Nat) (own : Nat → Prop) (now : Int) (L : List (Int × Int)) : Prop :=
 ∃ own', PW w' x own' now L ∧ Same own w w' ∧ ∀ k, own' k → own k ∨ w.heap.size ≤ k
structure TimersAll (PW : World → Nat → (Nat → Prop) → Int → List (Int × Int) → Prop) : Prop extends Timers PW where
 new : ∀ (w : World) (now : Int), Calls Tryz.prog 35 #[iv now] w fun e w' => ∃ x own, e = .returned (pt x 0) ∧ PW w' x own now [] ∧ (∀ k, own k → w.heap.size ≤ k) ∧ Below w.heap.size w w'
 set : ∀ {w x own now L} (id at' : Int), PW w x own now L → L.length * 16 + 16 ≤ 140737488351232 →
  Calls Tryz.prog 79 #[pt x 0, iv id, iv at'] w fun e w' => e = .returned (iv (setE now L id at')) ∧ pwAns PW w w' x own now (setL now L id at')
 unset : ∀ {w x own now L} (id : Int), PW w x own now L → L.length * 16 + 16 ≤ 140737488351232 →
  Calls Tryz.prog 81 #[pt x 0, iv id] w fun e w' => e = .returned (iv (unsetE L id)) ∧ pwAns PW w w' x own now (unsetL L id)
 first : ∀ {w x own now L}, PW w x own now L → L.length * 16 + 16 ≤ 140737488351232 →
  Calls Tryz.prog 71 #[pt x 0] w fun e w' => e = .returned (.tuple #[.agg #[iv (firstT L).1, iv (firstT L).2], .bool (firstB L)]) ∧ pwAns PW w w' x own now L
 size : ∀ {w x own now L}, PW w x own now L → L.length * 16 + 16 ≤ 140737488351232 →
  Calls Tryz.prog 84 #[pt x 0] w fun e w' => e = .returned (iv L.length) ∧ pwAns PW w w' x own now L
theorem Same.trans {o1 o2 o : Nat → Prop} {w w1 w2 : World} (h1 : Same o1 w w1) (h2 : Same o2 w1 w2) (h : ∀ k, k < w.heap.size → o1 k ∨ o2 k → o k) : Same o w w2 :=
 ⟨h2.os.trans h1.os, h2.tape.trans h1.tape, h2.output.trans h1.output, Nat.le_trans h1.size h2.size, fun k hk hn => (h2.block k (Nat.lt_of_lt_of_le hk h1.size) (fun e => hn (h k hk (.inr e)))).trans (h1.block k hk (fun e => hn (h k hk (.inl e))))⟩
abbrev Ent := (Int × Int) × Int
def srt (l : List Ent) : Prop := l.Pairwise (fun x y => aheadB x.1 y.1 = true)
theorem ahead_iff (a b : Int × Int) : aheadB a b = true ↔ a.1 < b.1 ∨ (a.1 = b.1 ∧ a.2 < b.2) := aheadB_iff
theorem ahead_not {a b : Int × Int} (h : aheadB a b = true) : aheadB b a = false := by
 rw [← Bool.not_eq_true, ahead_iff]; rw [ahead_iff] at h; omega
theorem ahead_ne {a b : Int × Int} (h : aheadB a b = true) : a ≠ b := by
 rintro rfl; rw [ahead_iff] at h; omega
theorem ahead_trans {a b c : Int × Int} (h1 : aheadB a b = true) (h2 : aheadB b c = true) : aheadB a c = true := by
 rw [ahead_iff] at *; omega
theorem ahead_eq {a b : Int × Int} (h1 : aheadB a b = false) (h2 : aheadB b a = false) : a = b :=
 ahead_antisymm (by simp [h1]) (by simp [h2])
theorem ahead_refl (a : Int × Int) : aheadB a a = false := by
 rw [← Bool.not_eq_true, ahead_iff]; omega
theorem srt_split {A B : List Ent} {x : Ent} : srt (A ++ x :: B) ↔ srt A ∧ srt B ∧ (∀ a ∈ A, aheadB a.1 x.1 = true) ∧ (∀ b ∈ B, aheadB x.1 b.1 = true) := by
 unfold srt
 rw [List.pairwise_append, List.pairwise_cons]
 constructor
 ·rintro ⟨h1, ⟨h2, h3⟩, h4⟩
  exact ⟨h1, h3, fun a ha => h4 a ha x (by simp), h2⟩
 ·rintro ⟨h1, h2, h3, h4⟩
  refine ⟨h1, ⟨h4, h2⟩, fun a ha b hb => ?_⟩
  rcases List.mem_cons.1 hb with rfl | hb
  ·exact h3 a ha
  ·exact ahead_trans (h3 a ha) (h4 b hb)
def insS (k : Int × Int) (v : Int) (l : List Ent) : List Ent := l.filter (fun e => aheadB e.1 k) ++ (k, v) :: l.filter (fun e => aheadB k e.1)
def delS (k : Int × Int) (l : List Ent) : List Ent := l.filter (fun e => e.1 != k)
def getS (k : Int × Int) (l : List Ent) : Option Int := (l.find? (fun e => e.1 == k)).map (·.2)
theorem filter_none {α : Type} {p : α → Bool} {l : List α} (h : ∀ a ∈ l, p a = false) : l.filter p = [] := by
 rw [List.filter_eq_nil_iff]; intro a ha; simp [h a ha]
theorem filter_whole {α : Type} {p : α → Bool} {l : List α} (h : ∀ a ∈ l, p a = true) : l.filter p = l := by
 rw [List.filter_eq_self]; exact h
theorem find_none' {α : Type} {p : α → Bool} {l : List α} (h : ∀ a ∈ l, p a = false) : l.find? p = none := by
 rw [List.find?_eq_none]; intro a ha; simp [h a ha]
theorem ins_left {A B : List Ent} {x : Ent} {k : Int × Int} {v : Int} (hs : srt (A ++ x :: B)) (h : aheadB k x.1 = true) : insS k v (A ++ x :: B) = insS k v A ++ x :: B := by
 obtain ⟨_, _, _, hB⟩ := srt_split.1 hs
 have hb : ∀ b ∈ x :: B, aheadB k b.1 = true := fun b hb => by
  rcases List.mem_cons.1 hb with rfl | hb
  ·exact h
  ·exact ahead_trans h (hB b hb)
 unfold insS
 rw [List.filter_append, List.filter_append, filter_none (l := x :: B) (fun b m => ahead_not (hb b m)), filter_whole (l := x :: B) hb]
 simp
theorem ins_right {A B : List Ent} {x : Ent} {k : Int × Int} {v : Int} (hs : srt (A ++ x :: B)) (h : aheadB x.1 k = true) : insS k v (A ++ x :: B) = A ++ x :: insS k v B := by
 obtain ⟨_, _, hA, _⟩ := srt_split.1 hs
 have ha : ∀ a ∈ A, aheadB a.1 k = true := fun a m => ahead_trans (hA a m) h
 unfold insS
 rw [List.filter_append, List.filter_append, filter_whole ha, filter_none (l := A) (p := fun e => aheadB k e.1) (fun b m => ahead_not (ha b m))]
 rw [List.filter_cons_of_pos (by simpa using h), List.filter_cons_of_neg (by simpa using ahead_not h)]
 simp
theorem ins_here {A B : List Ent} {x : Ent} {k : Int × Int} {v : Int} (hs : srt (A ++ x :: B)) (h : x.1 = k) : insS k v (A ++ x :: B) = A ++ (k, v) :: B := by
 obtain ⟨_, _, hA, hB⟩ := srt_split.1 hs
 subst h
 unfold insS
 rw [List.filter_append, List.filter_append, filter_whole hA, filter_none (l := A) (p := fun e => aheadB x.1 e.1) (fun b m => ahead_not (hA b m))]
 rw [List.filter_cons_of_neg (by simp [ahead_refl]), List.filter_cons_of_neg (by simp [ahead_refl]), filter_none (l := B) (fun b m => ahead_not (hB b m)), filter_whole hB]
 simp
theorem del_left {A B : List Ent} {x : Ent} {k : Int × Int} (hs : srt (A ++ x :: B)) (h : aheadB k x.1 = true) : delS k (A ++ x :: B) = delS k A ++ x :: B := by
 obtain ⟨_, _, _, hB⟩ := srt_split.1 hs
 unfold delS
 rw [List.filter_append, filter_whole (l := x :: B)]
 intro b hb
 rcases List.mem_cons.1 hb with rfl | hb
 ·simpa using (ahead_ne h).symm
 ·simpa using (ahead_ne (ahead_trans h (hB b hb))).symm
theorem del_right {A B : List Ent} {x : Ent} {k : Int × Int} (hs : srt (A ++ x :: B)) (h : aheadB x.1 k = true) : delS k (A ++ x :: B) = A ++ x :: delS k B := by
 obtain ⟨_, _, hA, _⟩ := srt_split.1 hs
 unfold delS
 rw [List.filter_append, filter_whole (l := A), List.filter_cons_of_pos (by simpa using ahead_ne h)]
 intro a ha
 simpa using ahead_ne (ahead_trans (hA a ha) h)
theorem del_here {A B : List Ent} {x : Ent} {k : Int × Int} (hs : srt (A ++ x :: B)) (h : x.1 = k) : delS k (A ++ x :: B) = A ++ B := by
 obtain ⟨_, _, hA, hB⟩ := srt_split.1 hs
 subst h
 unfold delS
 rw [List.filter_append, filter_whole (l := A) (fun a m => by simpa using ahead_ne (hA a m)), List.filter_cons_of_neg (by simp), filter_whole (l := B) (fun b m => by simpa using (ahead_ne (hB b m)).symm)]
theorem get_left {A B : List Ent} {x : Ent} {k : Int × Int} (hs : srt (A ++ x :: B)) (h : aheadB k x.1 = true) : getS k (A ++ x :: B) = getS k A := by
 obtain ⟨_, _, _, hB⟩ := srt_split.1 hs
 unfold getS
 rw [List.find?_append, find_none' (l := x :: B)]
 ·simp
 ·intro b hb
  rcases List.mem_cons.1 hb with rfl | hb
  ·simpa using (ahead_ne h).symm
  ·simpa using (ahead_ne (ahead_trans h (hB b hb))).symm
theorem get_right {A B : List Ent} {x : Ent} {k : Int × Int} (hs : srt (A ++ x :: B)) (h : aheadB x.1 k = true) : getS k (A ++ x :: B) = getS k B := by
 obtain ⟨_, _, hA, _⟩ := srt_split.1 hs
 unfold getS
 rw [List.find?_append, find_none' (l := A), List.find?_cons_of_neg (by simpa using ahead_ne h)]
 ·simp
 ·intro a ha
  simpa using ahead_ne (ahead_trans (hA a ha) h)
theorem get_here {A B : List Ent} {x : Ent} {k : Int × Int} (hs : srt (A ++ x :: B)) (h : x.1 = k) : getS k (A ++ x :: B) = some x.2 := by
 obtain ⟨_, _, hA, _⟩ := srt_split.1 hs
 subst h
 unfold getS
 rw [List.find?_append, find_none' (l := A), List.find?_cons_of_pos (by simp)]
 ·simp
 ·intro a ha
  simpa using ahead_ne (hA a ha)
theorem srt_del {l : List Ent} (k : Int × Int) (h : srt l) : srt (delS k l) := List.Pairwise.sublist List.filter_sublist h
theorem srt_ins {l : List Ent} (k : Int × Int) (v : Int) (h : srt l) : srt (insS k v l) := by
 unfold insS
 rw [srt_split]
 refine ⟨List.Pairwise.sublist List.filter_sublist h, List.Pairwise.sublist List.filter_sublist h, fun a ha => ?_, fun b hb => ?_⟩
 ·exact (List.mem_filter.1 ha).2
 ·exact (List.mem_filter.1 hb).2
theorem get_none {l : List Ent} {k : Int × Int} : getS k l = none ↔ ∀ e ∈ l, e.1 ≠ k := by
 unfold getS; simp [List.find?_eq_none]
theorem get_some {l : List Ent} {k : Int × Int} {v : Int} (h : getS k l = some v) : (k, v) ∈ l := by
 unfold getS at h
 rw [Option.map_eq_some_iff] at h
 obtain ⟨e, he, rfl⟩ := h
 have := List.find?_some he
 simp at this
 rw [← this]
 exact List.mem_of_find?_eq_some he
theorem ins_perm {l : List Ent} {k : Int × Int} {v : Int} (hn : getS k l = none) : (insS k v l).Perm ((k, v) :: l) := by
 rw [get_none] at hn
 unfold insS
 refine List.perm_middle.trans (List.Perm.cons _ ?_)
 have : l.filter (fun e => aheadB k e.1) = l.filter (fun e => !aheadB e.1 k) := by
  apply List.filter_congr
  intro e he
  cases h1 : aheadB e.1 k
  ·cases h2 : aheadB k e.1
   ·exact absurd (ahead_eq h1 h2) (hn e he)
   ·rfl
  ·simp [ahead_not h1]
 rw [this]
 exact List.filter_append_perm _ l
inductive Tr where
 | leaf : Tr
 | node (p : Nat) (l : Tr) (k : Int × Int) (v h : Int) (r : Tr) : Tr
def Tr.addr : Tr → Option Addr
 | .leaf => none
 | .node p .. => some (aq p 0)
theorem Tr.addr_leaf : Tr.leaf.addr = none := rfl
theorem Tr.addr_node (p : Nat) (l r : Tr) (k : Int × Int) (v h : Int) : (Tr.node p l k v h r).addr = some (aq p 0) := rfl
abbrev Tr.ptr (t : Tr) : Value := .pointer t.addr
def Tr.toL : Tr → List Ent
 | .leaf => []
 | .node _ l k v _ r => l.toL ++ (k, v) :: r.toL
def Tr.has : Tr → Nat → Prop
 | .leaf, _ => False
 | .node p l _ _ _ r, n => n = p ∨ l.has n ∨ r.has n
def Tr.at (w : World) : Tr → Prop
 | .leaf => True
 | .node p l k v h r => w.heap[p]? = some (.cells #[l.ptr, r.ptr, iv k.1, iv k.2, iv v, iv h] 178 (0, 0)) ∧ l.at w ∧ r.at w
theorem Tr.at_lt {w : World} {n : Nat} : ∀ {t : Tr}, t.at w → t.has n → n < w.heap.size
 | .leaf, _, hh => hh.elim
 | .node _ _ _ _ _ _, ⟨hp, hl, hr⟩, hh => by
   rcases hh with rfl | hh | hh
   ·exact (blt hp)
   ·exact at_lt hl hh
   ·exact at_lt hr hh
theorem Tr.at_keep {w w' : World} : ∀ {t : Tr}, t.at w → (∀ n, t.has n → w'.heap[n]? = w.heap[n]?) → t.at w'
 | .leaf, _, _ => trivial
 | .node p _ _ _ _ _, ⟨hp, hl, hr⟩, hk => ⟨(hk p (.inl rfl)).trans hp, at_keep hl (fun n hn => hk n (.inr (.inl hn))), at_keep hr (fun n hn => hk n (.inr (.inr hn)))⟩
theorem Tr.at_below {w w' : World} {t : Tr} (h : t.at w) (hb : Below w.heap.size w w') : t.at w' := t.at_keep h (fun n hn => hb.block n (t.at_lt h hn))
theorem Tr.at_type {w : World} {n : Nat} : ∀ {t : Tr}, t.at w → t.has n → ∃ C, w.heap[n]? = some (.cells C 178 (0, 0))
 | .leaf, _, hh => hh.elim
 | .node _ _ _ _ _ _, ⟨hp, hl, hr⟩, hh => by
   rcases hh with rfl | hh | hh
   ·exact ⟨_, hp⟩
   ·exact at_type hl hh
   ·exact at_type hr hh
def mk (w w' : World) (S : Nat → Prop) (l : List Ent) (t : Tr) : Prop := t.at w' ∧ t.toL = l ∧ Below w.heap.size w w' ∧ ∀ n, t.has n → S n ∨ w.heap.size ≤ n
theorem before_any (a b : Int × Int) (w : World) :
 Calls Tryz.prog 93 #[.agg #[iv a.1, iv a.2], .agg #[iv b.1, iv b.2]] w fun e w' => e = .returned (.bool (aheadB a b)) ∧ Below w.heap.size w w' := by
 obtain ⟨a1, a2⟩ := a
 obtain ⟨b1, b2⟩ := b
 simp only
 by_cases h1 : a1 = b1
 ·subst h1
  go_enter Tryz.func93, Tryz.ntmps93
  go_wp2
  go_ret
  exact ⟨by simp [aheadB], bL⟩
 ·have d2 : (a1 == b1) = false := by simpa using h1
  go_enter Tryz.func93, Tryz.ntmps93
  go_wp2
  go_ret
  exact ⟨by simp [aheadB, d2], bL⟩
def Tr.height : Tr → Int
 | .leaf => 0
 | .node _ _ _ _ h _ => h
theorem node_cells {w : World} {R : Nat} {c0 c1 c2 c3 c4 c5 : Value} {T : TypeId} (h : w.heap[R]? = some (.cells #[c0, c1, c2, c3, c4, c5] T (0, 0))) :
 w.cell? (aq R 0) = some c0 ∧ w.cell? (aq R 1) = some c1 ∧ w.cell? (aq R 2) = some c2 ∧ w.cell? (aq R 3) = some c3 ∧ w.cell? (aq R 4) = some c4 ∧ w.cell? (aq R 5) = some c5 :=
 ⟨by rw [Joins.cell_of_block h]; rfl, by rw [Joins.cell_of_block h]; rfl, by rw [Joins.cell_of_block h]; rfl, by rw [Joins.cell_of_block h]; rfl, by rw [Joins.cell_of_block h]; rfl, by rw [Joins.cell_of_block h]; rfl⟩
theorem height_any (t : Tr) (w : World) (h : t.at w) :
 Calls Tryz.prog 169 #[t.ptr] w fun e w' => e = .returned (iv t.height) ∧ w = w' := by
 cases t with
 | leaf =>
   simp only [Tr.ptr, Tr.addr, Tr.height]
   go_enter Tryz.func169, Tryz.ntmps169
   go_wp2
   go_ret
   exact ⟨rfl, rfl⟩
 | node p l k v hh r =>
   obtain ⟨c0, c1, c2, c3, c4, c5⟩ := node_cells h.1
   simp only [Tr.ptr, Tr.addr, Tr.height]
   clear h
   go_enter Tryz.func169, Tryz.ntmps169
   go_wp2
   go_ret
   exact ⟨rfl, rfl⟩
theorem Tr.at_alloc {t : Tr} {w : World} (h : t.at w) (O : Obj) : t.at (w.alloc O) := t.at_below h ((Below.refl _ _).alloc (Nat.le_refl _) _)
theorem mk_node {w w1 : World} {l r : Tr} {k : Int × Int} {v h : Int} (hl : l.at w) (hr : r.at w) (hb : Below w.heap.size w w1) {O : Obj} (hO : O = .cells #[l.ptr, r.ptr, iv k.1, iv k.2, iv v, iv h] 178) :
 mk w (w1.alloc O) (fun n => l.has n ∨ r.has n) (l.toL ++ (k, v) :: r.toL) (.node w1.heap.size l k v h r) := by
 have hb2 : Below w.heap.size w (w1.alloc O) := hb.alloc hb.size _
 refine ⟨⟨?_, l.at_below hl hb2, r.at_below hr hb2⟩, rfl, hb2, ?_⟩
 ·rw [heap_alloc_new, hO]
 ·rintro n (rfl | hn)
  ·exact .inr hb.size
  ·exact .inl hn
theorem join_any (l r : Tr) (k : Int × Int) (v : Int) (w : World) (hl : l.at w) (hr : r.at w) :
 Calls Tryz.prog 158 #[l.ptr, .agg #[iv k.1, iv k.2, iv v], r.ptr] w fun e w' => ∃ t, e = .returned t.ptr ∧ mk w w' (fun n => l.has n ∨ r.has n) (l.toL ++ (k, v) :: r.toL) t := by
 have HH : Hid (∀ (O : Obj) (u : Value), u = l.ptr ∨ u = r.ptr → Calls Tryz.prog 169 #[u] (w.alloc O) fun e w' => (∃ a, e = .returned (iv a)) ∧ w.alloc O = w') := by
  rintro O u (rfl | rfl)
  ·exact (height_any l _ (l.at_alloc hl O)).mono (by rintro e w' ⟨rfl, rfl⟩; exact ⟨⟨_, rfl⟩, rfl⟩)
  ·exact (height_any r _ (r.at_alloc hr O)).mono (by rintro e w' ⟨rfl, rfl⟩; exact ⟨⟨_, rfl⟩, rfl⟩)
 have HM : Hid (∀ (O O' : Obj) (h : Int), O' = .cells #[l.ptr, r.ptr, iv k.1, iv k.2, iv v, iv h] 178 → mk w ((w.alloc O).alloc O') (fun n => l.has n ∨ r.has n) (l.toL ++ (k, v) :: r.toL) (.node (w.heap.size + 1) l k v h r)) := by
  intro O O' h hO
  have := mk_node (w := w) (w1 := w.alloc O) hl hr ((Below.refl _ _).alloc (Nat.le_refl _) _) hO
  simpa using this
 clear hl hr
 simp only [Tr.ptr] at HH HM ⊢
 generalize l.addr = lp at HH HM
 generalize r.addr = rp at HH HM
 generalize k.1 = k1 at HM
 generalize k.2 = k2 at HM
 generalize (l.toL ++ (k, v) :: r.toL) = LL at HM
 go_enter Tryz.func158, Tryz.ntmps158
 go_wp2_with (go_at_call 169; refine (HH.out _ _ ?_).mono ?_; (first | exact .inl rfl | exact .inr rfl); rintro e w1 ⟨⟨a, rfl⟩, rfl⟩)
 all_goals (go_ret; exact ⟨_, rfl, HM.out _ _ _ rfl⟩)
section
theorem Tr.at_unique {w : World} : ∀ {t t' : Tr}, t.at w → t'.at w → t.addr = t'.addr → t = t'
 | .leaf, .leaf, _, _, _ => rfl
 | .leaf, .node .., _, _, e => by simp [Tr.addr] at e
 | .node .., .leaf, _, _, e => by simp [Tr.addr] at e
 | .node p l k v h r, .node p' l' k' v' h' r', ⟨a1, a2, a3⟩, ⟨b1, b2, b3⟩, e => by
   simp only [Tr.addr, Option.some.injEq, Addr.mk.injEq, and_true] at e
   subst e
   rw [a1] at b1
   simp only [Option.some.injEq, Obj.cells.injEq, Array.mk.injEq, List.cons.injEq, Value.pointer.injEq, Value.int.injEq, and_true, true_and] at b1
   obtain ⟨e1, e2, e3, e4, e5, e6⟩ := b1
   have hl := Tr.at_unique a2 b2 e1
   have hr := Tr.at_unique a3 b3 e2
   subst hl hr e5 e6
   have : k = k' := Prod.ext e3 e4
   subst this
   rfl
def Tr.size : Tr → Nat
 | .leaf => 0
 | .node _ l _ _ _ r => l.size + r.size + 1
open Classical in
noncomputable def sizeAt (w : World) (v : Value) : Nat := if h : ∃ t : Tr, t.at w ∧ v = .pointer t.addr then (Classical.choose h).size else 0
theorem sizeAt_of {w : World} {t : Tr} (h : t.at w) : sizeAt w (.pointer t.addr) = t.size := by
 have hx : ∃ t' : Tr, t'.at w ∧ Value.pointer t.addr = .pointer t'.addr := ⟨t, h, rfl⟩
 unfold sizeAt
 rw [dif_pos hx]
 have hc := Classical.choose_spec hx
 have := Tr.at_unique h hc.1 (by simpa using hc.2)
 rw [← this]
def fstE (t : Tr) : Ent := t.toL.headD ((0, 0), 0)
theorem fstE_leaf (p : Nat) (k : Int × Int) (v h : Int) (r : Tr) : fstE (.node p .leaf k v h r) = (k, v) := rfl
theorem fstE_node (p q : Nat) (k lk : Int × Int) (v h lv lh : Int) (ll lr r : Tr) : fstE (.node p (.node q ll lk lv lh lr) k v h r) = fstE (.node q ll lk lv lh lr) := by
 simp only [fstE, Tr.toL]
 cases ll.toL <;> simp
theorem firstOf_any (p : Nat) (l r : Tr) (k : Int × Int) (v h : Int) (w : World) (ha : Tr.at w (.node p l k v h r)) :
 Calls Tryz.prog 132 #[pt p 0] w fun e w' => e = .returned (.agg #[iv (fstE (.node p l k v h r)).1.1, iv (fstE (.node p l k v h r)).1.2, iv (fstE (.node p l k v h r)).2]) ∧ Below w.heap.size w w' := by
 generalize hF : fstE (.node p l k v h r) = F
 have HA : Hid (Tr.at w (.node p l k v h r) ∧ fstE (.node p l k v h r) = F) := ⟨ha, hF⟩
 clear ha hF
 go_enter Tryz.func132, Tryz.ntmps132
 go_wp2_with fail
 go_loop [0] (fun n => ∃ p l k v h r, n = pt p 0 ∧ Hid (Tr.at w (.node p l k v h r) ∧ fstE (.node p l k v h r) = F)) (fun n => sizeAt w n)
 case atStart => exact ⟨p, l, k, v, h, r, rfl, HA⟩
 case round =>
  obtain ⟨p, l, k, v, h, r, rfl, HB⟩ := hrel
  obtain ⟨hp, h1, h2⟩ := HB.out.1
  have hpw : p < w.heap.size := (blt hp)
  obtain ⟨c0, c1, c2, c3, c4, -⟩ := node_cells hp
  cases l with
  | leaf =>
    have hF := HB.out.2
    rw [fstE_leaf] at hF
    subst hF
    simp only [Tr.ptr, Tr.addr_leaf] at c0
    clear hp h1 h2 HA
    go_wp2
    refine bodyPost_ret (v := .agg #[iv k.1, iv k.2, iv v]) (by simp [results, Tryz.results132, go_sem]) rfl ⟨rfl, ?_⟩
    exact bL
  | node q ll lk lv lh lr =>
    have HC : Hid (Tr.at w (.node q ll lk lv lh lr) ∧ fstE (.node q ll lk lv lh lr) = F) := ⟨h1, (fstE_node ..).symm.trans HB.out.2⟩
    have HM : Hid (sizeAt w (pt q 0) < sizeAt w (pt p 0)) := by
     have e1 := sizeAt_of HB.out.1
     have e2 := sizeAt_of h1
     simp only [Tr.addr_node, Tr.size] at e1 e2
     rw [Hid, e1, e2]
     omega
    simp only [Tr.ptr, Tr.addr_node] at c0
    clear hp h1 h2 HA HB
    go_wp2
    go_round
    case rel => exact ⟨_, _, _, _, _, _, rfl, HC⟩
    case measure => exact HM.out
theorem two_cells {w : World} {R : Nat} {c0 c1 : Value} {T : TypeId} (h : w.heap[R]? = some (.cells #[c0, c1] T (0, 0))) : w.cell? (aq R 0) = some c0 ∧ w.cell? (aq R 1) = some c1 := rw_cells h
theorem Tr.toL_node (p : Nat) (l r : Tr) (k : Int × Int) (v h : Int) : (Tr.node p l k v h r).toL = l.toL ++ (k, v) :: r.toL := rfl
theorem get_any (x o : Nat) (t : Tr) (k1 k2 : Int) (w : World) (hx : w.cell? (aq x o) = some (.pointer t.addr)) (ht : t.at w) (hs : srt t.toL) :
 Calls Tryz.prog 62 #[pt x o, .agg #[iv k1, iv k2]] w fun e w' => e = .returned (.tuple #[iv ((getS (k1, k2) t.toL).getD 0), .bool (getS (k1, k2) t.toL).isSome]) ∧ Below w.heap.size w w' := by
 generalize hG : getS (k1, k2) t.toL = G
 have HA : Hid (t.at w ∧ srt t.toL ∧ getS (k1, k2) t.toL = G) := ⟨ht, hs, hG⟩
 have hxw : x < w.heap.size := World.block_lt_of_cell? w _ hx
 clear ht hs hG
 go_enter Tryz.func62, Tryz.ntmps62
 go_wp2_with fail
 go_loopw [6] (fun n wr => ∃ t : Tr, n = .pointer t.addr ∧ Hid (t.at w ∧ srt t.toL ∧ getS (k1, k2) t.toL = G) ∧ Below w.heap.size w wr ∧ wr.heap[w.heap.size]? = some (.cells #[iv k1, iv k2] 136 (0, 0))) (fun n _ => sizeAt w n)
 case atStart => exact ⟨t, rfl, HA, bL, heap_alloc_new _ _⟩
 case round =>
  obtain ⟨t, rfl, HB, hbel, hkey⟩ := hrel
  have hsz : w.heap.size < wr.heap.size := (blt hkey)
  cases t with
  | leaf =>
    have hG := HB.out.2.2
    simp only [Tr.toL, getS, List.find?_nil, Option.map_none] at hG
    subst hG
    simp only [Tr.addr_leaf]
    clear HA HB
    go_wp2
    go_ret2
    exact ⟨rfl, hbel⟩
  | node p l k v h r =>
    obtain ⟨⟨hp, h1, h2⟩, hs, hG⟩ := HB.out
    rw [Tr.toL_node] at hs hG
    have hpw : p < w.heap.size := (blt hp)
    obtain ⟨z0, z1, z2, z3, z4, -⟩ := node_cells hp
    simp only [Tr.ptr] at z0 z1
    have HL : Hid (aheadB (k1, k2) k = true → l.at w ∧ srt l.toL ∧ getS (k1, k2) l.toL = G) := fun ha => ⟨h1, (srt_split.1 hs).1, by rw [← hG, get_left hs ha]⟩
    have HR : Hid (aheadB k (k1, k2) = true → r.at w ∧ srt r.toL ∧ getS (k1, k2) r.toL = G) := fun ha => ⟨h2, (srt_split.1 hs).2.1, by rw [← hG, get_right hs ha]⟩
    have HE : Hid (aheadB (k1, k2) k = false → aheadB k (k1, k2) = false → G = some v) := fun ha hb => by rw [← hG, get_here hs (ahead_eq hb ha)]
    have HM : Hid (sizeAt w (.pointer l.addr) < sizeAt w (pt p 0) ∧ sizeAt w (.pointer r.addr) < sizeAt w (pt p 0)) := by
     have e1 := sizeAt_of HB.out.1
     have e2 := sizeAt_of h1
     have e3 := sizeAt_of h2
     simp only [Tr.addr_node, Tr.size] at e1
     rw [Hid, e1, e2, e3]
     omega
    obtain ⟨a1, a2⟩ := k
    have HB1 : Hid (∀ W, Below w.heap.size w W → Calls Tryz.prog 93 #[.agg #[iv k1, iv k2], .agg #[iv a1, iv a2]] W fun e w' => e = .returned (.bool (aheadB (k1, k2) (a1, a2))) ∧ Below W.heap.size W w') := fun W _ => before_any (k1, k2) (a1, a2) W
    have HB2 : Hid (∀ W, Below w.heap.size w W → Calls Tryz.prog 93 #[.agg #[iv a1, iv a2], .agg #[iv k1, iv k2]] W fun e w' => e = .returned (.bool (aheadB (a1, a2) (k1, k2))) ∧ Below W.heap.size W w') := fun W _ => before_any (a1, a2) (k1, k2) W
    obtain ⟨q0, q1⟩ := two_cells hkey
    have c0 := (hbel.cell (p := (aq p 0)) hpw).trans z0
    have c1 := (hbel.cell (p := (aq p 1)) hpw).trans z1
    have c2 := (hbel.cell (p := (aq p 2)) hpw).trans z2
    have c3 := (hbel.cell (p := (aq p 3)) hpw).trans z3
    have c4 := (hbel.cell (p := (aq p 4)) hpw).trans z4
    have hpwr : p < wr.heap.size := Nat.lt_of_lt_of_le hpw hbel.size
    simp only [Tr.addr_node]
    generalize aheadB (k1, k2) (a1, a2) = ah at HL HE HB1
    generalize aheadB (a1, a2) (k1, k2) = ah2 at HR HE HB2
    clear hp h1 h2 hs hG HA HB
    go_wp2_with fail
    go_region_held3 (fun w' => w'.cell? (aq w.heap.size 0) = some (iv k1) ∧ w'.cell? (aq w.heap.size 1) = some (iv k2) ∧ w'.cell? (aq p 2) = some (iv a1) ∧ w'.cell? (aq p 3) = some (iv a2)) (simp [go_sem, *])
     (first | (go_at_call 93; refine (HB1.out _ bL).mono ?_; rintro e w1 ⟨rfl, b⟩
               have e0 := (b.cell (p := (aq w.heap.size 0)) (by simp <;> omega)).trans (by simp [go_sem, *] : _ = some (iv k1))
               have e1 := (b.cell (p := (aq w.heap.size 1)) (by simp <;> omega)).trans (by simp [go_sem, *] : _ = some (iv k2))
               have e2 := (b.cell (p := (aq p 2)) (by simp <;> omega)).trans (by simp [go_sem, *] : _ = some (iv a1))
               have e3 := (b.cell (p := (aq p 3)) (by simp <;> omega)).trans (by simp [go_sem, *] : _ = some (iv a2))))
    have hb1 : Below w.heap.size w w1 := Below.trans (show Below w.heap.size w _ from bL) (b.mono (by simp; omega))
    have hk1 : w1.heap[w.heap.size]? = some (.cells #[iv k1, iv k2] 136 (0, 0)) := (b.block _ (by simp; omega)).trans hkey
    have d0 := (hb1.cell (p := (aq p 0)) hpw).trans z0
    have d1 := (hb1.cell (p := (aq p 1)) hpw).trans z1
    have d2 := (hb1.cell (p := (aq p 2)) hpw).trans z2
    have d3 := (hb1.cell (p := (aq p 3)) hpw).trans z3
    have d4 := (hb1.cell (p := (aq p 4)) hpw).trans z4
    have hpw1 : p < w1.heap.size := Nat.lt_of_lt_of_le hpw hb1.size
    have hsz1 : w.heap.size < w1.heap.size := (blt hk1)
    obtain ⟨r0, r1⟩ := two_cells hk1
    clear b c0 c1 c2 c3 c4 hbel hkey q0 q1 e0 e1 e2 e3
    cases ah
    ·go_wp2_with fail
     go_region_held3 (fun w' => w'.cell? (aq w.heap.size 0) = some (iv k1) ∧ w'.cell? (aq w.heap.size 1) = some (iv k2) ∧ w'.cell? (aq p 2) = some (iv a1) ∧ w'.cell? (aq p 3) = some (iv a2)) (simp [go_sem, *])
      (first | (go_at_call 93; refine (HB2.out _ bL).mono ?_; rintro e w2 ⟨rfl, b⟩
                have e0 := (b.cell (p := (aq w.heap.size 0)) (by simp <;> omega)).trans (by simp [go_sem, *] : _ = some (iv k1))
                have e1 := (b.cell (p := (aq w.heap.size 1)) (by simp <;> omega)).trans (by simp [go_sem, *] : _ = some (iv k2))
                have e2 := (b.cell (p := (aq p 2)) (by simp <;> omega)).trans (by simp [go_sem, *] : _ = some (iv a1))
                have e3 := (b.cell (p := (aq p 3)) (by simp <;> omega)).trans (by simp [go_sem, *] : _ = some (iv a2))))
     have hb2 : Below w.heap.size w w2 := Below.trans (show Below w.heap.size w _ from bL) (b.mono (by simp; omega))
     have hk2 : w2.heap[w.heap.size]? = some (.cells #[iv k1, iv k2] 136 (0, 0)) := (b.block _ (by simp; omega)).trans hk1
     have f1 := (hb2.cell (p := (aq p 1)) hpw).trans z1
     have f4 := (hb2.cell (p := (aq p 4)) hpw).trans z4
     have hpw2 : p < w2.heap.size := Nat.lt_of_lt_of_le hpw hb2.size
     clear b d0 d1 d2 d3 d4 r0 r1 hb1 hk1 e0 e1 e2 e3 z0 z1 z2 z3 z4
     cases ah2
     ·have hG : G = some v := by simpa using HE.out
      subst hG
      go_wp2
      go_ret2
      exact ⟨rfl, hb2⟩
     ·go_wp2
      go_roundw
      case rel => exact ⟨r, rfl, HR.out rfl, hb2, hk2⟩
      case measure => exact HM.out.2
    ·go_wp2
     go_roundw
     case rel => exact ⟨l, rfl, HL.out rfl, hb1, hk1⟩
     case measure => exact HM.out.1
end
end Go.Proofs.YtfhncfghblkgeabGreat
