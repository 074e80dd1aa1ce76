import Derived.Test.YtfhncfghblkgeabGreatL32
import Derived.Test.YtfhncfghblkgeabGreatL33
set_option maxRecDepth 100000
set_option maxHeartbeats 2000000
namespace Go.Proofs.YtfhncfghblkgeabGreat
open Go.RowKit
section
section
variable {w : World} {x : Nat} {own : Nat → Prop} {S : Sal} {last : Nat} {an : Int}
theorem saleK.put {S : Sal} (h : saleK S) {i : Nat} {o : Ord} (hI : salI (S.put i o)) : saleK (S.put i o) := ⟨hI, by show (S.os.set i o).length ≤ _; simpa using h.len, h.lease, h.wait, h.keep⟩
theorem free_s (h : psx an x S last w own) (hK : saleK S) :
 Calls Tryz.prog 38 #[pt x 0] w fun e w' => e = .returned (iv S.free) ∧ Below w.heap.size w w' := by
 obtain ⟨V, hm, hr, _⟩ := h
 have hB := hr.bounds hK.I hK.len
 have := free_x hm hB.stock hB.sold hB.held
 rw [hr.C, hr.sold, hr.held] at this
 exact this
theorem left_s (h : psx an x S last w own) (hK : saleK S) :
 Calls Tryz.prog 126 #[pt x 0] w fun e w' => e = .returned (iv S.left) ∧ Below w.heap.size w w' := by
 obtain ⟨V, hm, hr, _⟩ := h
 have hB := hr.bounds hK.I hK.len
 have := left_x hm hB.stock hB.sold
 rw [hr.C, hr.sold] at this
 exact this
theorem price_s (h : psx an x S last w own) :
 Calls Tryz.prog 162 #[pt x 0] w fun e w' => e = .returned (iv S.price) ∧ Below w.heap.size w w' := by
 obtain ⟨V, hm, hr, _⟩ := h
 have := price_x hm
 rw [hr.C, hr.sold] at this
 exact this
theorem get_s (h : psx an x S last w own) {i : Nat} (hi : S.knows i) :
 Calls Tryz.prog 95 #[pt x 11, iv ((i : Int) + 1)] w fun e w' => e = .returned (.tuple #[(pordOf S.C i (S.os.getD i ord0)).val, .bool true]) ∧ Below w.heap.size w w' := by
 obtain ⟨V, hm, hr, _⟩ := h
 obtain ⟨j, h1, h2⟩ := hr.known hi
 exact oget_yes_x hm hr.ls.srt h2 h1
theorem get_none_s (h : psx an x S last w own) {num : Int} (hi : ∀ i, S.knows i → num ≠ (i : Int) + 1) :
 Calls Tryz.prog 95 #[pt x 11, iv num] w fun e w' => e = .returned (.tuple #[pord0.val, .bool false]) ∧ Below w.heap.size w w' := by
 obtain ⟨V, hm, hr, _⟩ := h
 exact oget_no_x hm hr.ls.srt (hr.strange hi)
theorem price_hold (S : Sal) {i : Nat} (hi : i < S.os.length) (hs : (S.os.getD i ord0).state ≠ 14) : (S.put i { S.os.getD i ord0 with state := 13 }).price = S.price := by
 unfold Sal.price
 show priceT S.C.prices (unitsS (S.os.set i _) 14 0) _ = _
 rw [units_set hi, part0, part0, if_neg hs, if_neg (show ¬ (13 : Int) = 14 by decide)]
 rw [show unitsS S.os 14 0 - 0 + 0 = unitsS S.os 14 0 by omega]
 rfl
theorem hold_s (h : psx an x S last w own) (hK : saleK S) {i : Nat} (hi : S.knows i) (hs : (S.os.getD i ord0).state = 12) :
 Calls Tryz.prog 136 #[pt x 0, (pordOf S.C i (S.os.getD i ord0)).val] w fun e w' => e = .returned (POrd.val ⟨(i : Int) + 1, (S.os.getD i ord0).cust, (S.os.getD i ord0).units, 13, S.price, S.now + S.C.lease⟩) ∧ ansP (psx an x (S.holds i) last) w w' own := by
 have hw := (keepX an x S last).lt h
 refine hold_w x own (psx an x S last) (psx an x (S.holds i) last) (keepX _ _ _ _) (keepX _ _ _ _) _ _ _ _ _ _ S.price (S.now + S.C.lease) w hw h (fun W hW => seen_look (keepX _ _ _ _) hw (fun W o hp => price_s hp) W hW) (fun W hW => seen_call hw (fun W o hp => ?_) W hW)
 have e : S.holds i = S.put i { S.os.getD i ord0 with state := 13, cents := S.price, upto := S.now + S.C.lease } := by
  unfold Sal.holds
  rw [price_hold S hi.1 (by rw [hs]; decide)]
 rw [e]
 exact move_x hp hK hi ⟨(i : Int) + 1, (S.os.getD i ord0).cust, (S.os.getD i ord0).units, (S.os.getD i ord0).state, S.price, (S.os.getD i ord0).untl S.C⟩ rfl rfl rfl rfl 13 (by decide) _ rfl rfl rfl rfl (by unfold Ord.untl spanS; rw [if_pos (.inr rfl), if_pos rfl])
def Sal.firstW (S : Sal) : Option POrd := match queueS S.os with
 | [] => none
 | q :: _ => some (pordOf S.C q (S.os.getD q ord0))
theorem first_s (h : psx an x S last w own) :
 Calls Tryz.prog 135 #[pt x 0] w fun e w' => e = .returned (.tuple #[(S.firstW.getD pord0).val, .bool S.firstW.isSome]) ∧ Below w.heap.size w w' := by
 have K := keepX an x S last
 have hb : ∀ W, Below w.heap.size w W → psx an x S last W own := fun W hW => K.keep h hW.size (fun k e => hW.block k (K.lt h k e))
 cases hq : queueS S.os with
 | nil =>
   have e : S.firstW = none := by unfold Sal.firstW; rw [hq]
   rw [e]
   refine firstQ_no x 0 w (fun W hW => ?_)
   obtain ⟨V, ⟨g, hm⟩, hr, _⟩ := hb W hW
   have := qfirst_any x 15 g.qt W (hm.cell 15 _ rfl) hm.qt.1
   rw [fstE, hm.qt.2, (turnsQ_none hr.turns).2 hq] at this
   exact this
 | cons q qs =>
   have e : S.firstW = some (pordOf S.C q (S.os.getD q ord0)) := by unfold Sal.firstW; rw [hq]
   obtain ⟨_, h1, h2⟩ := queue_tail hq ord0 (by decide)
   have hk : S.knows q := ⟨h1, .inl (.inl h2)⟩
   rw [e]
   refine firstQ_yes x ((q : Int) + 1) _ _ _ _ _ _ w (fun W hW => ?_) (fun W hW => get_s (hb W hW) hk)
   obtain ⟨V, ⟨g, hm⟩, hr, _⟩ := hb W hW
   have := qfirst_any x 15 g.qt W (hm.cell 15 _ rfl) hm.qt.1
   have hn : V.qt ≠ [] := fun c => by
    have := (turnsQ_none hr.turns).1 c
    rw [hq] at this
    cases this
   rw [fstE, hm.qt.2, turnsQ_first hr.turns hq, decide_eq_true hn] at this
   exact this
theorem promote_s (h : psx an x S last w own) (hK : saleK S) :
 Calls Tryz.prog 104 #[pt x 0] w fun e w' => e = .returned (.tuple #[]) ∧ ansP (psx an x S.promote last) w w' own := by
 have hsome : ∀ (S : Sal) p, S.firstW = some p → ∃ q qs, queueS S.os = q :: qs ∧ p = pordOf S.C q (S.os.getD q ord0) ∧ q < S.os.length ∧ (S.os.getD q ord0).state = 12 := by
  intro S p e
  unfold Sal.firstW at e
  cases hq : queueS S.os with
  | nil => rw [hq] at e; cases e
  | cons q qs =>
    rw [hq] at e
    simp only [Option.some.injEq] at e
    obtain ⟨_, h1, h2⟩ := queue_tail hq ord0 (by decide)
    exact ⟨q, qs, rfl, e.symm, h1, h2⟩
 refine promote_walk x (fun S => psx an x S last) (fun S => keepX an x S last) saleK Sal.firstW Sal.free (fun S => S.holds ((queueS S.os).headD 0)) Sal.promote (fun S => (queueS S.os).length) (fun S => POrd.val ⟨((((queueS S.os).headD 0 : Nat) : Int)) + 1, (S.os.getD ((queueS S.os).headD 0) ord0).cust, (S.os.getD ((queueS S.os).headD 0) ord0).units, 13, S.price, S.now + S.C.lease⟩) (fun S p => p.units ≤ S.free) (fun _ _ => Iff.rfl) (fun S _ W o hp => first_s hp) (fun S hK W o hp => free_s hp hK) (fun S p hK e hle W o hp => ?_) (fun S p hK e hle => ?_) (fun S hK hle => ?_) S w own hK h
 ·obtain ⟨q, qs, hq, rfl, h1, h2⟩ := hsome S p e
  simp only [hq, List.headD_cons]
  exact hold_s hp hK ⟨h1, .inl (.inl h2)⟩ h2
 ·obtain ⟨q, qs, hq, rfl, h1, h2⟩ := hsome S p e
  have hf : ¬ S.free < (S.os.getD q ord0).units := by
   have : (S.os.getD q ord0).units ≤ S.free := hle
   omega
  simp only [hq, List.headD_cons]
  have hpr : 0 ≤ S.price ∧ S.price ≤ 1073741824 := priceT_bounds hK.I.prices _ _ (Nat.le_refl _)
  have ho := hK.I.ords _ (ord_mem h1)
  refine ⟨hK.put (salI_hold hK.I h1 h2 hf _ rfl rfl rfl ⟨?_, ho.2⟩), ?_, (promote_go hq hf).symm⟩
  ·rw [price_hold S h1 (by rw [h2]; decide)]; exact hpr
  ·rw [holds_queue hq]; simp
 ·cases hq : queueS S.os with
  | nil => exact promote_nil hq
  | cons q qs =>
    refine promote_stop hq ?_
    have := hle (pordOf S.C q (S.os.getD q ord0)) (by unfold Sal.firstW; rw [hq])
    have : ¬ (S.os.getD q ord0).units ≤ S.free := this
    omega
theorem sizes_unique {Z Z' : List Ent} {os : List Ord} (h : sizesOk Z os) (h' : sizesOk Z' os) : Z = Z' := srt_same h.1 h'.1 (fun e => (h.2 e).trans (h'.2 e).symm)
def headI : List Ent → Option Nat
 | [] => none
 | e :: _ => some (e.1.2 - 1).toNat
open Classical in
noncomputable def Sal.greatI (S : Sal) : Option Nat := if h : ∃ Z, sizesOk Z S.os then headI (Classical.choose h) else none
noncomputable def Sal.greatW (S : Sal) : Option POrd := S.greatI.map (fun q => pordOf S.C q (S.os.getD q ord0))
theorem greatI_of {Z : List Ent} (h : sizesOk Z S.os) : S.greatI = headI Z := by
 unfold Sal.greatI
 have hx : ∃ Z, sizesOk Z S.os := ⟨Z, h⟩
 rw [dif_pos hx, sizes_unique (Classical.choose_spec hx) h]
theorem great_spec {Z : List Ent} (h : sizesOk Z S.os) : (queueS S.os = [] ∧ Z = [] ∧ S.greatI = none) ∨ ∃ i, S.greatI = some i ∧ Z ≠ [] ∧ i < S.os.length ∧ (S.os.getD i ord0).state = 12 ∧ Z.headD ((0, 0), 0) = ((-(S.os.getD i ord0).units, (i : Int) + 1), 0) ∧ ∀ j, j < S.os.length → (S.os.getD j ord0).state = 12 → (S.os.getD j ord0).units ≤ (S.os.getD i ord0).units := by
 by_cases hz : Z = []
 ·exact .inl ⟨(sizesQ_none h).1 hz, hz, by rw [greatI_of h, hz]; rfl⟩
 ·obtain ⟨i, a, b, c, d⟩ := sizesQ_first h hz
  refine .inr ⟨i, ?_, hz, a, b, c, d⟩
  rw [greatI_of h]
  cases Z with
  | nil => exact absurd rfl hz
  | cons e l =>
    have c' : e = ((-(S.os.getD i ord0).units, (i : Int) + 1), 0) := c
    rw [c']
    simp [headI]
theorem great_s (h : psx an x S last w own) :
 Calls Tryz.prog 157 #[pt x 0] w fun e w' => e = .returned (.tuple #[(S.greatW.getD pord0).val, .bool S.greatW.isSome]) ∧ Below w.heap.size w w' := by
 have K := keepX an x S last
 have hb : ∀ W, Below w.heap.size w W → psx an x S last W own := fun W hW => K.keep h hW.size (fun k e => hW.block k (K.lt h k e))
 obtain ⟨V0, _, hr0, _⟩ := h
 rcases great_spec hr0.sizes with ⟨hq, hz, hg⟩ | ⟨i, hg, hz, h1, h2, h3, _⟩
 ·have e : S.greatW = none := by unfold Sal.greatW; rw [hg]; rfl
  rw [e]
  refine greatQ_no x 0 w (fun W hW => ?_)
  obtain ⟨V, ⟨g, hm⟩, hr, _⟩ := hb W hW
  have := qgreatest_any x 15 g.qz W (hm.cell 17 _ rfl) hm.qz.1
  rw [fstE, hm.qz.2, (sizesQ_none hr.sizes).2 hq] at this
  exact this
 ·have e : S.greatW = some (pordOf S.C i (S.os.getD i ord0)) := by unfold Sal.greatW; rw [hg]; rfl
  have hk : S.knows i := ⟨h1, .inl (.inl h2)⟩
  rw [e]
  refine greatQ_yes x ((i : Int) + 1) _ _ _ _ _ _ w (fun W hW => ?_) (fun W hW => get_s (hb W hW) hk)
  obtain ⟨V, ⟨g, hm⟩, hr, _⟩ := hb W hW
  have := qgreatest_any x 15 g.qz W (hm.cell 17 _ rfl) hm.qz.1
  have hv : V.qz = V0.qz := sizes_unique hr.sizes hr0.sizes
  rw [fstE, hm.qz.2, hv, h3, decide_eq_true hz] at this
  exact this
theorem ends_s (h : psx an x S last w own) (hK : saleK S) {i : Nat} (hi : S.knows i) (st : Int) (hst : st ≠ 12 ∧ st ≠ 13) :
 Calls Tryz.prog 129 #[pt x 0, (pordOf S.C i (S.os.getD i ord0)).val, iv st] w fun e w' => e = .returned (POrd.val ⟨(i : Int) + 1, (S.os.getD i ord0).cust, (S.os.getD i ord0).units, st, (S.os.getD i ord0).cents, S.now + S.C.keep⟩) ∧ ansP (psx an x (S.ends i st) last) w w' own := by
 have hsp : spanS S.C st = S.C.keep := by unfold spanS; rw [if_neg hst.2, if_neg hst.1]
 have := move_x h hK hi (pordOf S.C i (S.os.getD i ord0)) rfl rfl rfl rfl st hst.1 { S.os.getD i ord0 with state := st, ended := S.now } rfl rfl rfl rfl (by rw [hsp]; exact untl_ended (fun c => c.elim hst.1 hst.2))
 rw [hsp] at this
 exact this
theorem saleK.ends {S : Sal} (h : saleK S) {i : Nat} (hi : i < S.os.length) (st : Int) (hst : st = 14 ∨ (st ≠ 12 ∧ st ≠ 13 ∧ st ≠ 14)) (h14 : st = 14 → (S.os.getD i ord0).state = 13) : saleK (S.ends i st) := h.put (salI_end h.I hi st hst h14)
theorem drain_s (h : psx an x S last w own) (hK : saleK S) :
 Calls Tryz.prog 130 #[pt x 0] w fun e w' => e = .returned (.tuple #[]) ∧ ansP (psx an x S.drained last) w w' own := by
 obtain ⟨V0, _, hr0, _⟩ := id h
 have hz0 : ∃ Z, sizesOk Z S.os := ⟨_, hr0.sizes⟩
 clear hr0
 have hsome : ∀ (S : Sal) p, (∃ Z, sizesOk Z S.os) → S.greatW = some p → ∃ q, S.greatI = some q ∧ p = pordOf S.C q (S.os.getD q ord0) ∧ q < S.os.length ∧ (S.os.getD q ord0).state = 12 ∧ ∀ j, j < S.os.length → (S.os.getD j ord0).state = 12 → (S.os.getD j ord0).units ≤ (S.os.getD q ord0).units := by
  rintro S p ⟨Z, hZ⟩ e
  rcases great_spec hZ with ⟨_, _, hg⟩ | ⟨i, hg, _, h1, h2, _, h4⟩
  ·unfold Sal.greatW at e; rw [hg] at e; cases e
  ·unfold Sal.greatW at e
   rw [hg] at e
   simp only [Option.map_some, Option.some.injEq] at e
   exact ⟨i, hg, e.symm, h1, h2, h4⟩
 refine drain_walk x (fun S => psx an x S last) (fun S => keepX an x S last) (fun S => saleK S ∧ ∃ Z, sizesOk Z S.os) Sal.greatW Sal.left (fun S => S.ends (S.greatI.getD 0) 18) Sal.drained (fun S => (queueS S.os).length) (fun S => POrd.val ⟨((S.greatI.getD 0 : Nat) : Int) + 1, (S.os.getD (S.greatI.getD 0) ord0).cust, (S.os.getD (S.greatI.getD 0) ord0).units, 18, (S.os.getD (S.greatI.getD 0) ord0).cents, S.now + S.C.keep⟩) (fun S p => S.left < p.units) (fun _ _ => Iff.rfl) (fun S _ W o hp => great_s hp) (fun S hK W o hp => left_s hp hK.1) (fun S p hK e hle W o hp => ?_) (fun S p hK e hle => ?_) (fun S hK hle => ?_) S w own ⟨hK, hz0⟩ h
 ·obtain ⟨q, hg, rfl, h1, h2, _⟩ := hsome S p hK.2 e
  simp only [hg, Option.getD_some]
  exact ends_s hp hK.1 ⟨h1, .inl (.inl h2)⟩ 18 (by decide)
 ·obtain ⟨q, hg, rfl, h1, h2, _⟩ := hsome S p hK.2 e
  have hlt : S.left < (S.os.getD q ord0).units := hle
  simp only [hg, Option.getD_some]
  obtain ⟨Z, hZ⟩ := hK.2
  refine ⟨⟨hK.1.ends h1 18 (.inr (by decide)) (fun c => absurd c (by decide)), _, sizes_out hZ h1 _ (show (18 : Int) ≠ 12 by decide)⟩, ?_, drained_step h1 h2 hlt⟩
  show (queueS (S.os.set q _)).length < _
  rw [queue_set _ h1 (show (18 : Int) ≠ 12 by decide)]
  refine List.length_filter_lt_length_iff_exists.2 ⟨q, (queueT_mem S.os _ q).2 ⟨h1, h2⟩, by simp⟩
 ·obtain ⟨Z, hZ⟩ := hK.2
  refine drained_stop (fun o ho hs => ?_)
  obtain ⟨j, hj, rfl⟩ := getD_of_mem ho
  rcases great_spec hZ with ⟨hq, _, _⟩ | ⟨i, hg, _, h1, h2, _, h4⟩
  ·have := (queueT_mem S.os _ j).2 ⟨hj, hs⟩
   have hq' : queueT S.os S.os.length = [] := hq
   rw [hq'] at this
   cases this
  ·have := h4 j hj hs
   have h5 := hle (pordOf S.C i (S.os.getD i ord0)) (by unfold Sal.greatW; rw [hg]; rfl)
   have h6 : ¬ S.left < (S.os.getD i ord0).units := h5
   omega
end
end
section
section
variable {w : World} {x : Nat} {own : Nat → Prop} {S : Sal} {last : Nat} {an : Int}
theorem psx_below {W : World} (h : psx an x S last w own) (hW : Below w.heap.size w W) : psx an x S last W own := (keepX an x S last).keep h hW.size (fun k e => hW.block k ((keepX an x S last).lt h k e))
theorem findS_some {os : List Ord} {c o : Int} {i : Nat} (ho : 1 ≤ o) (h : findS os c o = some i) : i < os.length ∧ (os.getD i ord0).cust = c ∧ o = (i : Int) + 1 := by
 unfold findS at h
 split at h
 ·next hc =>
  simp only [Option.some.injEq] at h
  subst h
  exact ⟨by omega, hc.2, by omega⟩
 ·cases h
theorem findS_none {os : List Ord} {c : Int} {i : Nat} (hi : i < os.length) (h : findS os c ((i : Int) + 1) = none) : (os.getD i ord0).cust ≠ c := by
 intro e
 unfold findS at h
 rw [if_pos] at h
 ·cases h
 ·refine ⟨by omega, ?_⟩
  rw [show ((i : Int) + 1 - 1).toNat = i by omega]
  exact e
theorem find_s (r : Req) (ho : 1 ≤ r.order) :
 (∃ i, findS S.os r.cust r.order = some i ∧ S.knows i ∧ r.order = (i : Int) + 1 ∧ ∀ W o, psx an x S last W o → Calls Tryz.prog 66 #[pt x 0, r.val] W fun e w' => e = .returned (.tuple #[(pordOf S.C i (S.os.getD i ord0)).val, .bool true]) ∧ Below W.heap.size W w') ∨
 ((∀ i, findS S.os r.cust r.order = some i → ¬ S.knows i) ∧ ∀ W o, psx an x S last W o → Calls Tryz.prog 66 #[pt x 0, r.val] W fun e w' => e = .returned (.tuple #[pord0.val, .bool false]) ∧ Below W.heap.size W w') := by
 by_cases hk : ∃ i, S.knows i ∧ r.order = (i : Int) + 1
 ·obtain ⟨i, hi, he⟩ := hk
  cases hf : findS S.os r.cust r.order with
  | some j =>
    obtain ⟨_, h2, h3⟩ := findS_some ho hf
    have e : j = i := by omega
    subst e
    refine .inl ⟨j, rfl, hi, he, fun W o hp => ?_⟩
    have e : (pordOf S.C j (S.os.getD j ord0)).val = .agg #[iv ((j : Int) + 1), iv r.cust, iv (S.os.getD j ord0).units, iv (S.os.getD j ord0).state, iv (S.os.getD j ord0).cents, iv ((S.os.getD j ord0).untl S.C)] := by rw [← h2]; rfl
    rw [e]
    refine find_yes x r.kind r.token r.cust r.units r.order _ _ _ _ _ W (fun W' hW' => ?_)
    have := get_s (psx_below hp hW') hi
    rw [e] at this
    rw [he]
    exact this
  | none =>
    refine .inr ⟨fun i e => (by cases e), fun W o hp => ?_⟩
    refine find_other x r.kind r.token r.cust r.units r.order ((i : Int) + 1) (S.os.getD i ord0).cust (S.os.getD i ord0).units (S.os.getD i ord0).state (S.os.getD i ord0).cents ((S.os.getD i ord0).untl S.C) W (findS_none hi.1 (he ▸ hf)) (fun W' hW' => ?_)
    have := get_s (psx_below hp hW') hi
    rw [he]
    exact this
 ·refine .inr ⟨fun i e c => hk ⟨i, c, (findS_some ho e).2.2⟩, fun W o hp => ?_⟩
  exact find_no x r.kind r.token r.cust r.units r.order W (fun W' hW' => get_none_s (psx_below hp hW') (fun i hi e => hk ⟨i, hi, e⟩))
theorem poll_s (h : psx an x S last w own) (hK : saleK S) (r : Req) (ho : 1 ≤ r.order) :
 Calls Tryz.prog 43 #[pt x 0, r.val] w fun e w' => e = .returned (S.poll r).val ∧ Below w.heap.size w w' := by
 rcases find_s (x := x) (last := last) (S := S) (an := an) r ho with ⟨i, hf, hi, he, H⟩ | ⟨hn, H⟩
 ·have H' : ∀ W, Below w.heap.size w W → Calls Tryz.prog 66 #[pt x 0, r.val] W fun e w' => e = .returned (.tuple #[(pordOf S.C i (S.os.getD i ord0)).val, .bool true]) ∧ Below W.heap.size W w' := fun W hW => H W own (psx_below h hW)
  have hu := hK.I.units _ (ord_mem hi.1)
  have hc := (hK.I.ords _ (ord_mem hi.1)).1
  have hp : S.poll r = if (S.os.getD i ord0).state = 12 then ⟨12, r.order, 0, (S.os.getD i ord0).upto⟩
   else if (S.os.getD i ord0).state = 13 then ⟨13, r.order, (S.os.getD i ord0).cents, (S.os.getD i ord0).upto⟩
   else if S.C.keep ≤ S.now - (S.os.getD i ord0).ended then { rep0 with kind := 19 }
   else if (S.os.getD i ord0).state = 14 then ⟨14, r.order, (S.os.getD i ord0).units * (S.os.getD i ord0).cents, 0⟩
   else ⟨(S.os.getD i ord0).state, r.order, 0, 0⟩ := by unfold Sal.poll; rw [hf]
  rw [hp, he]
  unfold pordOf at H'
  by_cases h12 : (S.os.getD i ord0).state = 12
  ·rw [if_pos h12]
   rw [h12, untl_alive (.inl h12)] at H'
   exact poll_wait x r.kind r.token r.cust r.units r.order _ _ _ _ _ w H'
  ·rw [if_neg h12]
   by_cases h13 : (S.os.getD i ord0).state = 13
   ·rw [if_pos h13]
    rw [h13, untl_alive (.inr h13)] at H'
    exact poll_held x r.kind r.token r.cust r.units r.order _ _ _ _ _ w H'
   ·have hna : ¬ (S.os.getD i ord0).alive := fun c => c.elim h12 h13
    have hlt := hi.2.resolve_left hna
    rw [untl_ended hna] at hlt
    rw [if_neg h13, if_neg (by omega)]
    by_cases h14 : (S.os.getD i ord0).state = 14
    ·rw [if_pos h14]
     rw [h14] at H'
     have hm0 : 0 ≤ (S.os.getD i ord0).units * (S.os.getD i ord0).cents := Int.mul_nonneg (by omega) hc.1
     have hm1 : (S.os.getD i ord0).units * (S.os.getD i ord0).cents ≤ 4294967296 * 1073741824 := Int.mul_le_mul hu.2 hc.2 hc.1 (by omega)
     exact poll_sold x r.kind r.token r.cust r.units r.order _ _ _ _ _ _ w (wrap_in (by omega) (by omega)) H'
    ·rw [if_neg h14]
     exact poll_ended x r.kind r.token r.cust r.units r.order _ _ _ _ _ _ w (by simpa using h12) (by simpa using h13) (by simpa using h14) H'
 ·have hp : S.poll r = { rep0 with kind := 19 } := by
   unfold Sal.poll
   cases hf : findS S.os r.cust r.order with
   | none => rfl
   | some i =>
     have hk := hn i hf
     obtain ⟨h1, _, _⟩ := findS_some ho hf
     have hna : ¬ (S.os.getD i ord0).alive := fun c => hk ⟨h1, .inl c⟩
     have hlt : ¬ S.now < (S.os.getD i ord0).untl S.C := fun c => hk ⟨h1, .inr c⟩
     rw [untl_ended hna] at hlt
     simp only
     rw [if_neg (fun c => hna (.inl c)), if_neg (fun c => hna (.inr c)), if_pos (by omega)]
  rw [hp]
  exact poll_none x r.kind r.token r.cust r.units r.order w (fun W hW => H W own (psx_below h hW))
theorem promoteN_far {k : Nat} : ∀ (n : Nat) (S : Sal), (S.os.getD k ord0).state ≠ 12 → (promoteN n S).os.getD k ord0 = S.os.getD k ord0
 | 0, _, _ => rfl
 | n + 1, S, h => by
   unfold promoteN
   split
   ·rfl
   ·next q qs hq =>
    split
    ·rfl
    ·obtain ⟨_, hl, hs⟩ := queue_tail hq ord0 (by decide)
     have hne : k ≠ q := fun e => h (e ▸ hs)
     have hg : (S.holds q).os.getD k ord0 = S.os.getD k ord0 := by
      show (S.os.set q _).getD k ord0 = _
      rw [getD_set _ hl, if_neg hne]
     rw [promoteN_far n _ (by rw [hg]; exact h), hg]
theorem promote_far {k : Nat} (S : Sal) (h : (S.os.getD k ord0).state ≠ 12) : S.promote.os.getD k ord0 = S.os.getD k ord0 := promoteN_far _ S h
theorem drained_far {k : Nat} (S : Sal) (h : (S.os.getD k ord0).state ≠ 12) : S.drained.os.getD k ord0 = S.os.getD k ord0 := by
 show (S.os.map (dry S.left S.now)).getD k ord0 = _
 by_cases hk : k < S.os.length
 ·have e1 : S.os[k]? = some (S.os.getD k ord0) := by simp [List.getD, List.getElem?_eq_getElem hk]
  have e2 : (S.os.map (dry S.left S.now)).getD k ord0 = dry S.left S.now (S.os.getD k ord0) := by
   simp only [List.getD, List.getElem?_map]
   rw [show S.os[k]? = some (S.os[k]?.getD ord0) from e1]
   rfl
  rw [e2]
  unfold dry
  rw [if_neg (fun c => h c.1)]
 ·simp [List.getD, List.getElem?_eq_none (Nat.le_of_not_lt hk)]
theorem saleK.drained {S : Sal} (h : saleK S) : saleK S.drained := by
 have := drain_inv (n := S.os.length) (queueS S.os) S h.I rfl (fun q hq => (queueT_lt S.os _ q hq))
 rw [drainS_queue] at this
 exact ⟨this.1, by rw [this.2]; exact h.len, h.lease, h.wait, h.keep⟩
theorem saleK.promote {S : Sal} (h : saleK S) : saleK S.promote := by
 obtain ⟨a, _, _⟩ := promote_keep S
 exact ⟨promote_inv S h.I, by rw [promote_len]; exact h.len, by rw [a]; exact h.lease, by rw [a]; exact h.wait, by rw [a]; exact h.keep⟩
theorem confirm_s (h : psx an x S last w own) (hK : saleK S) (r : Req) (ho : 1 ≤ r.order) :
 Calls Tryz.prog 97 #[pt x 0, r.val] w fun e w' => e = .returned (S.confirm r).1.val ∧ ansP (psx an x (S.confirm r).2 last) w w' own := by
 have K := keepX an x S last
 have hw := K.lt h
 have stay : S.confirm r = (⟨9, 0, 0, 0⟩, S) → ∀ (e : Ending) (w' : World), e = .returned (.agg #[iv 9, iv 0, iv 0, iv 0]) ∧ Below w.heap.size w w' → e = .returned (S.confirm r).1.val ∧ ansP (psx an x (S.confirm r).2 last) w w' own := by
  rintro hc e w' ⟨rfl, hb⟩
  rw [hc]
  exact ⟨rfl, ansP_below K h hb⟩
 rcases find_s (x := x) (last := last) (S := S) (an := an) r ho with ⟨i, hf, hi, he, H⟩ | ⟨hn, H⟩
 ·by_cases h13 : (S.os.getD i ord0).state = 13
  ·have hu := hK.I.units _ (ord_mem hi.1)
   have hc := (hK.I.ords _ (ord_mem hi.1)).1
   have hm0 : 0 ≤ (S.os.getD i ord0).units * (S.os.getD i ord0).cents := Int.mul_nonneg (by omega) hc.1
   have hm1 : (S.os.getD i ord0).units * (S.os.getD i ord0).cents ≤ 4294967296 * 1073741824 := Int.mul_le_mul hu.2 hc.2 hc.1 (by omega)
   have K1 := hK.ends hi.1 14 (.inl rfl) (fun _ => h13)
   have hend : ((S.ends i 14).drained.promote.os.getD i ord0) = { S.os.getD i ord0 with state := 14, ended := S.now } := by
    have e1 : (S.ends i 14).os.getD i ord0 = { S.os.getD i ord0 with state := 14, ended := S.now } := by
     show (S.os.set i _).getD i ord0 = _
     rw [getD_set _ hi.1, if_pos rfl]
    have e2 := drained_far (k := i) (S.ends i 14) (by rw [e1]; exact (show (14 : Int) ≠ 12 by decide))
    rw [promote_far _ (by rw [e2, e1]; exact (show (14 : Int) ≠ 12 by decide)), e2, e1]
   have hcf : S.confirm r = (⟨7, (i : Int) + 1, (S.os.getD i ord0).units * (S.os.getD i ord0).cents, 0⟩, (S.ends i 14).drained.promote) := by
    unfold Sal.confirm
    rw [hf]
    simp only
    rw [if_neg (fun c => c h13), drainS_queue, hend, he]
   rw [hcf]
   have ep : pordOf S.C i (S.os.getD i ord0) = ⟨(i : Int) + 1, (S.os.getD i ord0).cust, (S.os.getD i ord0).units, 13, (S.os.getD i ord0).cents, (S.os.getD i ord0).untl S.C⟩ := by rw [← h13]; rfl
   refine confirm_yes x own (psx an x S last) (psx an x (S.ends i 14) last) (psx an x (S.ends i 14).drained last) (psx an x (S.ends i 14).drained.promote last) K (keepX _ _ _ _) r.kind r.token r.cust r.units r.order ((i : Int) + 1) (S.os.getD i ord0).cust (S.os.getD i ord0).units (S.os.getD i ord0).cents ((S.os.getD i ord0).untl S.C) (S.now + S.C.keep) _ w (wrap_in (by omega) (by omega)) hw h (fun loc W hW => ?_) (fun loc W hW => ?_) (fun loc W hW => seenL_call hw (fun W o hp => drain_s hp K1) W hW) (fun loc W hW => seenL_call hw (fun W o hp => promote_s hp K1.drained) W hW)
   ·refine seenL_look K hw (fun W o hp => ?_) W hW
    have := H W o hp
    rw [ep] at this
    exact this
   ·refine seenL_call hw (fun W o hp => ?_) W hW
    have := ends_s hp hK hi 14 (by decide)
    rw [ep] at this
    exact this
  ·have hcf : S.confirm r = (⟨9, 0, 0, 0⟩, S) := by
    unfold Sal.confirm
    rw [hf]
    simp only
    rw [if_pos h13]
   exact (confirm_gone x r.kind r.token r.cust r.units r.order _ _ _ _ _ _ w (bne_iff_ne.2 h13) (fun W hW => H W own (psx_below h hW))).mono (stay hcf)
 ·have hcf : S.confirm r = (⟨9, 0, 0, 0⟩, S) := by
   unfold Sal.confirm
   cases hf : findS S.os r.cust r.order with
   | none => rfl
   | some i =>
     obtain ⟨h1, _, _⟩ := findS_some ho hf
     simp only
     rw [if_pos (fun c => hn i hf ⟨h1, .inl (.inr c)⟩)]
  exact (confirm_none x r.kind r.token r.cust r.units r.order w (fun W hW => H W own (psx_below h hW))).mono (stay hcf)
theorem cancel_s (h : psx an x S last w own) (hK : saleK S) (r : Req) (ho : 1 ≤ r.order) :
 Calls Tryz.prog 98 #[pt x 0, r.val] w fun e w' => e = .returned (S.cancel r).1.val ∧ ansP (psx an x (S.cancel r).2 last) w w' own := by
 have K := keepX an x S last
 have hw := K.lt h
 have stay : S.cancel r = (⟨9, 0, 0, 0⟩, S) → ∀ (e : Ending) (w' : World), e = .returned (.agg #[iv 9, iv 0, iv 0, iv 0]) ∧ Below w.heap.size w w' → e = .returned (S.cancel r).1.val ∧ ansP (psx an x (S.cancel r).2 last) w w' own := by
  rintro hc e w' ⟨rfl, hb⟩
  rw [hc]
  exact ⟨rfl, ansP_below K h hb⟩
 rcases find_s (x := x) (last := last) (S := S) (an := an) r ho with ⟨i, hf, hi, he, H⟩ | ⟨hn, H⟩
 ·by_cases hal : (S.os.getD i ord0).state ≠ 13 ∧ (S.os.getD i ord0).state ≠ 12
  ·have hcf : S.cancel r = (⟨9, 0, 0, 0⟩, S) := by
    unfold Sal.cancel
    rw [hf]
    simp only
    rw [if_pos hal]
   exact (cancel_gone x r.kind r.token r.cust r.units r.order _ _ _ _ _ _ w (bne_iff_ne.2 hal.1) (bne_iff_ne.2 hal.2) (fun W hW => H W own (psx_below h hW))).mono (stay hcf)
  ·have K1 := hK.ends hi.1 16 (.inr (by decide)) (fun c => absurd c (by decide))
   have hcf : S.cancel r = (⟨8, (i : Int) + 1, 0, 0⟩, (S.ends i 16).promote) := by
    unfold Sal.cancel
    rw [hf]
    simp only
    rw [if_neg hal, he]
   rw [hcf]
   by_cases h13 : (S.os.getD i ord0).state = 13
   ·have ep : pordOf S.C i (S.os.getD i ord0) = ⟨(i : Int) + 1, (S.os.getD i ord0).cust, (S.os.getD i ord0).units, 13, (S.os.getD i ord0).cents, (S.os.getD i ord0).untl S.C⟩ := by rw [← h13]; rfl
    refine cancel_held x own (psx an x S last) (psx an x (S.ends i 16) last) (psx an x (S.ends i 16).promote last) K (keepX _ _ _ _) r.kind r.token r.cust r.units r.order ((i : Int) + 1) (S.os.getD i ord0).cust (S.os.getD i ord0).units (S.os.getD i ord0).cents ((S.os.getD i ord0).untl S.C) (S.now + S.C.keep) w hw h (fun loc W hW => ?_) (fun loc W hW => ?_) (fun loc W hW => seenL_call hw (fun W o hp => promote_s hp K1) W hW)
    ·refine seenL_look K hw (fun W o hp => ?_) W hW
     have := H W o hp
     rw [ep] at this
     exact this
    ·refine seenL_call hw (fun W o hp => ?_) W hW
     have := ends_s hp hK hi 16 (by decide)
     rw [ep] at this
     exact this
   ·have h12 : (S.os.getD i ord0).state = 12 := Classical.byContradiction (fun c => hal ⟨h13, c⟩)
    have ep : pordOf S.C i (S.os.getD i ord0) = ⟨(i : Int) + 1, (S.os.getD i ord0).cust, (S.os.getD i ord0).units, 12, (S.os.getD i ord0).cents, (S.os.getD i ord0).untl S.C⟩ := by rw [← h12]; rfl
    refine cancel_wait x own (psx an x S last) (psx an x (S.ends i 16) last) (psx an x (S.ends i 16).promote last) K (keepX _ _ _ _) r.kind r.token r.cust r.units r.order ((i : Int) + 1) (S.os.getD i ord0).cust (S.os.getD i ord0).units (S.os.getD i ord0).cents ((S.os.getD i ord0).untl S.C) (S.now + S.C.keep) w hw h (fun loc W hW => ?_) (fun loc W hW => ?_) (fun loc W hW => seenL_call hw (fun W o hp => promote_s hp K1) W hW)
    ·refine seenL_look K hw (fun W o hp => ?_) W hW
     have := H W o hp
     rw [ep] at this
     exact this
    ·refine seenL_call hw (fun W o hp => ?_) W hW
     have := ends_s hp hK hi 16 (by decide)
     rw [ep] at this
     exact this
 ·have hcf : S.cancel r = (⟨9, 0, 0, 0⟩, S) := by
   unfold Sal.cancel
   cases hf : findS S.os r.cust r.order with
   | none => rfl
   | some i =>
     obtain ⟨h1, _, _⟩ := findS_some ho hf
     simp only
     rw [if_pos ⟨fun c => hn i hf ⟨h1, .inl (.inr c)⟩, fun c => hn i hf ⟨h1, .inl (.inl c)⟩⟩]
  exact (cancel_none x r.kind r.token r.cust r.units r.order w (fun W hW => H W own (psx_below h hW))).mono (stay hcf)
end
end
theorem seenL_set6 {P : World → (Nat → Prop) → Prop} {w W : World} {own loc : Nat → Prop} (K : Keeps P) (h : seenL P w own loc W) (hw : ∀ k, own k → k < w.heap.size) {b : Nat} (hb : loc b) (v0 v1 v2 v3 v4 v5 : Value) : seenL P w own loc ((((((W.setCell (aq b 0) v0).setCell (aq b 1) v1).setCell (aq b 2) v2).setCell (aq b 3) v3).setCell (aq b 4) v4).setCell (aq b 5) v5) :=
 seenL_set K (seenL_set K (seenL_set K (seenL_set K (seenL_set K (seenL_set K h hw hb v0) hw hb v1) hw hb v2) hw hb v3) hw hb v4) hw hb v5
theorem grant_w (x : Nat) (own : Nat → Prop) (P0 P1 P2 : World → (Nat → Prop) → Prop) (K0 : Keeps P0) (K1 : Keeps P1) (K2 : Keeps P2) (k t c u o num pr up : Int) (w : World) (hw : ∀ k, own k → k < w.heap.size) (h : P0 w own)
 (HN : Hid (doesL w own P0 P1 151 #[pt x 0, .agg #[iv k, iv t, iv c, iv u, iv o]] (.agg #[iv num, iv c, iv u, iv 0, iv 0, iv 0])))
 (H0 : Hid (doesL w own P1 P2 136 #[pt x 0, .agg #[iv num, iv c, iv u, iv 0, iv 0, iv 0]] (.agg #[iv num, iv c, iv u, iv 13, iv pr, iv up]))) :
 Calls Tryz.prog 127 #[pt x 0, .agg #[iv k, iv t, iv c, iv u, iv o]] w fun e w' => e = .returned (.agg #[iv 2, iv num, iv pr, iv up]) ∧ ansP P2 w w' own := by
 replace hw : Hid _ := hw
 go_enter Tryz.func127, Tryz.ntmps127
 have hT0 : Hid (seenL P0 w own (fun j => j = w.heap.size ∨ j = w.heap.size + 1) ((w.alloc (.cells #[iv k, iv t, iv c, iv u, iv o] 39)).alloc (.cells #[iv 0, iv 0, iv 0, iv 0] 33))) := seenL_start K0 h (((Below.refl _ _).alloc (Nat.le_refl _) _).alloc (by simp) _) (fun j e => by rcases e with e | e <;> (subst e; simp; try omega))
 have rb0 : Hid (((w.alloc (.cells #[iv k, iv t, iv c, iv u, iv o] 39)).alloc (.cells #[iv 0, iv 0, iv 0, iv 0] 33)).heap[w.heap.size + 1]? = some (.cells #[iv 0, iv 0, iv 0, iv 0] 33 (0, 0))) := by
  have h := heap_alloc_new (w.alloc (.cells #[iv k, iv t, iv c, iv u, iv o] 39)) (.cells #[iv 0, iv 0, iv 0, iv 0] 33)
  rwa [show (w.alloc (.cells #[iv k, iv t, iv c, iv u, iv o] 39)).heap.size = w.heap.size + 1 by simp] at h
 clear h
 go_wp2_with fail
 generalize (w.alloc (.cells #[iv k, iv t, iv c, iv u, iv o] 39)).alloc (.cells #[iv 0, iv 0, iv 0, iv 0] 33) = W0 at hT0 rb0 ⊢
 refine (HN.out _ _ hT0.out).mono ?_
 rintro e W1 ⟨rfl, hT1, hk⟩
 have rb1 : Hid (W1.heap[w.heap.size + 1]? = some (.cells #[iv 0, iv 0, iv 0, iv 0] 33 (0, 0))) := (hk _ (.inr rfl)).trans rb0.out
 have lv1 : w.heap.size + 1 < W1.heap.size := (blt rb1.out)
 have hT2 : Hid (seenL P1 w own (fun j => (j = w.heap.size ∨ j = w.heap.size + 1) ∨ j = W1.heap.size) (W1.alloc (.cells #[iv num, iv c, iv u, iv 0, iv 0, iv 0] 142))) := seenL_alloc K1 hT1 _
 have ob2 : Hid ((W1.alloc (.cells #[iv num, iv c, iv u, iv 0, iv 0, iv 0] 142)).heap[W1.heap.size]? = some (.cells #[iv num, iv c, iv u, iv 0, iv 0, iv 0] 142 (0, 0))) := heap_alloc_new W1 _
 have rb2 : Hid ((W1.alloc (.cells #[iv num, iv c, iv u, iv 0, iv 0, iv 0] 142)).heap[w.heap.size + 1]? = some (.cells #[iv 0, iv 0, iv 0, iv 0] 33 (0, 0))) := (Below.heap_alloc _ _ _ lv1).trans rb1.out
 clear hk hT0 hT1 rb0 rb1 lv1
 go_wp2_with fail
 refine (H0.out _ _ hT2.out).mono ?_
 rintro e W2 ⟨rfl, hT3, hk⟩
 have ob3 := (hk _ (.inr rfl)).trans ob2.out
 have rb3 : Hid (W2.heap[w.heap.size + 1]? = some (.cells #[iv 0, iv 0, iv 0, iv 0] 33 (0, 0))) := (hk _ (.inl (.inr rfl))).trans rb2.out
 have lo : W1.heap.size < W2.heap.size := (blt ob3)
 have lv : w.heap.size + 1 < W2.heap.size := (blt rb3.out)
 have lne : w.heap.size + 1 ≠ W1.heap.size := by
  intro e
  have := (hk (w.heap.size + 1) (.inl (.inr rfl))).trans rb2.out
  rw [e, ob3] at this
  simp at this
 have HE : Hid (∀ a0 a1 a2 a3 a4 a5 v0 v1 v2 v3, ansP P2 w (((((((((((W2.setCell (aq W1.heap.size 0) a0).setCell (aq W1.heap.size 1) a1).setCell (aq W1.heap.size 2) a2).setCell (aq W1.heap.size 3) a3).setCell (aq W1.heap.size 4) a4).setCell (aq W1.heap.size 5) a5).setCell (aq (w.heap.size + 1) 0) v0).setCell (aq (w.heap.size + 1) 1) v1).setCell (aq (w.heap.size + 1) 2) v2).setCell (aq (w.heap.size + 1) 3) v3)) own) := fun a0 a1 a2 a3 a4 a5 v0 v1 v2 v3 => seenL_end (seenL_set4 K2 (seenL_set6 K2 hT3 hw.out (.inr rfl) a0 a1 a2 a3 a4 a5) hw.out (.inl (.inr rfl)) v0 v1 v2 v3)
 obtain ⟨r0, r1, r2, r3⟩ := four_cells rb3.out
 obtain ⟨s0, s1, s2, s3, s4, s5⟩ := six_cells ob3
 have g0 := row_free rb3.out 0
 have g1 := row_free rb3.out 1
 have g2 := row_free rb3.out 2
 have g3 := row_free rb3.out 3
 have f0 := row_free ob3 0
 have f1 := row_free ob3 1
 have f2 := row_free ob3 2
 have f3 := row_free ob3 3
 have f4 := row_free ob3 4
 have f5 := row_free ob3 5
 clear hk hT3 hT2 ob2 rb2 ob3
 go_wp2
 refine bodyPost_ret (v := .agg #[iv 2, iv num, iv pr, iv up]) (by simp [results, Tryz.results127, go_sem, r0, r1, r2, r3]) rfl ⟨rfl, ?_⟩
 exact HE.out _ _ _ _ _ _ _ _ _ _
theorem enqueue_w (x : Nat) (own : Nat → Prop) (P0 P1 P2 : World → (Nat → Prop) → Prop) (K0 : Keeps P0) (K1 : Keeps P1) (K2 : Keeps P2) (k t c u o num up : Int) (w : World) (hw : ∀ k, own k → k < w.heap.size) (h : P0 w own)
 (HN : Hid (doesL w own P0 P1 151 #[pt x 0, .agg #[iv k, iv t, iv c, iv u, iv o]] (.agg #[iv num, iv c, iv u, iv 0, iv 0, iv 0])))
 (H0 : Hid (doesL w own P1 P2 129 #[pt x 0, .agg #[iv num, iv c, iv u, iv 0, iv 0, iv 0], iv 12] (.agg #[iv num, iv c, iv u, iv 12, iv 0, iv up]))) :
 Calls Tryz.prog 128 #[pt x 0, .agg #[iv k, iv t, iv c, iv u, iv o]] w fun e w' => e = .returned (.agg #[iv 3, iv num, iv 0, iv up]) ∧ ansP P2 w w' own := by
 replace hw : Hid _ := hw
 go_enter Tryz.func128, Tryz.ntmps128
 have hT0 : Hid (seenL P0 w own (fun j => j = w.heap.size ∨ j = w.heap.size + 1) ((w.alloc (.cells #[iv k, iv t, iv c, iv u, iv o] 39)).alloc (.cells #[iv 0, iv 0, iv 0, iv 0] 33))) := seenL_start K0 h (((Below.refl _ _).alloc (Nat.le_refl _) _).alloc (by simp) _) (fun j e => by rcases e with e | e <;> (subst e; simp; try omega))
 have rb0 : Hid (((w.alloc (.cells #[iv k, iv t, iv c, iv u, iv o] 39)).alloc (.cells #[iv 0, iv 0, iv 0, iv 0] 33)).heap[w.heap.size + 1]? = some (.cells #[iv 0, iv 0, iv 0, iv 0] 33 (0, 0))) := by
  have h := heap_alloc_new (w.alloc (.cells #[iv k, iv t, iv c, iv u, iv o] 39)) (.cells #[iv 0, iv 0, iv 0, iv 0] 33)
  rwa [show (w.alloc (.cells #[iv k, iv t, iv c, iv u, iv o] 39)).heap.size = w.heap.size + 1 by simp] at h
 clear h
 go_wp2_with fail
 generalize (w.alloc (.cells #[iv k, iv t, iv c, iv u, iv o] 39)).alloc (.cells #[iv 0, iv 0, iv 0, iv 0] 33) = W0 at hT0 rb0 ⊢
 refine (HN.out _ _ hT0.out).mono ?_
 rintro e W1 ⟨rfl, hT1, hk⟩
 have rb1 : Hid (W1.heap[w.heap.size + 1]? = some (.cells #[iv 0, iv 0, iv 0, iv 0] 33 (0, 0))) := (hk _ (.inr rfl)).trans rb0.out
 have lv1 : w.heap.size + 1 < W1.heap.size := (blt rb1.out)
 have hT2 : Hid (seenL P1 w own (fun j => (j = w.heap.size ∨ j = w.heap.size + 1) ∨ j = W1.heap.size) (W1.alloc (.cells #[iv num, iv c, iv u, iv 0, iv 0, iv 0] 142))) := seenL_alloc K1 hT1 _
 have ob2 : Hid ((W1.alloc (.cells #[iv num, iv c, iv u, iv 0, iv 0, iv 0] 142)).heap[W1.heap.size]? = some (.cells #[iv num, iv c, iv u, iv 0, iv 0, iv 0] 142 (0, 0))) := heap_alloc_new W1 _
 have rb2 : Hid ((W1.alloc (.cells #[iv num, iv c, iv u, iv 0, iv 0, iv 0] 142)).heap[w.heap.size + 1]? = some (.cells #[iv 0, iv 0, iv 0, iv 0] 33 (0, 0))) := (Below.heap_alloc _ _ _ lv1).trans rb1.out
 clear hk hT0 hT1 rb0 rb1 lv1
 go_wp2_with fail
 refine (H0.out _ _ hT2.out).mono ?_
 rintro e W2 ⟨rfl, hT3, hk⟩
 have ob3 := (hk _ (.inr rfl)).trans ob2.out
 have rb3 : Hid (W2.heap[w.heap.size + 1]? = some (.cells #[iv 0, iv 0, iv 0, iv 0] 33 (0, 0))) := (hk _ (.inl (.inr rfl))).trans rb2.out
 have lo : W1.heap.size < W2.heap.size := (blt ob3)
 have lv : w.heap.size + 1 < W2.heap.size := (blt rb3.out)
 have lne : w.heap.size + 1 ≠ W1.heap.size := by
  intro e
  have := (hk (w.heap.size + 1) (.inl (.inr rfl))).trans rb2.out
  rw [e, ob3] at this
  simp at this
 have HE : Hid (∀ a0 a1 a2 a3 a4 a5 v0 v1 v2 v3, ansP P2 w (((((((((((W2.setCell (aq W1.heap.size 0) a0).setCell (aq W1.heap.size 1) a1).setCell (aq W1.heap.size 2) a2).setCell (aq W1.heap.size 3) a3).setCell (aq W1.heap.size 4) a4).setCell (aq W1.heap.size 5) a5).setCell (aq (w.heap.size + 1) 0) v0).setCell (aq (w.heap.size + 1) 1) v1).setCell (aq (w.heap.size + 1) 2) v2).setCell (aq (w.heap.size + 1) 3) v3)) own) := fun a0 a1 a2 a3 a4 a5 v0 v1 v2 v3 => seenL_end (seenL_set4 K2 (seenL_set6 K2 hT3 hw.out (.inr rfl) a0 a1 a2 a3 a4 a5) hw.out (.inl (.inr rfl)) v0 v1 v2 v3)
 obtain ⟨r0, r1, r2, r3⟩ := four_cells rb3.out
 obtain ⟨s0, s1, s2, s3, s4, s5⟩ := six_cells ob3
 have g0 := row_free rb3.out 0
 have g1 := row_free rb3.out 1
 have g2 := row_free rb3.out 2
 have g3 := row_free rb3.out 3
 have f0 := row_free ob3 0
 have f1 := row_free ob3 1
 have f2 := row_free ob3 2
 have f3 := row_free ob3 3
 have f4 := row_free ob3 4
 have f5 := row_free ob3 5
 clear hk hT3 hT2 ob2 rb2 ob3
 go_wp2
 refine bodyPost_ret (v := .agg #[iv 3, iv num, iv 0, iv up]) (by simp [results, Tryz.results128, go_sem, r0, r1, r2, r3]) rfl ⟨rfl, ?_⟩
 exact HE.out _ _ _ _ _ _ _ _ _ _
theorem do_ask (x : Nat) (own : Nat → Prop) (P0 P1 : World → (Nat → Prop) → Prop) (K0 : Keeps P0) (K1 : Keeps P1) (t c u o a0 a1 a2 a3 : Int) (w : World) (hw : ∀ k, own k → k < w.heap.size) (h : P0 w own)
 (H0 : Hid (doesL w own P0 P1 96 #[pt x 0, .agg #[iv 1, iv t, iv c, iv u, iv o]] (.agg #[iv a0, iv a1, iv a2, iv a3]))) :
 Calls Tryz.prog 68 #[pt x 0, .agg #[iv 1, iv t, iv c, iv u, iv o]] w fun e w' => e = .returned (.agg #[iv a0, iv a1, iv a2, iv a3]) ∧ ansP P1 w w' own := by
 replace hw : Hid _ := hw
 go_enter Tryz.func68, Tryz.ntmps68
 have hT0 : Hid (seenL P0 w own (fun j => j = w.heap.size ∨ j = w.heap.size + 1) ((w.alloc (.cells #[iv 1, iv t, iv c, iv u, iv o] 39)).alloc (.cells #[iv 0, iv 0, iv 0, iv 0] 33))) := seenL_start K0 h (((Below.refl _ _).alloc (Nat.le_refl _) _).alloc (by simp) _) (fun j e => by rcases e with e | e <;> (subst e; simp; try omega))
 have rb0 : Hid (((w.alloc (.cells #[iv 1, iv t, iv c, iv u, iv o] 39)).alloc (.cells #[iv 0, iv 0, iv 0, iv 0] 33)).heap[w.heap.size + 1]? = some (.cells #[iv 0, iv 0, iv 0, iv 0] 33 (0, 0))) := by
  have h := heap_alloc_new (w.alloc (.cells #[iv 1, iv t, iv c, iv u, iv o] 39)) (.cells #[iv 0, iv 0, iv 0, iv 0] 33)
  rwa [show (w.alloc (.cells #[iv 1, iv t, iv c, iv u, iv o] 39)).heap.size = w.heap.size + 1 by simp] at h
 clear h
 go_wp2_with fail
 generalize (w.alloc (.cells #[iv 1, iv t, iv c, iv u, iv o] 39)).alloc (.cells #[iv 0, iv 0, iv 0, iv 0] 33) = W0 at hT0 rb0 ⊢
 refine (H0.out _ _ hT0.out).mono ?_
 rintro e W1 ⟨rfl, hT1, hk⟩
 have rb1 : Hid (W1.heap[w.heap.size + 1]? = some (.cells #[iv 0, iv 0, iv 0, iv 0] 33 (0, 0))) := (hk _ (.inr rfl)).trans rb0.out
 have lv : w.heap.size + 1 < W1.heap.size := (blt rb1.out)
 have HE : Hid (∀ v0 v1 v2 v3, ansP P1 w ((((W1.setCell (aq (w.heap.size + 1) 0) v0).setCell (aq (w.heap.size + 1) 1) v1).setCell (aq (w.heap.size + 1) 2) v2).setCell (aq (w.heap.size + 1) 3) v3) own) := fun v0 v1 v2 v3 => seenL_end (seenL_set4 K1 hT1 hw.out (.inr rfl) v0 v1 v2 v3)
 obtain ⟨r0, r1, r2, r3⟩ := four_cells rb1.out
 have g0 := row_free rb1.out 0
 have g1 := row_free rb1.out 1
 have g2 := row_free rb1.out 2
 have g3 := row_free rb1.out 3
 clear hk hT0 hT1 rb0
 go_wp2
 refine bodyPost_ret (v := .agg #[iv a0, iv a1, iv a2, iv a3]) (by simp [results, Tryz.results68, go_sem, r0, r1, r2, r3]) rfl ⟨rfl, ?_⟩
 exact HE.out _ _ _ _
theorem do_confirm (x : Nat) (own : Nat → Prop) (P0 P1 : World → (Nat → Prop) → Prop) (K0 : Keeps P0) (K1 : Keeps P1) (t c u o a0 a1 a2 a3 : Int) (w : World) (hw : ∀ k, own k → k < w.heap.size) (h : P0 w own)
 (H0 : Hid (doesL w own P0 P1 97 #[pt x 0, .agg #[iv 2, iv t, iv c, iv u, iv o]] (.agg #[iv a0, iv a1, iv a2, iv a3]))) :
 Calls Tryz.prog 68 #[pt x 0, .agg #[iv 2, iv t, iv c, iv u, iv o]] w fun e w' => e = .returned (.agg #[iv a0, iv a1, iv a2, iv a3]) ∧ ansP P1 w w' own := by
 replace hw : Hid _ := hw
 go_enter Tryz.func68, Tryz.ntmps68
 have hT0 : Hid (seenL P0 w own (fun j => j = w.heap.size ∨ j = w.heap.size + 1) ((w.alloc (.cells #[iv 2, iv t, iv c, iv u, iv o] 39)).alloc (.cells #[iv 0, iv 0, iv 0, iv 0] 33))) := seenL_start K0 h (((Below.refl _ _).alloc (Nat.le_refl _) _).alloc (by simp) _) (fun j e => by rcases e with e | e <;> (subst e; simp; try omega))
 have rb0 : Hid (((w.alloc (.cells #[iv 2, iv t, iv c, iv u, iv o] 39)).alloc (.cells #[iv 0, iv 0, iv 0, iv 0] 33)).heap[w.heap.size + 1]? = some (.cells #[iv 0, iv 0, iv 0, iv 0] 33 (0, 0))) := by
  have h := heap_alloc_new (w.alloc (.cells #[iv 2, iv t, iv c, iv u, iv o] 39)) (.cells #[iv 0, iv 0, iv 0, iv 0] 33)
  rwa [show (w.alloc (.cells #[iv 2, iv t, iv c, iv u, iv o] 39)).heap.size = w.heap.size + 1 by simp] at h
 clear h
 go_wp2_with fail
 generalize (w.alloc (.cells #[iv 2, iv t, iv c, iv u, iv o] 39)).alloc (.cells #[iv 0, iv 0, iv 0, iv 0] 33) = W0 at hT0 rb0 ⊢
 refine (H0.out _ _ hT0.out).mono ?_
 rintro e W1 ⟨rfl, hT1, hk⟩
 have rb1 : Hid (W1.heap[w.heap.size + 1]? = some (.cells #[iv 0, iv 0, iv 0, iv 0] 33 (0, 0))) := (hk _ (.inr rfl)).trans rb0.out
 have lv : w.heap.size + 1 < W1.heap.size := (blt rb1.out)
 have HE : Hid (∀ v0 v1 v2 v3, ansP P1 w ((((W1.setCell (aq (w.heap.size + 1) 0) v0).setCell (aq (w.heap.size + 1) 1) v1).setCell (aq (w.heap.size + 1) 2) v2).setCell (aq (w.heap.size + 1) 3) v3) own) := fun v0 v1 v2 v3 => seenL_end (seenL_set4 K1 hT1 hw.out (.inr rfl) v0 v1 v2 v3)
 obtain ⟨r0, r1, r2, r3⟩ := four_cells rb1.out
 have g0 := row_free rb1.out 0
 have g1 := row_free rb1.out 1
 have g2 := row_free rb1.out 2
 have g3 := row_free rb1.out 3
 clear hk hT0 hT1 rb0
 go_wp2
 refine bodyPost_ret (v := .agg #[iv a0, iv a1, iv a2, iv a3]) (by simp [results, Tryz.results68, go_sem, r0, r1, r2, r3]) rfl ⟨rfl, ?_⟩
 exact HE.out _ _ _ _
theorem do_cancel (x : Nat) (own : Nat → Prop) (P0 P1 : World → (Nat → Prop) → Prop) (K0 : Keeps P0) (K1 : Keeps P1) (k t c u o a0 a1 a2 a3 : Int) (w : World) (q1 : (k == 1) = false) (q2 : (k == 2) = false) (hw : ∀ k, own k → k < w.heap.size) (h : P0 w own)
 (H0 : Hid (doesL w own P0 P1 98 #[pt x 0, .agg #[iv k, iv t, iv c, iv u, iv o]] (.agg #[iv a0, iv a1, iv a2, iv a3]))) :
 Calls Tryz.prog 68 #[pt x 0, .agg #[iv k, iv t, iv c, iv u, iv o]] w fun e w' => e = .returned (.agg #[iv a0, iv a1, iv a2, iv a3]) ∧ ansP P1 w w' own := by
 replace hw : Hid _ := hw
 go_enter Tryz.func68, Tryz.ntmps68
 have hT0 : Hid (seenL P0 w own (fun j => j = w.heap.size ∨ j = w.heap.size + 1) ((w.alloc (.cells #[iv k, iv t, iv c, iv u, iv o] 39)).alloc (.cells #[iv 0, iv 0, iv 0, iv 0] 33))) := seenL_start K0 h (((Below.refl _ _).alloc (Nat.le_refl _) _).alloc (by simp) _) (fun j e => by rcases e with e | e <;> (subst e; simp; try omega))
 have rb0 : Hid (((w.alloc (.cells #[iv k, iv t, iv c, iv u, iv o] 39)).alloc (.cells #[iv 0, iv 0, iv 0, iv 0] 33)).heap[w.heap.size + 1]? = some (.cells #[iv 0, iv 0, iv 0, iv 0] 33 (0, 0))) := by
  have h := heap_alloc_new (w.alloc (.cells #[iv k, iv t, iv c, iv u, iv o] 39)) (.cells #[iv 0, iv 0, iv 0, iv 0] 33)
  rwa [show (w.alloc (.cells #[iv k, iv t, iv c, iv u, iv o] 39)).heap.size = w.heap.size + 1 by simp] at h
 clear h
 go_wp2_with fail
 generalize (w.alloc (.cells #[iv k, iv t, iv c, iv u, iv o] 39)).alloc (.cells #[iv 0, iv 0, iv 0, iv 0] 33) = W0 at hT0 rb0 ⊢
 refine (H0.out _ _ hT0.out).mono ?_
 rintro e W1 ⟨rfl, hT1, hk⟩
 have rb1 : Hid (W1.heap[w.heap.size + 1]? = some (.cells #[iv 0, iv 0, iv 0, iv 0] 33 (0, 0))) := (hk _ (.inr rfl)).trans rb0.out
 have lv : w.heap.size + 1 < W1.heap.size := (blt rb1.out)
 have HE : Hid (∀ v0 v1 v2 v3, ansP P1 w ((((W1.setCell (aq (w.heap.size + 1) 0) v0).setCell (aq (w.heap.size + 1) 1) v1).setCell (aq (w.heap.size + 1) 2) v2).setCell (aq (w.heap.size + 1) 3) v3) own) := fun v0 v1 v2 v3 => seenL_end (seenL_set4 K1 hT1 hw.out (.inr rfl) v0 v1 v2 v3)
 obtain ⟨r0, r1, r2, r3⟩ := four_cells rb1.out
 have g0 := row_free rb1.out 0
 have g1 := row_free rb1.out 1
 have g2 := row_free rb1.out 2
 have g3 := row_free rb1.out 3
 clear hk hT0 hT1 rb0
 go_wp2
 refine bodyPost_ret (v := .agg #[iv a0, iv a1, iv a2, iv a3]) (by simp [results, Tryz.results68, go_sem, r0, r1, r2, r3]) rfl ⟨rfl, ?_⟩
 exact HE.out _ _ _ _
section
section
variable {w : World} {x : Nat} {own : Nat → Prop} {S : Sal} {last : Nat} {an : Int}
theorem newOrder_s (h : psx an x S last w own) (hl : last ≤ 4294967296) (r : Req) :
 Calls Tryz.prog 151 #[pt x 0, r.val] w fun e w' => e = .returned (POrd.val ⟨(last : Int) + 1, r.cust, r.units, 0, 0, 0⟩) ∧ ansP (psx an x S (last + 1)) w w' own := by
 obtain ⟨V, hm, hr, ha, han⟩ := h
 have hv := hr.last
 refine (newOrder_x r.kind r.token r.cust r.units r.order hm (by rw [hv]; omega)).mono ?_
 rintro e w' ⟨rfl, hq⟩
 rw [hv] at hq
 refine ⟨by rw [hv], psmAns_psx hq ⟨hr.C, hr.now, ?_, hr.tn, hr.once, hr.tl, hr.kin, hr.live, hr.ls, hr.ol, hr.turns, hr.sizes, hr.held, hr.sold, hr.lu, hr.cust⟩ ha han⟩
 show (last : Int) + 1 = ((last + 1 : Nat) : Int)
 omega
theorem holdNew_s (h : psx an x S (S.os.length + 1) w own) (hK : saleK S) (c u : Int) (hc : c ≠ 0) (hu : 1 ≤ u ∧ u ≤ 4294967296) :
 Calls Tryz.prog 136 #[pt x 0, POrd.val ⟨(S.os.length : Int) + 1, c, u, 0, 0, 0⟩] w fun e w' => e = .returned (POrd.val ⟨(S.os.length : Int) + 1, c, u, 13, S.price, S.now + S.C.lease⟩) ∧ ansP (psx an x (S.more ⟨c, u, 13, S.price, S.now + S.C.lease, 0⟩) (S.os.length + 1)) w w' own := by
 have hw := (keepX an x S (S.os.length + 1)).lt h
 refine hold_w x own (psx an x S (S.os.length + 1)) (psx an x (S.more ⟨c, u, 13, S.price, S.now + S.C.lease, 0⟩) (S.os.length + 1)) (keepX _ _ _ _) (keepX _ _ _ _) _ _ _ _ _ _ S.price (S.now + S.C.lease) w hw h (fun W hW => seen_look (keepX _ _ _ _) hw (fun W o hp => price_s hp) W hW) (fun W hW => seen_call hw (fun W o hp => ?_) W hW)
 exact moveNew_x hp hK ⟨(S.os.length : Int) + 1, c, u, 0, S.price, 0⟩ rfl rfl hc hu 13 (.inr rfl) _ rfl rfl rfl rfl (by unfold Ord.untl spanS; rw [if_pos (.inr rfl), if_pos rfl])
theorem grant_s (h : psx an x S S.os.length w own) (hK : saleK S) (r : Req) (hc : r.cust ≠ 0) (hu : 1 ≤ r.units ∧ r.units ≤ 4294967296) :
 Calls Tryz.prog 127 #[pt x 0, r.val] w fun e w' => e = .returned (Rep.val ⟨2, (S.os.length : Int) + 1, S.price, S.now + S.C.lease⟩) ∧ ansP (psx an x (S.more ⟨r.cust, r.units, 13, S.price, S.now + S.C.lease, 0⟩) (S.os.length + 1)) w w' own := by
 have hw := (keepX an x S S.os.length).lt h
 exact grant_w x own (psx an x S S.os.length) (psx an x S (S.os.length + 1)) (psx an x (S.more ⟨r.cust, r.units, 13, S.price, S.now + S.C.lease, 0⟩) (S.os.length + 1)) (keepX _ _ _ _) (keepX _ _ _ _) (keepX _ _ _ _) r.kind r.token r.cust r.units r.order ((S.os.length : Int) + 1) S.price (S.now + S.C.lease) w hw h (fun loc W hW => seenL_call hw (fun W o hp => newOrder_s hp hK.len r) W hW) (fun loc W hW => seenL_call hw (fun W o hp => holdNew_s hp hK r.cust r.units hc hu) W hW)
theorem enqueue_s (h : psx an x S S.os.length w own) (hK : saleK S) (r : Req) (hc : r.cust ≠ 0) (hu : 1 ≤ r.units ∧ r.units ≤ 4294967296) :
 Calls Tryz.prog 128 #[pt x 0, r.val] w fun e w' => e = .returned (Rep.val ⟨3, (S.os.length : Int) + 1, 0, S.now + S.C.wait⟩) ∧ ansP (psx an x (S.more ⟨r.cust, r.units, 12, 0, S.now + S.C.wait, 0⟩) (S.os.length + 1)) w w' own := by
 have hw := (keepX an x S S.os.length).lt h
 refine enqueue_w x own (psx an x S S.os.length) (psx an x S (S.os.length + 1)) (psx an x (S.more ⟨r.cust, r.units, 12, 0, S.now + S.C.wait, 0⟩) (S.os.length + 1)) (keepX _ _ _ _) (keepX _ _ _ _) (keepX _ _ _ _) r.kind r.token r.cust r.units r.order ((S.os.length : Int) + 1) (S.now + S.C.wait) w hw h (fun loc W hW => seenL_call hw (fun W o hp => newOrder_s hp hK.len r) W hW) (fun loc W hW => seenL_call hw (fun W o hp => ?_) W hW)
 have := moveNew_x hp hK ⟨(S.os.length : Int) + 1, r.cust, r.units, 0, 0, 0⟩ rfl rfl hc hu 12 (.inl rfl) ⟨r.cust, r.units, 12, 0, S.now + S.C.wait, 0⟩ rfl rfl rfl rfl (by unfold Ord.untl spanS; rw [if_pos (.inl rfl), if_neg (show ¬ (12 : Int) = 13 by decide), if_pos rfl])
 rw [show spanS S.C 12 = S.C.wait by unfold spanS; rw [if_neg (show ¬ (12 : Int) = 13 by decide), if_pos rfl]] at this
 exact this
theorem account_s (h : psx an x S last w own) (c : Int) (hc : c ≠ 0) :
 Calls Tryz.prog 41 #[pt x 19, iv c] w fun e w' => e = .returned (.agg #[iv (unitsS S.os 13 c), iv (unitsS S.os 14 c), iv (unitsS S.os 12 c)]) ∧ Below w.heap.size w w' := by
 obtain ⟨V, ⟨g, hm⟩, hr, _⟩ := h
 have := ledAcc_any x 19 g.lu c w (hm.cell 21 _ rfl) hm.lu.1 (by rw [hm.lu.2]; exact hr.lu.1)
 rw [hm.lu.2, ledg_getD hr.lu hc (.inr (.inl rfl)), ledg_getD hr.lu hc (.inr (.inr rfl)), ledg_getD hr.lu hc (.inl rfl)] at this
 exact this
theorem qsize_s (h : psx an x S last w own) :
 Calls Tryz.prog 39 #[pt x 15] w fun e w' => e = .returned (iv (queueS S.os).length) ∧ Below w.heap.size w w' := by
 obtain ⟨V, ⟨g, hm⟩, hr, _⟩ := h
 have := qsize_any x 15 V.qt.length w (hm.cell 16 _ rfl)
 rw [turns_len hr.turns] at this
 exact this
theorem psx_cells (h : psx an x S last w own) : w.cell? (aq x 1) = some (iv S.C.cap) ∧ w.cell? (aq x 2) = some (iv S.C.queue) ∧ w.cell? (aq x 9) = some (iv last) ∧ w.cell? (aq x 8) = some (iv S.now) ∧ w.cell? (aq x 5) = some (iv S.C.keep) ∧ w.cell? (aq x 6) = some (iv S.C.tokens) ∧ w.cell? (aq x 19) = some (iv (unitsS S.os 13 0)) ∧ w.cell? (aq x 20) = some (iv (unitsS S.os 14 0)) := by
 obtain ⟨V, ⟨g, hm⟩, hr, _⟩ := h
 have e1 := hm.cell 1 (iv V.C.cap) rfl
 have e2 := hm.cell 2 (iv V.C.queue) rfl
 have e9 := hm.cell 9 (iv V.last) rfl
 have e8 := hm.cell 8 (iv V.now) rfl
 have e5 := hm.cell 5 (iv V.C.keep) rfl
 have e6 := hm.cell 6 (iv V.C.tokens) rfl
 have e19 := hm.cell 19 (iv V.held) rfl
 have e20 := hm.cell 20 (iv V.sold) rfl
 rw [hr.C] at e1 e2 e5 e6
 rw [hr.last] at e9
 rw [hr.now] at e8
 rw [hr.held] at e19
 rw [hr.sold] at e20
 exact ⟨e1, e2, e9, e8, e5, e6, e19, e20⟩
theorem ask_s (h : psx an x S S.os.length w own) (hK : saleK S) (hq : ((queueS S.os).length : Int) ≤ S.C.queue) (r : Req) (hc : r.cust ≠ 0) (hu : 1 ≤ r.units ∧ r.units ≤ 4294967296) :
 Calls Tryz.prog 96 #[pt x 0, r.val] w fun e w' => e = .returned (S.ask r).1.val ∧ ansP (psx an x (S.ask r).2 (S.ask r).2.os.length) w w' own := by
 have K := keepX an x S S.os.length
 have hw := K.lt h
 obtain ⟨x1, x2, x9, _⟩ := psx_cells h
 have b13 := units_hi hK.I (st := 13) (c := r.cust) (.inr (.inl rfl)) (.inl hc)
 have b14 := units_hi hK.I (st := 14) (c := r.cust) (.inr (.inr rfl)) (.inl hc)
 have b12 := units_hi hK.I (st := 12) (c := r.cust) (.inl rfl) (.inl hc)
 have l13 := units_lo hK.I 13 r.cust
 have l14 := units_lo hK.I 14 r.cust
 have l12 := units_lo hK.I 12 r.cust
 have hqn : ((queueS S.os).length : Int) = 0 ↔ queueS S.os = [] := by
  rw [← List.length_eq_zero_iff]; omega
 have H := ask_walk x own (psx an x S S.os.length) (psx an x (S.more ⟨r.cust, r.units, 13, S.price, S.now + S.C.lease, 0⟩) (S.os.length + 1)) (psx an x (S.more ⟨r.cust, r.units, 12, 0, S.now + S.C.wait, 0⟩) (S.os.length + 1)) K (keepX _ _ _ _) (keepX _ _ _ _)
  (fun v W => v = (S.ask r).1.val ∧ ansP (psx an x (S.ask r).2 (S.ask r).2.os.length) w W own)
  r.kind r.token r.cust r.units r.order (unitsS S.os 13 r.cust) (unitsS S.os 14 r.cust) (unitsS S.os 12 r.cust) (queueS S.os).length S.left S.free S.C.cap S.os.length S.C.queue 2 ((S.os.length : Int) + 1) S.price (S.now + S.C.lease) 3 ((S.os.length : Int) + 1) 0 (S.now + S.C.wait) w
  (wrap_in (by omega) (by omega)) (wrap_in (by omega) (by omega)) (wrap_in (by omega) (by omega)) hw h x1 x2 x9
  (S.C.cap < unitsS S.os 13 r.cust + unitsS S.os 14 r.cust + unitsS S.os 12 r.cust + r.units) (S.left < r.units) (4294967296 ≤ S.os.length) (queueS S.os = [] ∧ r.units ≤ S.free) (((queueS S.os).length : Int) = S.C.queue)
  Iff.rfl Iff.rfl (show _ ↔ _ by omega) (show _ ↔ _ by rw [hqn]) (show _ ↔ _ by omega)
  (fun W hW => account_s (psx_below h hW) r.cust hc) (fun W hW => qsize_s (psx_below h hW)) (fun W hW => left_s (psx_below h hW) hK) (fun W hW => free_s (psx_below h hW) hK)
  (fun c1 W hW => by
    have e : S.ask r = (⟨4, 0, 0, 0⟩, S) := by unfold Sal.ask; rw [if_pos c1]
    rw [e]; exact ⟨rfl, ansP_below K h hW⟩)
  (fun c1 c2 W hW => by
    have e : S.ask r = (⟨5, 0, 0, 0⟩, S) := by unfold Sal.ask; rw [if_neg c1, if_pos c2]
    rw [e]; exact ⟨rfl, ansP_below K h hW⟩)
  (fun c1 c2 c3 W hW => by
    have e : S.ask r = (⟨6, 0, 0, 0⟩, S) := by unfold Sal.ask; rw [if_neg c1, if_neg c2, if_pos c3]
    rw [e]; exact ⟨rfl, ansP_below K h hW⟩)
  (fun c1 c2 c3 c4 => ⟨fun loc W hW => seenL_call hw (fun W o hp => grant_s hp hK r hc hu) W hW, fun W ha => by
    obtain ⟨e1, e2⟩ := more_holds S r.cust r.units
    rw [e2] at e1
    have e : S.ask r = (⟨2, (S.os.length : Int) + 1, S.price, S.now + S.C.lease⟩, S.more ⟨r.cust, r.units, 13, S.price, S.now + S.C.lease, 0⟩) := by
     unfold Sal.ask
     rw [if_neg c1, if_neg c2, if_neg c3, if_pos c4, e1]
     congr 2
     show ((S.os ++ [_]).getD S.os.length ord0).cents = _
     rw [getD_snoc (by omega), if_pos rfl]
    rw [e]
    refine ⟨rfl, ?_⟩
    rw [show (S.more ⟨r.cust, r.units, 13, S.price, S.now + S.C.lease, 0⟩).os.length = S.os.length + 1 by simp [Sal.more]]
    exact ha⟩)
  (fun c1 c2 c3 c4 c5 W hW => by
    have e : S.ask r = (⟨6, 0, 0, 0⟩, S) := by unfold Sal.ask; rw [if_neg c1, if_neg c2, if_neg c3, if_neg c4, if_pos c5]
    rw [e]; exact ⟨rfl, ansP_below K h hW⟩)
  (fun c1 c2 c3 c4 c5 => ⟨fun loc W hW => seenL_call hw (fun W o hp => enqueue_s hp hK r hc hu) W hW, fun W ha => by
    have e : S.ask r = (⟨3, (S.os.length : Int) + 1, 0, S.now + S.C.wait⟩, S.more ⟨r.cust, r.units, 12, 0, S.now + S.C.wait, 0⟩) := by unfold Sal.ask; rw [if_neg c1, if_neg c2, if_neg c3, if_neg c4, if_neg c5]
    rw [e]
    refine ⟨rfl, ?_⟩
    rw [show (S.more ⟨r.cust, r.units, 12, 0, S.now + S.C.wait, 0⟩).os.length = S.os.length + 1 by simp [Sal.more]]
    exact ha⟩)
 refine H.mono ?_
 rintro e w' ⟨v, rfl, rfl, ha⟩
 exact ⟨rfl, ha⟩
theorem confirm_len (S : Sal) (r : Req) : (S.confirm r).2.os.length = S.os.length := by
 unfold Sal.confirm
 split
 ·rfl
 ·split
  ·rfl
  ·show (Sal.promote _).os.length = _
   rw [promote_len, drainS_len, ends_len]
theorem cancel_len (S : Sal) (r : Req) : (S.cancel r).2.os.length = S.os.length := by
 unfold Sal.cancel
 split
 ·rfl
 ·split
  ·rfl
  ·show (Sal.promote _).os.length = _
   rw [promote_len, ends_len]
theorem do_s (h : psx an x S S.os.length w own) (hK : saleK S) (hq : ((queueS S.os).length : Int) ≤ S.C.queue) (r : Req) (h1 : r.kind = 1 → r.cust ≠ 0 ∧ 1 ≤ r.units ∧ r.units ≤ 4294967296) (h2 : r.kind ≠ 1 → 1 ≤ r.order) :
 Calls Tryz.prog 68 #[pt x 0, r.val] w fun e w' => e = .returned (S.doS r).1.val ∧ ansP (psx an x (S.doS r).2 (S.doS r).2.os.length) w w' own := by
 have K := keepX an x S S.os.length
 have hw := K.lt h
 obtain ⟨k, t, c, u, o⟩ := r
 by_cases e1 : k = 1
 ·subst e1
  have e : S.doS ⟨1, t, c, u, o⟩ = S.ask ⟨1, t, c, u, o⟩ := by unfold Sal.doS; rw [if_pos rfl]
  rw [e]
  obtain ⟨q1, q2⟩ := h1 rfl
  exact do_ask x own (psx an x S S.os.length) _ K (keepX _ _ _ _) t c u o _ _ _ _ w hw h (fun loc W hW => seenL_call hw (fun W o hp => ask_s hp hK hq _ q1 q2) W hW)
 ·have h2' := h2 e1
  by_cases e2 : k = 2
  ·subst e2
   have e : S.doS ⟨2, t, c, u, o⟩ = S.confirm ⟨2, t, c, u, o⟩ := by unfold Sal.doS; rw [if_neg (show ¬ (2 : Int) = 1 by decide), if_pos rfl]
   rw [e, confirm_len]
   exact do_confirm x own (psx an x S S.os.length) _ K (keepX _ _ _ _) t c u o _ _ _ _ w hw h (fun loc W hW => seenL_call hw (fun W o hp => confirm_s hp hK _ h2') W hW)
  ·have e : S.doS ⟨k, t, c, u, o⟩ = S.cancel ⟨k, t, c, u, o⟩ := by unfold Sal.doS; rw [if_neg e1, if_neg e2]
   rw [e, cancel_len]
   exact do_cancel x own (psx an x S S.os.length) _ K (keepX _ _ _ _) k t c u o _ _ _ _ w (by simpa using e1) (by simpa using e2) hw h (fun loc W hW => seenL_call hw (fun W o hp => cancel_s hp hK _ h2') W hW)
end
end
end Go.Proofs.YtfhncfghblkgeabGreat
