import Derived.Test.YtfhncfghblkgeabGreatL36
import Derived.Test.YtfhncfghblkgeabGreatL41
import Derived.Test.YtfhncfghblkgeabGreatL43
set_option maxRecDepth 100000
set_option maxHeartbeats 2000000
namespace Go.Proofs.YtfhncfghblkgeabGreat
open Go.RowKit
section
section
variable {w W W' : World} {x : Nat} {own loc : Nat → Prop} {V : PV} {P' : World → (Nat → Prop) → Prop}
theorem seenL_step {o1 : Nat → Prop} (a2 : Same own w W) (a3 : ∀ k, o1 k → own k ∨ (w.heap.size ≤ k ∧ ¬ loc k)) (a4 : ∀ k, loc k → w.heap.size ≤ k ∧ k < W.heap.size) (h : ansP P' W W' o1) : seenL P' w own loc W' := by
 obtain ⟨o2, b1, b2, b3⟩ := h
 have z1 := a2.size
 have z2 := b2.size
 exact ⟨o2, b1, Same.trans a2 b2 (fun k hk e => e.elim id (fun e => (a3 k e).elim id (fun e => by omega))), fun k e => (b3 k e).elim (a3 k) (fun e => .inr ⟨by omega, fun c => by have := (a4 k c).2; omega⟩), fun k e => ⟨(a4 k e).1, by have := (a4 k e).2; omega⟩⟩
theorem tadv_x (h : psm W x own V) (t : Int) (hl : V.tl.length ≤ 4294967296) :
 Calls Tryz.prog 101 #[pt V.tw 0, iv t] W fun e w' => ∃ da dc, e = .returned (.tuple #[.slice da (advO V.tn t V.tl).length dc, iv (advE V.tn t)]) ∧ ansP (withD (pv x { V with tn := advT V.tn t, tl := advL V.tn t V.tl }) da (advO V.tn t V.tl)) W w' own := by
 obtain ⟨g, h⟩ := h
 refine (advance_any t h.tw (by omega)).mono ?_
 rintro e w' ⟨out, two', rfl, a1, a2, a3, a4, a5, a6⟩
 obtain ⟨da, dc, rfl, b1, b2⟩ := dues_of a1
 have hz := a4.size
 have hm := h.turnT0 a3 a4 a5
 refine ⟨da, dc, rfl, fun k => (own k ∨ two' k) ∨ ∃ off, da = some (aq k off), ⟨fun k => own k ∨ two' k, ⟨_, hm⟩, fun k e => .inl e, b1, fun k => ⟨fun e => ⟨.inr e, ?_⟩, fun e => e.1.elim (fun c => absurd c e.2) id⟩, fun k e => ?_⟩, ⟨a4.os, a4.tape, a4.output, a4.size, fun k hk hn => a4.block k hk (fun e => hn (h.fp k (.inl e)))⟩, fun k e => ?_⟩
 ·obtain ⟨off, e⟩ := e
  obtain ⟨c1, c2, c3⟩ := b2 k off e
  rintro (d | d)
  ·have := h.lt k d; omega
  ·exact a6 k c3 d
 ·rcases e with e | ⟨off, e⟩
  ·exact hm.lt k e
  ·exact (b2 k off e).2.1
 ·rcases e with (e | e) | ⟨off, e⟩
  ·exact .inl e
  ·exact (a5 k e).imp (fun e => h.fp k (.inl e)) id
  ·exact .inr (b2 k off e).1
theorem aadv_x (h : psm W x own V) (t : Int) (hl : V.atl.length ≤ 4294967296) :
 Calls Tryz.prog 101 #[pt V.aw 0, iv t] W fun e w' => ∃ da dc, e = .returned (.tuple #[.slice da (advO V.an t V.atl).length dc, iv (advE V.an t)]) ∧ ansP (withD (pv x { V with an := advT V.an t, atl := advL V.an t V.atl }) da (advO V.an t V.atl)) W w' own := by
 obtain ⟨g, h⟩ := h
 refine (advance_any t h.aw (by omega)).mono ?_
 rintro e w' ⟨out, two', rfl, a1, a2, a3, a4, a5, a6⟩
 obtain ⟨da, dc, rfl, b1, b2⟩ := dues_of a1
 have hz := a4.size
 have hm := h.turnA0 a3 a4 a5
 refine ⟨da, dc, rfl, fun k => (own k ∨ two' k) ∨ ∃ off, da = some (aq k off), ⟨fun k => own k ∨ two' k, ⟨_, hm⟩, fun k e => .inl e, b1, fun k => ⟨fun e => ⟨.inr e, ?_⟩, fun e => e.1.elim (fun c => absurd c e.2) id⟩, fun k e => ?_⟩, ⟨a4.os, a4.tape, a4.output, a4.size, fun k hk hn => a4.block k hk (fun e => hn (h.fp k (.inr (.inl e))))⟩, fun k e => ?_⟩
 ·obtain ⟨off, e⟩ := e
  obtain ⟨c1, c2, c3⟩ := b2 k off e
  rintro (d | d)
  ·have := h.lt k d; omega
  ·exact a6 k c3 d
 ·rcases e with e | ⟨off, e⟩
  ·exact hm.lt k e
  ·exact (b2 k off e).2.1
 ·rcases e with (e | e) | ⟨off, e⟩
  ·exact .inl e
  ·exact (a5 k e).imp (fun e => h.fp k (.inr (.inl e))) id
  ·exact .inr (b2 k off e).1
end
theorem getD_inj {D : List (Int × Int)} (h : onceT D) {i j : Nat} (hi : i < D.length) (hj : j < D.length) (e : (D.getD i (0, 0)).2 = (D.getD j (0, 0)).2) : i = j := by
 have hp := (List.pairwise_iff_getElem).1 (show (D.map (·.2)).Pairwise (· ≠ ·) from h)
 have gi : (D.getD i (0, 0)).2 = (D.map (·.2))[i]'(by simpa using hi) := by simp [List.getD, List.getElem?_eq_getElem hi]
 have gj : (D.getD j (0, 0)).2 = (D.map (·.2))[j]'(by simpa using hj) := by simp [List.getD, List.getElem?_eq_getElem hj]
 rw [gi, gj] at e
 rcases Nat.lt_trichotomy i j with c | c | c
 ·exact absurd e (hp i j _ _ c)
 ·exact c
 ·exact absurd e.symm (hp j i _ _ c)
theorem once_adv {now t : Int} {L : List (Int × Int)} (h : onceT L) : onceT (advO now t L) := by
 unfold advO
 split
 ·unfold onceT; simp
 ·exact onceT_perm (adv_spec t _ L rfl).2.1.symm (onceT_filter _ h)
section
variable {w W : World} {x : Nat} {own : Nat → Prop} {V : PV} {S : Sal} {last : Nat} {an t : Int}
def knowsTo (S : Sal) (D : List (Int × Int)) (j k : Nat) : Prop := S.knows k ∧ ((S.os.getD k ord0).alive ∨ ∀ i, i < j → (D.getD i (0, 0)).2 ≠ (k : Int) + 1)
def psk (an t : Int) (x : Nat) (S : Sal) (last : Nat) (K : Nat → Prop) (w : World) (own : Nat → Prop) : Prop := ∃ V, psm w x own V ∧ relO V ({ S with now := t } : Sal) last K ∧ relA V.an V.atl V.att V.al S.C.keep S.ansL ∧ V.an = an ∧ V.tn = t
theorem keepK (an t : Int) (x : Nat) (S : Sal) (last : Nat) (K : Nat → Prop) : Keeps (psk an t x S last K) := ⟨fun ⟨_, h, _⟩ => psm_lt h, fun ⟨V, h, hr⟩ hz hk => ⟨V, psm_keep h hz hk, hr⟩⟩
theorem psm_x (h : psm W x own V) : x < W.heap.size := by
 obtain ⟨g, h⟩ := h
 exact h.xw
theorem psx_x (h : psx an x S last W own) : x < W.heap.size := by
 obtain ⟨V, h, _⟩ := h
 exact psm_x h
theorem sforget_s (da : Option Addr) (dc : Nat) (D : List (Int × Int)) (hlen : S.os.length ≤ 4294967296) (hR : restS S) (ht : S.now < t) (tn : Int) (htn : tn ≤ S.now) (hO : onceT D) (hn : D.length ≤ 4294967296)
 (hD : ∀ p, p ∈ D ↔ ∃ i, S.knows i ∧ tn < (S.os.getD i ord0).untl S.C ∧ (S.os.getD i ord0).untl S.C ≤ t ∧ p = ((S.os.getD i ord0).untl S.C, (i : Int) + 1))
 (h : psk an t x S last S.knows W own) (hd : dueL W da D) (hdis : ∀ b off, da = some (aq b off) → ¬ own b) :
 Calls Tryz.prog 102 #[pt x 0, .slice da D.length dc] W fun e w' => e = .returned (.tuple #[]) ∧ ansP (psx an x ({ S with now := t } : Sal) last) W w' own := by
 have hat : ∀ j, j < D.length → ∃ i, S.knows i ∧ tn < (S.os.getD i ord0).untl S.C ∧ (S.os.getD i ord0).untl S.C ≤ t ∧ D.getD j (0, 0) = ((S.os.getD i ord0).untl S.C, (i : Int) + 1) := fun j hj => (hD _).1 (getD_mem hj)
 have hij : ∀ j, j < D.length → S.knows ((D.getD j (0, 0)).2 - 1).toNat ∧ (S.os.getD ((D.getD j (0, 0)).2 - 1).toNat ord0).untl S.C ≤ t ∧ (D.getD j (0, 0)).2 = (((D.getD j (0, 0)).2 - 1).toNat : Int) + 1 := fun j hj => by
  obtain ⟨i, h1, h2, h3, h4⟩ := hat j hj
  have e : ((D.getD j (0, 0)).2 - 1).toNat = i := by rw [h4]; simp
  rw [e]
  exact ⟨h1, h3, by rw [h4]⟩
 have hK : ∀ j, j < D.length → knowsTo S D j ((D.getD j (0, 0)).2 - 1).toNat := fun j hj => by
  obtain ⟨a, b, c⟩ := hij j hj
  exact ⟨a, .inr (fun i hi e => by
   have := getD_inj hO (i := i) (j := j) (by omega) hj (e.trans c.symm)
   omega)⟩
 have h0 : psk an t x S last (knowsTo S D 0) W own := by
  have e : knowsTo S D 0 = S.knows := by
   funext k
   exact propext ⟨fun c => c.1, fun c => ⟨c, .inr (fun i hi => by omega)⟩⟩
  rw [e]; exact h
 refine (sforget_walk x dc da D W own (fun j => psk an t x S last (knowsTo S D j)) (fun j => keepK _ _ _ _ _ _) (fun j => pordOf S.C ((D.getD j (0, 0)).2 - 1).toNat (S.os.getD ((D.getD j (0, 0)).2 - 1).toNat ord0)) (fun _ => true) (fun j => ((S.os.getD ((D.getD j (0, 0)).2 - 1).toNat ord0).state != 13 && (S.os.getD ((D.getD j (0, 0)).2 - 1).toNat ord0).state != 12)) h0 hn ?_ (fun W' hs => dues_same hd hs hdis) ?_ ?_ ?_ ?_).mono ?_
 ·rintro j loc W' ⟨o1, ⟨V, hm, _⟩, _⟩
  exact psm_x hm
 ·rintro j loc W' hj ⟨o1, ⟨V, hm, hr, _⟩, _⟩
  obtain ⟨q, h1, h2⟩ := hr.known (hK j hj)
  have := oget_yes_x hm hr.ls.srt h2 h1
  rw [← (hij j hj).2.2] at this
  exact this
 ·intro j W' hj
  exact hasEnded_w _ _ _ _ _ _ W'
 ·intro j hj _ he loc W' hT
  refine seenL_call (keepK _ _ _ _ _ _ |>.lt h) (fun W1 o1 hq => ?_) W' hT
  obtain ⟨V, hm, hr, ha, han, htn'⟩ := hq
  obtain ⟨q, h1, h2⟩ := hr.known (hK j hj)
  have hql := (List.getElem?_eq_some_iff.1 h1).1
  obtain ⟨z, hz⟩ : ∃ z, V.ol[V.ol.length - 1]? = some z := ⟨V.ol[V.ol.length - 1], List.getElem?_eq_getElem (by omega)⟩
  have hol : V.ol.length ≤ S.os.length := hr.olen
  obtain ⟨a, b, c⟩ := hij j hj
  have hna : ¬ (S.os.getD ((D.getD j (0, 0)).2 - 1).toNat ord0).alive := by
   simp only [Bool.and_eq_true, bne_iff_ne, ne_eq] at he
   rintro (c | c)
   ·exact he.2 c
   ·exact he.1 c
  refine (oremove_x hm hr.ls (by omega) (listed_len hr.ls) h1 hz).mono ?_
  rintro e w' ⟨rfl, rm, o2, p1, p2, p3⟩
  refine ⟨rfl, o2, ⟨_, p1, ?_, ha, han, htn'⟩, p2, p3⟩
  have hfin := hr.drop hna (by rw [htn']; exact b) h1 hz rm
  have e : knowsTo S D (j + 1) = fun k => knowsTo S D j k ∧ k ≠ ((D.getD j (0, 0)).2 - 1).toNat := by
   funext k
   refine propext ⟨fun ⟨d1, d2⟩ => ⟨⟨d1, d2.imp id (fun d2 i hi => d2 i (by omega))⟩, fun e => ?_⟩, fun ⟨⟨d1, d2⟩, d3⟩ => ⟨d1, d2.imp id (fun d2 i hi => ?_)⟩⟩
   ·rcases d2 with d2 | d2
    ·rw [e] at d2; exact hna d2
    ·exact d2 j (by omega) (by rw [e]; exact c)
   ·by_cases ei : i = j
    ·rw [ei, c]; intro e; apply d3; omega
    ·exact d2 i (by omega)
  rw [e]
  exact hfin
 ·intro j hj hne W' o' hq
  have e : knowsTo S D (j + 1) = knowsTo S D j := by
   obtain ⟨a, b, c⟩ := hij j hj
   have hal : (S.os.getD ((D.getD j (0, 0)).2 - 1).toNat ord0).alive := by
    refine Classical.byContradiction fun hc => hne ⟨rfl, ?_⟩
    simp only [Bool.and_eq_true, bne_iff_ne, ne_eq]
    exact ⟨fun e => hc (.inr e), fun e => hc (.inl e)⟩
   funext k
   refine propext ⟨fun ⟨d1, d2⟩ => ⟨d1, d2.imp id (fun d2 i hi => d2 i (by omega))⟩, fun ⟨d1, d2⟩ => ⟨d1, ?_⟩⟩
   by_cases ek : k = ((D.getD j (0, 0)).2 - 1).toNat
   ·rw [ek]; exact .inl hal
   ·refine d2.imp id (fun d2 i hi => ?_)
    by_cases ei : i = j
    ·rw [ei, c]; omega
    ·exact d2 i (by omega)
  rw [e]
  exact hq
 ·rintro e w' ⟨rfl, hq⟩
  refine ⟨rfl, ansP_mono hq (fun W' o' hp => ?_)⟩
  obtain ⟨V, hm, hr, ha, han, _⟩ := hp
  refine ⟨V, hm, ?_, ha, han⟩
  have e : ({ S with now := t } : Sal).knows = knowsTo S D D.length := by
   funext k
   refine propext ((knows_at (by omega) k).trans ⟨fun ⟨d1, d2⟩ => ⟨d1, ?_⟩, fun ⟨d1, d2⟩ => ⟨d1, ?_⟩⟩)
   ·refine d2.imp id (fun d2 i hi e => ?_)
    obtain ⟨i', h1, h2, h3, h4⟩ := hat i hi
    rw [h4] at e
    have : i' = k := by simp at e; omega
    subst this
    omega
   ·refine Classical.or_iff_not_imp_left.2 (fun hna => ?_)
    have d2 := d2.resolve_left hna
    refine Int.lt_of_not_ge (fun hle => ?_)
    have hm' := (hD ((S.os.getD k ord0).untl S.C, (k : Int) + 1)).2 ⟨k, d1, by have := knows_fut hR d1; omega, hle, rfl⟩
    obtain ⟨i, hi, e⟩ := List.getElem_of_mem hm'
    exact d2 i hi (by simp [List.getD, List.getElem?_eq_getElem hi, e])
  rw [e]
  exact hr
theorem endL_saleK {S : Sal} (hK : saleK S) {st en : Int} (hen : en ≠ 12 ∧ en ≠ 13 ∧ en ≠ 14) : ∀ (ds : List Nat) , (∀ d ∈ ds, d < S.os.length) → saleK (endL S st en ds) := by
 intro ds
 induction ds generalizing S with
 | nil => intro _; exact hK
 | cons d ds ih =>
   intro h
   have e : endL S st en (d :: ds) = endL (if (S.os.getD d ord0).state = st then S.ends d en else S) st en ds := rfl
   rw [e]
   split
   ·exact ih (hK.ends (h d List.mem_cons_self) en (.inr hen) (fun c => absurd c hen.2.2)) (fun x hx => by rw [ends_len]; exact h x (List.mem_cons_of_mem _ hx))
   ·exact ih hK (fun x hx => h x (List.mem_cons_of_mem _ hx))
def idsOf (D : List (Int × Int)) : List Nat := D.map (fun p => (p.2 - 1).toNat)
open Classical in
theorem send_s (da : Option Addr) (dc : Nat) (D : List (Int × Int)) (hK : saleK S) (hn : D.length ≤ 4294967296) (fr into : Int) (hfr : fr = 12 ∨ fr = 13) (hin : into ≠ 12 ∧ into ≠ 13 ∧ into ≠ 14)
 (hD : ∀ p ∈ D, 1 ≤ p.2 ∧ (p.2 - 1).toNat < S.os.length)
 (h : psx an x S last W own) (hd : dueL W da D) (hdis : ∀ b off, da = some (aq b off) → ¬ own b) :
 Calls Tryz.prog 103 #[pt x 0, .slice da D.length dc, iv fr, iv into] W fun e w' => e = .returned (.tuple #[]) ∧ ansP (psx an x (endL S fr into (idsOf D)) last) W w' own := by
 have hat : ∀ j, j < D.length → 1 ≤ (D.getD j (0, 0)).2 ∧ ((D.getD j (0, 0)).2 - 1).toNat < S.os.length := fun j hj => hD _ (getD_mem hj)
 have htk : ∀ j, j < D.length → (idsOf D).take (j + 1) = (idsOf D).take j ++ [((D.getD j (0, 0)).2 - 1).toNat] := fun j hj => by
  unfold idsOf
  rw [← List.map_take, ← List.map_take, take_get D hj, List.map_append]
  rfl
 have hin' : ∀ d ∈ idsOf D, d < S.os.length := fun d hd => by
  obtain ⟨p, hp, rfl⟩ := List.mem_map.1 hd
  exact (hD p hp).2
 have hKj : ∀ j, saleK (endL S fr into ((idsOf D).take j)) := fun j => endL_saleK hK hin _ (fun d hd => hin' d (List.mem_of_mem_take hd))
 have hlj : ∀ j, (endL S fr into ((idsOf D).take j)).os.length = S.os.length := fun j => (endL_keep fr into _ S).2.2.2
 have hlen : (idsOf D).length = D.length := by unfold idsOf; simp
 refine (send_walk x dc da D fr into W own (fun j => psx an x (endL S fr into ((idsOf D).take j)) last) (fun j => keepX _ _ _ _)
  (fun j => if (endL S fr into ((idsOf D).take j)).knows ((D.getD j (0, 0)).2 - 1).toNat then pordOf (endL S fr into ((idsOf D).take j)).C ((D.getD j (0, 0)).2 - 1).toNat ((endL S fr into ((idsOf D).take j)).os.getD ((D.getD j (0, 0)).2 - 1).toNat ord0) else pord0)
  (fun j => decide ((endL S fr into ((idsOf D).take j)).knows ((D.getD j (0, 0)).2 - 1).toNat))
  (fun j => POrd.val ⟨(((D.getD j (0, 0)).2 - 1).toNat : Int) + 1, ((endL S fr into ((idsOf D).take j)).os.getD ((D.getD j (0, 0)).2 - 1).toNat ord0).cust, ((endL S fr into ((idsOf D).take j)).os.getD ((D.getD j (0, 0)).2 - 1).toNat ord0).units, into, ((endL S fr into ((idsOf D).take j)).os.getD ((D.getD j (0, 0)).2 - 1).toNat ord0).cents, (endL S fr into ((idsOf D).take j)).now + (endL S fr into ((idsOf D).take j)).C.keep⟩)
  h hn ?_ (fun W' hs => dues_same hd hs hdis) ?_ ?_ ?_).mono ?_
 ·rintro j loc W' ⟨o1, hp, _⟩
  exact psx_x hp
 ·rintro j loc W' hj ⟨o1, hp, _⟩
  obtain ⟨a, b⟩ := hat j hj
  by_cases hk : (endL S fr into ((idsOf D).take j)).knows ((D.getD j (0, 0)).2 - 1).toNat
  ·have := get_s hp hk
   rw [show (((D.getD j (0, 0)).2 - 1).toNat : Int) + 1 = (D.getD j (0, 0)).2 by omega] at this
   simp only [if_pos hk, decide_eq_true hk]
   exact this
  ·simp only [if_neg hk, decide_eq_false hk]
   exact get_none_s hp (fun i hi e => hk (by
    have : ((D.getD j (0, 0)).2 - 1).toNat = i := by omega
    rw [this]; exact hi))
 ·intro j hj hk hs loc W' hT
  have hk' := of_decide_eq_true hk
  simp only [if_pos hk'] at hs ⊢
  have hs' : ((endL S fr into ((idsOf D).take j)).os.getD ((D.getD j (0, 0)).2 - 1).toNat ord0).state = fr := by simpa [pordOf] using hs
  refine seenL_call ((keepX an x S last).lt h) (fun W1 o1 hq => ?_) W' hT
  have := ends_s hq (hKj j) hk' into ⟨hin.1, hin.2.1⟩
  simp only [htk j hj, endL_snoc]
  rw [if_pos hs']
  exact this
 ·intro j hj hne W' o' hq
  simp only [htk j hj, endL_snoc]
  rw [if_neg]
  ·exact hq
  ·intro hs
   have hk : (endL S fr into ((idsOf D).take j)).knows ((D.getD j (0, 0)).2 - 1).toNat := ⟨by rw [hlj]; exact (hat j hj).2, .inl (by unfold Ord.alive; rw [hs]; exact hfr)⟩
   refine hne ⟨decide_eq_true hk, ?_⟩
   simp only [if_pos hk]
   simpa [pordOf] using hs
 ·rintro e w' ⟨rfl, hq⟩
  refine ⟨rfl, ?_⟩
  rw [show (idsOf D).take D.length = idsOf D from List.take_of_length_le (by omega)] at hq
  exact hq
def pcx (an : Int) (x : Nat) (last : Nat) (S : Sal) (t : Int) (w : World) (own : Nat → Prop) : Prop := ∃ V, psm w x own V ∧ relO V ({ S with now := t } : Sal) last S.knows ∧ relA V.an V.atl V.att V.al S.C.keep S.ansL ∧ V.an = an ∧ V.tn ≤ S.now
theorem keepC (an : Int) (x : Nat) (last : Nat) (S : Sal) (t : Int) : Keeps (pcx an x last S t) := ⟨fun ⟨_, h, _⟩ => psm_lt h, fun ⟨V, h, hr⟩ hz hk => ⟨V, psm_keep h hz hk, hr⟩⟩
theorem stop_s (hJ : salJ S) (hR : restP S) (hS : stopAt S t) (ht : t ≤ 4611686018427387904) (h : pcx an x last S t W own) :
 Calls Tryz.prog 72 #[pt x 0] W fun e w' => e = .returned (.tuple #[]) ∧ ansP (psx an x (S.round t) last) W w' own := by
 obtain ⟨V, hm, hr, ha, han, htn⟩ := h
 have hlt := hS.later hR.R
 have hw := psm_lt hm
 have h0 := hJ.I.now
 have hT : advT V.tn t = t := by unfold advT; rw [if_neg (by omega)]
 have hdue := hr.due (t := t) (by omega)
 have htl : V.tl.length ≤ 4294967296 := by
  have h1 : V.tl.length ≤ S.os.length := hr.tlen
  have := hJ.len
  omega
 have hr1 := hr.advance (t := t) (by omega) (Int.le_refl _)
 have hO := once_adv (now := V.tn) (t := t) hr.once
 have hDl : (advO V.tn t V.tl).length ≤ 4294967296 := by
  refine Nat.le_trans ?_ htl
  unfold advO
  rw [if_neg (by omega)]
  rw [(adv_spec t _ V.tl rfl).2.1.length_eq]
  exact List.length_filter_le _ _
 have hcell : ∀ {W' o'}, psm W' x o' V → x < W'.heap.size ∧ W'.cell? (aq x 10) = some (pt V.tw 0) ∧ W'.cell? (aq x 8) = some (iv t) := fun {W' o'} hp => by
  obtain ⟨g, hp⟩ := hp
  refine ⟨hp.xw, hp.cell 10 _ rfl, ?_⟩
  have : W'.cell? (aq x 8) = some (iv V.now) := hp.cell 8 _ rfl
  rw [hr.now] at this
  exact this
 have hids : ∀ p ∈ advO V.tn t V.tl, 1 ≤ p.2 ∧ (p.2 - 1).toNat < S.os.length := fun p hp => by
  obtain ⟨i, h1, _, _, rfl⟩ := (hdue p).1 hp
  exact ⟨by simp; omega, by simpa using h1.1⟩
 have hmem : ∀ k, k ∈ idsOf (advO V.tn t V.tl) ↔ S.knows k ∧ (S.os.getD k ord0).untl S.C ≤ t := fun k => by
  unfold idsOf
  rw [List.mem_map]
  constructor
  ·rintro ⟨p, hp, rfl⟩
   obtain ⟨i, h1, _, h3, rfl⟩ := (hdue p).1 hp
   have e : ((i : Int) + 1 - 1).toNat = i := by omega
   simp only [e]
   exact ⟨h1, h3⟩
  ·rintro ⟨h1, h2⟩
   refine ⟨_, (hdue _).2 ⟨k, h1, ?_, h2, rfl⟩, by simp⟩
   have := knows_fut hR.R h1
   show V.tn < _
   exact Int.lt_of_le_of_lt htn this
 have hK0 : saleK ({ S with now := t } : Sal) := ⟨salI_now hJ.I ⟨by omega, ht⟩, hJ.len, hR.R.lease, hR.R.wait, hR.R.keep⟩
 have hdue12 : ∀ k, k < S.os.length → (S.os.getD k ord0).alive → (k ∈ idsOf (advO V.tn t V.tl) ↔ (S.os.getD k ord0).upto = t) := fun k hk hal => by
  have hm' := hS.alive _ (ord_mem hk) hal
  rw [hmem, untl_alive hal]
  constructor
  ·rintro ⟨_, h2⟩; omega
  ·intro e; exact ⟨⟨hk, .inl hal⟩, by omega⟩
 have e1 : endL ({ S with now := t } : Sal) 13 15 (idsOf (advO V.tn t V.tl)) = pastN ({ S with now := t } : Sal) 13 15 ({ S with now := t } : Sal).os.length :=
  endL_past (by decide) (fun d hd => ((hmem d).1 hd).1.1) (fun k hk hs => hdue12 k hk (.inr hs))
 have hK1 : saleK (pastN ({ S with now := t } : Sal) 13 15 ({ S with now := t } : Sal).os.length) := by
  rw [← e1]
  exact endL_saleK hK0 (by decide) _ (fun d hd => ((hmem d).1 hd).1.1)
 have hK2 : saleK (({ S with now := t } : Sal).past 13 15) := hK1.promote
 have hl2 : (({ S with now := t } : Sal).past 13 15).os.length = S.os.length := past_len _ 13 15
 have hn2 : (({ S with now := t } : Sal).past 13 15).now = t := (past_keep _ 13 15).2.1
 have e2 : endL (({ S with now := t } : Sal).past 13 15) 12 17 (idsOf (advO V.tn t V.tl)) = pastN (({ S with now := t } : Sal).past 13 15) 12 17 (({ S with now := t } : Sal).past 13 15).os.length :=
  endL_past (by decide) (fun d hd => by rw [hl2]; exact ((hmem d).1 hd).1.1) (fun k hk hs => by
   rw [hl2] at hk
   have e := past_get12 _ hs
   rw [e] at hs ⊢
   rw [hn2]
   exact hdue12 k hk (.inl hs))
 have hK3 : saleK (pastN (({ S with now := t } : Sal).past 13 15) 12 17 (({ S with now := t } : Sal).past 13 15).os.length) := by
  rw [← e2]
  exact endL_saleK hK2 (by decide) _ (fun d hd => by rw [hl2]; exact ((hmem d).1 hd).1.1)
 refine stop_walk x V.tw t (advE V.tn t) (advO V.tn t V.tl) W own (pv x V) (pv x { V with tn := advT V.tn t, tl := advL V.tn t V.tl }) (psx an x ({ S with now := t } : Sal) last) (psx an x (pastN ({ S with now := t } : Sal) 13 15 ({ S with now := t } : Sal).os.length) last) (psx an x (({ S with now := t } : Sal).past 13 15) last) (psx an x (pastN (({ S with now := t } : Sal).past 13 15) 12 17 (({ S with now := t } : Sal).past 13 15).os.length) last) (psx an x (S.round t) last) (keepV _ _) (keepV _ _) (keepX _ _ _ _) (keepX _ _ _ _) (keepX _ _ _ _) (keepX _ _ _ _) (keepX _ _ _ _) hm ?_ ?_ ?_ ?_ ?_ ?_ ?_ ?_
 ·rintro loc W' ⟨o1, hp, _⟩
  exact hcell hp
 ·rintro da loc W' ⟨o1, ⟨o0, hp, _⟩, _⟩
  obtain ⟨g, hp⟩ := (show psm W' x o0 _ from hp)
  refine ⟨hp.xw, hp.cell 10 _ rfl, ?_⟩
  have : W'.cell? (aq x 8) = some (iv V.now) := hp.cell 8 _ rfl
  rw [hr.now] at this
  exact this
 ·rintro loc W' ⟨o1, hp, a2, a3, a4⟩
  refine (tadv_x hp t htl).mono ?_
  rintro e w' ⟨da, dc, rfl, hq⟩
  exact ⟨da, dc, rfl, seenL_step a2 a3 a4 hq⟩
 ·intro da dc loc W' hT'
  refine seenL_call hw (withD_call (keepX _ _ _ _) (fun W1 o1 hp hd hdis => ?_)) W' hT'
  refine sforget_s da dc _ hJ.len hR.R hlt V.tn htn hO hDl hdue ⟨_, hp, ?_, ha, han, hT⟩ hd hdis
  rw [hT]
  exact hr1
 ·intro da dc loc W' hT'
  refine seenL_call hw (withD_call (keepX _ _ _ _) (fun W1 o1 hp hd hdis => ?_)) W' hT'
  rw [← e1]
  exact send_s da dc _ hK0 hDl 13 15 (.inr rfl) (by decide) hids hp hd hdis
 ·intro da loc W' hT'
  exact seenL_call hw (withD_call (keepX _ _ _ _) (fun W1 o1 hp hd hdis => promote_s hp hK1)) W' hT'
 ·intro da dc loc W' hT'
  refine seenL_call hw (withD_call (keepX _ _ _ _) (fun W1 o1 hp hd hdis => ?_)) W' hT'
  rw [← e2]
  exact send_s da dc _ hK2 hDl 12 17 (.inl rfl) (by decide) (fun p hp => by rw [hl2]; exact hids p hp) hp hd hdis
 ·intro da loc W' hT'
  exact seenL_call hw (withD_call (keepX _ _ _ _) (fun W1 o1 hp hd hdis => promote_s hp hK3)) W' hT'
end
end
section
theorem withD_mono {P P' : World → (Nat → Prop) → Prop} {da : Option Addr} {D : List (Int × Int)} (hp : ∀ W o, P W o → P' W o) (W : World) (o : Nat → Prop) (h : withD P da D W o) : withD P' da D W o := by
 obtain ⟨o0, a1, a⟩ := h
 exact ⟨o0, hp _ _ a1, a⟩
theorem PMem.clock {W : World} {x : Nat} {own : Nat → Prop} {V : PV} {g : PG} (h : PMem W x own V g) (t : Int) : psmAns W (W.setCell (aq x 8) (iv t)) x own { V with now := t } := by
 have hs0 : Same (fun k => k = x) W (W.setCell (aq x 8) (iv t)) := same_one (Same.of_below (Below.refl _ _)) x _ _ rfl
 have hs' : Same (g.xs V x) W (W.setCell (aq x 8) (iv t)) := same_mono hs0 (fun k e => .inl e)
 refine h.turn hs' (V' := { V with now := t }) (g' := g) ?_ rfl ⟨rfl, rfl, rfl⟩ ⟨rfl, rfl, rfl, rfl⟩ ⟨rfl, rfl, rfl, rfl⟩ ⟨h.stay hs' h.ot.1, h.ot.2, fun _ e => .inl e⟩ ⟨h.stay hs' h.qt.1, h.qt.2, fun _ e => .inl e⟩ ⟨h.stay hs' h.qz.1, h.qz.2, fun _ e => .inl e⟩ ⟨h.stay hs' h.lu.1, h.lu.2, fun _ e => .inl e⟩ ⟨h.stay hs' h.att.1, h.att.2, fun _ e => .inl e⟩ ⟨owns_keep h.orow (fun k e => Below.heap_setCell _ (aq x 8) _ _ (fun c => own_type h.orow h.blk (by decide) (by rw [e, show k = x from c]))), fun k e => .inl e⟩ ⟨owns_keep h.arow (fun k e => Below.heap_setCell _ (aq x 8) _ _ (fun c => own_type h.arow h.blk (by decide) (by rw [e, show k = x from c]))), fun k e => .inl e⟩
 rw [Joins.block_setCell h.blk]
 unfold pcells
 rfl
section
variable {w W : World} {x : Nat} {own : Nat → Prop} {V : PV} {S : Sal} {last : Nat} {an t : Int}
def paf (x : Nat) (S : Sal) (last : Nat) (V : PV) (to : Int) (D : List (Int × Int)) (j : Nat) (w : World) (own : Nat → Prop) : Prop :=
 ∃ V', psm w x own V' ∧ relO V' ({ S with now := to } : Sal) last S.knows ∧ Listed PAns.t V'.att V'.al ∧ (∀ a, a ∈ V'.al ↔ a ∈ V.al ∧ ∀ i, i < j → a.t ≠ (D.getD i (0, 0)).2) ∧ V'.an = to ∧ V'.atl = advL V.an to V.atl
theorem keepAF (x : Nat) (S : Sal) (last : Nat) (V : PV) (to : Int) (D : List (Int × Int)) (j : Nat) : Keeps (paf x S last V to D j) := ⟨fun ⟨_, h, _⟩ => psm_lt h, fun ⟨V, h, hr⟩ hz hk => ⟨V, psm_keep h hz hk, hr⟩⟩
theorem aforget_s {S00 : Sal} {to : Int} (h00 : restP S00) (hC : S.C = S00.C) (hL : S.ansL = S00.ansL) (hn : S00.now ≤ to) (hnow : S.now ≤ to) (hk : ∀ i, S.knows i → to < (S.os.getD i ord0).untl S.C) (h : pcx S00.now x last S to W own) :
 Calls Tryz.prog 73 #[pt x 23, iv to] W fun e w' => e = .returned (.tuple #[]) ∧ ansP (psx to x ({ S with now := to } : Sal) last) W w' own := by
 obtain ⟨V, hm, hr, ha, han, htn⟩ := h
 have hw := psm_lt hm
 have hle : V.an ≤ to := by rw [han]; exact hn
 have ha0 : relA S00.now V.atl V.att V.al S00.C.keep S00.ansL := by rw [← han, ← hC, ← hL]; exact ha
 have hcnt := answers_count ha0
 have hal : V.al.length ≤ 4294967296 := by have := h00.alen; have := h00.R.tokens.2; omega
 have hz2 : V.atl.length ≤ V.al.length := by
  have := nodup_sub_len (V.atl.map (fun p : Int × Int => p.2)) (V.al.map PAns.t) (show (V.atl.map (fun p : Int × Int => p.2)).Nodup from ha.once) (fun y hy => by
   obtain ⟨p, hp, rfl⟩ := List.mem_map.1 hy
   obtain ⟨j, j1, j2, rfl⟩ := (ha.tl p).1 hp
   obtain ⟨b, hb', e, _⟩ := ha.reqs j j1 j2
   exact List.mem_map.2 ⟨b, hb', e⟩)
  simpa using this
 have hO := once_adv (now := V.an) (t := to) ha.once
 have hperm : (advO V.an to V.atl).Perm (V.atl.filter (fun p => decide (p.1 ≤ to))) := by
  unfold advO
  rw [if_neg (by omega)]
  exact (adv_spec to _ V.atl rfl).2.1
 have hDl : (advO V.an to V.atl).length ≤ 4294967296 := by
  rw [hperm.length_eq]
  have := List.length_filter_le (fun p : Int × Int => decide (p.1 ≤ to)) V.atl
  omega
 have hD : ∀ p ∈ advO V.an to V.atl, ∃ a ∈ V.al, a.t = p.2 := fun p hp => by
  obtain ⟨j, j1, j2, rfl⟩ := (ha.tl p).1 (List.mem_filter.1 (hperm.mem_iff.1 hp)).1
  obtain ⟨b, hb', e, _⟩ := ha.reqs j j1 j2
  exact ⟨b, hb', e⟩
 have hT : advT V.an to = to := by unfold advT; rw [if_neg (by omega)]
 refine (aforget_walk x V.aw to (advE V.an to) (advO V.an to V.atl) W own (pv x V) (paf x S last V to (advO V.an to V.atl)) (keepV _ _) (fun j => keepAF _ _ _ _ _ _ _) hm hDl ?_ ?_ ?_).mono ?_
 ·rintro loc W' ⟨o1, ⟨g, hp⟩, _⟩
  exact ⟨hp.xw, hp.cell 23 _ rfl⟩
 ·rintro loc W' ⟨o1, hp, a2, a3, a4⟩
  refine (aadv_x hp to (by omega)).mono ?_
  rintro e w' ⟨da, dc, rfl, hq⟩
  refine ⟨da, dc, rfl, seenL_step a2 a3 a4 (ansP_mono hq (withD_mono (fun W1 o1 hp => ?_)))⟩
  exact ⟨_, hp, ⟨hr.C, hr.now, hr.last, hr.tn, hr.once, hr.tl, hr.kin, hr.live, hr.ls, hr.ol, hr.turns, hr.sizes, hr.held, hr.sold, hr.lu, hr.cust⟩, ha.ls, fun a => ⟨fun c => ⟨c, fun i hi => by omega⟩, fun c => c.1⟩, hT, rfl⟩
 ·intro da j hj loc W' hT'
  refine seenL_call hw (withD_call (keepAF _ _ _ _ _ _ _) (fun W1 o1 hp hd hdis => ?_)) W' hT'
  obtain ⟨V', q1, q2, q3, q4, q5, q6⟩ := hp
  obtain ⟨a, b1, b2⟩ := hD _ (getD_mem hj)
  have hin : a ∈ V'.al := (q4 a).2 ⟨b1, fun i hi e => by
   have := getD_inj hO (i := i) (j := j) (by omega) hj (e.symm.trans b2)
   omega⟩
  obtain ⟨q, hq⟩ := List.mem_iff_getElem?.1 hin
  have hql := (List.getElem?_eq_some_iff.1 hq).1
  obtain ⟨z, hz⟩ : ∃ z, V'.al[V'.al.length - 1]? = some z := ⟨V'.al[V'.al.length - 1], List.getElem?_eq_getElem (by omega)⟩
  have hl' : V'.al.length ≤ V.al.length := by
   have := nodup_sub_len (V'.al.map PAns.t) (V.al.map PAns.t) q3.once (fun y hy => by
    obtain ⟨p, hp, rfl⟩ := List.mem_map.1 hy
    exact List.mem_map.2 ⟨p, ((q4 p).1 hp).1, rfl⟩)
   simpa using this
  rw [← b2]
  refine (aremove_x q1 q3 (by omega) (listed_len q3) hq hz).mono ?_
  rintro e w' ⟨rfl, rm, o2, p1, p2, p3⟩
  refine ⟨rfl, o2, ⟨_, p1, ⟨q2.C, q2.now, q2.last, q2.tn, q2.once, q2.tl, q2.kin, q2.live, q2.ls, q2.ol, q2.turns, q2.sizes, q2.held, q2.sold, q2.lu, q2.cust⟩, listed_drop q3 hq hz, fun c => ?_, q5, q6⟩, p2, p3⟩
  show c ∈ dropAt V'.al q z ↔ _
  rw [mem_dropAt q3.once hq hz, q4]
  constructor
  ·rintro ⟨⟨d1, d2⟩, d3⟩
   refine ⟨d1, fun i hi => ?_⟩
   by_cases ei : i = j
   ·rw [ei, ← b2]; exact d3
   ·exact d2 i (by omega)
  ·rintro ⟨d1, d2⟩
   exact ⟨⟨d1, fun i hi => d2 i (by omega)⟩, by rw [b2]; exact d2 j (by omega)⟩
 ·rintro e w' ⟨rfl, hq⟩
  refine ⟨rfl, ansP_mono hq (fun W' o' hp => ?_)⟩
  obtain ⟨V', q1, q2, q3, q4, q5, q6⟩ := hp
  refine ⟨V', q1, ?_, ?_, q5⟩
  ·rw [last_knows hnow hk]; exact q2
  ·have := ha.forget hle q3 (fun a => (q4 a).trans ⟨fun c => ⟨c.1, fun d hd => ?_⟩, fun c => ⟨c.1, fun i hi => c.2 _ (getD_mem hi)⟩⟩)
   ·rw [q5, q6]; exact this
   ·obtain ⟨i, hi, e⟩ := List.getElem_of_mem hd
    have := c.2 i hi
    simpa [List.getD, List.getElem?_eq_getElem hi, e] using this
theorem goOn_s {to : Int} (hJ : salJ S) (hR : restP S) (hto : S.now ≤ to) (hmax : to ≤ 4611686018427387904) (h : psx S.now x S last W own) :
 Calls Tryz.prog 47 #[pt x 0, iv to] W fun e w' => e = .returned (.tuple #[]) ∧ ansP (fun W o => psx to x (S.tickTo to) last W o ∧ restP (S.tickTo to)) W w' own := by
 refine goOn_walk (σ := Sal) x to (fun T => psx S.now x T last) (fun T W o => psx to x (T.tickTo to) last W o ∧ restP (T.tickTo to)) (pcx S.now x last) (fun T => keepX _ _ _ _) (fun T t => keepC _ _ _ _ _) (fun T => ⟨fun h => (keepX _ _ _ _).lt h.1, fun h hz hk => ⟨(keepX _ _ _ _).keep h.1 hz hk, h.2⟩⟩) (fun T => (salJ T ∧ restP T) ∧ T.now ≤ to ∧ T.ansL = S.ansL ∧ T.C = S.C) (fun T => firstT T.tset) (fun T => firstB T.tset) (fun T => T.round (firstT T.tset).1) Sal.todo (fun T => (firstT T.tset).1 ≤ to) (fun _ => Iff.rfl) Sal.now (fun T hT => ⟨hT.2.1, fun hb => Int.le_of_lt ((first_stop hb).later hT.1.2.R)⟩) ?_ ?_ ?_ ?_ ?_ ?_ S W own ⟨⟨hJ, hR⟩, hto, rfl, rfl⟩ h
 ·rintro T ⟨⟨hJ', hR'⟩, h1, h2, h3⟩ W' o' ⟨V, ⟨g, hm⟩, hr, ha, han⟩
  refine ⟨hm.ownx, fun t hlt => ?_⟩
  obtain ⟨o2, p1, p2, p3⟩ := hm.clock t
  refine ⟨o2, ⟨_, p1, ⟨hr.C, rfl, hr.last, Int.le_trans hr.tn hlt, hr.once, hr.tl, hr.kin, hr.live, hr.ls, hr.ol, hr.turns, hr.sizes, hr.held, hr.sold, hr.lu, hr.cust⟩, ha, han, hr.tn⟩, p2, p3⟩
 ·rintro T _ W' o' ⟨V, ⟨g, hm⟩, _⟩
  exact ⟨hm.xw, ⟨_, hm.cell 8 _ rfl⟩, row_free hm.blk 8⟩
 ·rintro T ⟨⟨hJ', hR'⟩, h1, h2, h3⟩ W' o' ⟨V, ⟨g, hm⟩, hr, ha, han⟩
  refine ⟨V.tw, hm.cell 10 _ rfl, fun W2 hb => ?_⟩
  have := wfirst_any (pw_below hm.tw hb)
  rw [(hr.firstK hR'.R).1, (hr.firstK hR'.R).2] at this
  exact this
 ·rintro T ⟨⟨hJ', hR'⟩, h1, h2, h3⟩ hb hc W' o' hp
  exact stop_s hJ' hR' (first_stop hb) (by omega) hp
 ·rintro T ⟨⟨hJ', hR'⟩, h1, h2, h3⟩ hb hc
  have hS := first_stop hb
  have hlt := hS.later hR'.R
  have h0 := hJ'.I.now
  obtain ⟨a, b, c, d⟩ := round_keeps T (firstT T.tset).1
  have ht := tick_stopAt hR'.R h0.1 hc hS.alive
  refine ⟨⟨⟨round_salJ hJ' ⟨by omega, by omega⟩, round_restP hS hR'⟩, by rw [b]; exact hc, c.trans h2, a.trans h3⟩, stop_todo hS hR'.R h0.1, ?_⟩
  simp only [← ht]
 ·rintro T ⟨⟨hJ', hR'⟩, h1, h2, h3⟩ hc W' o' hp
  have hk : ∀ i, T.knows i → to < (T.os.getD i ord0).untl T.C := fun i hi => by
   cases hb : firstB T.tset with
   | false => exact absurd hi (first_none hb i)
   | true =>
     have := (first_stop hb).min i hi
     have := hc hb
     omega
  rw [show (fun W o => psx to x (T.tickTo to) last W o ∧ restP (T.tickTo to)) = (fun W o => psx to x ({ T with now := to } : Sal) last W o ∧ restP ({ T with now := to } : Sal)) by rw [last_tick hk]]
  refine (aforget_s hR h3 h2 hto h1 hk hp).mono ?_
  rintro e w' ⟨rfl, hq⟩
  exact ⟨rfl, ansP_mono hq (fun W o hp => ⟨hp, last_restP h1 hk hR'⟩)⟩
end
end
theorem tick_no (x : Nat) (n : Int) (w : World) (hn : n < 0) :
 Calls Tryz.prog 30 #[pt x 0, iv n] w fun e w' => e = .returned (.tuple #[iv 0, iv 3]) ∧ Below w.heap.size w w' := by
 go_enter Tryz.func30, Tryz.ntmps30
 go_wp2
 refine bodyPost_ret (v := .tuple #[iv 0, iv 3]) (by simp [results, Tryz.results30, go_sem]) rfl ⟨rfl, bL⟩
theorem tick_yes (x : Nat) (n now to : Int) (w : World) (own : Nat → Prop) (P0 PE : World → (Nat → Prop) → Prop) (K0 : Keeps P0) (KE : Keeps PE) (h : P0 w own) (hn : ¬ n < 0) (hn2 : n ≤ 9223372036854775807) (hb : 0 ≤ now ∧ now ≤ 4611686018427387904)
 (hto : (n < 4611686018427387904 - now ∧ to = now + n) ∨ (¬ n < 4611686018427387904 - now ∧ to = 4611686018427387904))
 (HX : Hid (∀ W o, P0 W o → x < W.heap.size ∧ W.cell? (aq x 8) = some (iv now)))
 (HY : Hid (∀ W o, PE W o → x < W.heap.size ∧ W.cell? (aq x 8) = some (iv to)))
 (HG : Hid (∀ W o, P0 W o → Calls Tryz.prog 47 #[pt x 0, iv to] W fun e w' => e = .returned (.tuple #[]) ∧ ansP PE W w' o)) :
 Calls Tryz.prog 30 #[pt x 0, iv n] w fun e w' => e = .returned (.tuple #[iv to, iv 0]) ∧ ansP PE w w' own := by
 obtain ⟨hx, c8⟩ := HX.out w own h
 have hw1 : IntKind.i64.wrap (4611686018427387904 - now) = 4611686018427387904 - now := wrap_in (by omega) (by omega)
 obtain ⟨hb0, hb1⟩ := hb
 have hT0 : Hid (seenT P0 w own 0 w) := seen_start K0 h (Below.refl _ _) (Nat.le_refl _)
 have HGs : Hid (∀ W, seenT P0 w own 0 W → Calls Tryz.prog 47 #[pt x 0, iv to] W fun e w' => e = .returned (.tuple #[]) ∧ seenT PE w own 0 w' ∧ ∀ b, w.heap.size ≤ b → b < w.heap.size + 0 → w'.heap[b]? = W.heap[b]?) := fun W hW => seen_call (K0.lt h) HG.out W hW
 clear h HX HG
 rcases hto with ⟨hlt, rfl⟩ | ⟨hlt, rfl⟩
 ·have hw2 : IntKind.i64.wrap (now + n) = now + n := wrap_in (by omega) (by omega)
  go_enter Tryz.func30, Tryz.ntmps30
  go_wp2_with fail
  refine (HGs.out _ (seen_below K0 hT0.out bL)).mono ?_
  rintro e W1 ⟨rfl, hT1, _⟩
  obtain ⟨hx1, d8⟩ : x < W1.heap.size ∧ W1.cell? (aq x 8) = some (iv (now + n)) := by
   obtain ⟨o1, a1, _⟩ := hT1
   exact HY.out W1 o1 a1
  replace hT1 : Hid _ := hT1
  clear hT0 c8 HY
  go_wp2
  refine bodyPost_ret (v := .tuple #[iv (now + n), iv 0]) (by simp [results, Tryz.results30, go_sem]) rfl ⟨rfl, seen_end (seen_below KE hT1.out bL)⟩
 ·go_enter Tryz.func30, Tryz.ntmps30
  go_wp2_with fail
  refine (HGs.out _ (seen_below K0 hT0.out bL)).mono ?_
  rintro e W1 ⟨rfl, hT1, _⟩
  obtain ⟨hx1, d8⟩ : x < W1.heap.size ∧ W1.cell? (aq x 8) = some (iv 4611686018427387904) := by
   obtain ⟨o1, a1, _⟩ := hT1
   exact HY.out W1 o1 a1
  replace hT1 : Hid _ := hT1
  clear hT0 c8 HY
  go_wp2
  refine bodyPost_ret (v := .tuple #[iv 4611686018427387904, iv 0]) (by simp [results, Tryz.results30, go_sem]) rfl ⟨rfl, seen_end (seen_below KE hT1.out bL)⟩
theorem tickTo_keeps (S : Sal) (to : Int) : (S.tickTo to).C = S.C ∧ (S.tickTo to).ansL = S.ansL ∧ (S.tickTo to).os.length = S.os.length := tickN_keep _ S to
theorem tickN_at : ∀ (n : Nat) (S : Sal) (to : Int), (tickN n S to).now = to
 | 0, _, _ => rfl
 | n + 1, S, to => by
   unfold tickN
   split
   ·rfl
   ·exact tickN_at n _ to
theorem tickTo_at (S : Sal) (to : Int) : (S.tickTo to).now = to := tickN_at _ S to
theorem tickW : TickOK PSW where
 tick := by
  intro w x own S n hn1 hn2 h hJ
  obtain ⟨hp, hR⟩ := h
  by_cases hn : n < 0
  ·have e : S.tick n = ((0, 3), S) := by unfold Sal.tick; rw [if_pos hn]
   rw [e]
   refine (tick_no x n w hn).mono ?_
   rintro e w' ⟨rfl, hb⟩
   obtain ⟨o', a1, a2, a3⟩ := ansP_below (keepX S.now x S S.os.length) hp hb
   exact ⟨rfl, o', ⟨a1, hR⟩, a2, a3⟩
  ·have h0 := hJ.I.now
   obtain ⟨to, hto, e⟩ : ∃ to, ((n < 4611686018427387904 - S.now ∧ to = S.now + n) ∨ (¬ n < 4611686018427387904 - S.now ∧ to = 4611686018427387904)) ∧ S.tick n = ((to, 0), S.tickTo to) := by
    unfold Sal.tick
    rw [if_neg hn]
    by_cases hlt : n < 4611686018427387904 - S.now
    ·exact ⟨_, .inl ⟨hlt, rfl⟩, by rw [if_pos hlt]⟩
    ·exact ⟨_, .inr ⟨hlt, rfl⟩, by rw [if_neg hlt]⟩
   have hto1 : S.now ≤ to ∧ to ≤ 4611686018427387904 := by rcases hto with ⟨a, rfl⟩ | ⟨a, rfl⟩ <;> omega
   rw [e]
   have KE : Keeps (fun W o => psx to x (S.tickTo to) S.os.length W o ∧ restP (S.tickTo to)) := ⟨fun h => (keepX _ _ _ _).lt h.1, fun h hz hk => ⟨(keepX _ _ _ _).keep h.1 hz hk, h.2⟩⟩
   refine (tick_yes x n S.now to w own (psx S.now x S S.os.length) _ (keepX _ _ _ _) KE hp hn hn2 h0 hto (fun W o hp => ⟨psx_x hp, (psx_cells hp).2.2.2.1⟩) (fun W o hp => ⟨psx_x hp.1, ?_⟩) (fun W o hp => goOn_s hJ hR hto1.1 hto1.2 hp)).mono ?_
   ·have := (psx_cells hp.1).2.2.2.1
    rwa [tickTo_at] at this
   ·rintro e w' ⟨rfl, o', a1, a2, a3⟩
    refine ⟨rfl, o', ⟨?_, a1.2⟩, a2, a3⟩
    have := a1.1
    show psx (S.tickTo to).now x (S.tickTo to) (S.tickTo to).os.length w' o'
    rw [tickTo_at, (tickTo_keeps S to).2.2]
    exact this
 clock := by
  intro w x own S h hJ
  obtain ⟨hp, hR⟩ := h
  refine (clock_w x S.now w (psx_cells hp).2.2.2.1).mono ?_
  rintro e w' ⟨rfl, hb⟩
  obtain ⟨o', a1, a2, a3⟩ := ansP_below (keepX S.now x S S.os.length) hp hb
  exact ⟨rfl, o', ⟨a1, hR⟩, a2, a3⟩
section
structure PSK (w : World) (x : Nat) (own : Nat → Prop) (S : Sal) : Prop where
 ps : PSW w x own S
 J : salJ S
 I : keepI S
def psk' (x : Nat) (S : Sal) (W : World) (o : Nat → Prop) : Prop := PSK W x o S
theorem keepPSK (x : Nat) (S : Sal) : Keeps (psk' x S) := ⟨fun h => sendW.lt h.ps, fun h hz hk => ⟨sendW.keep h.ps hz hk, h.J, h.I⟩⟩
theorem keepPSW (x : Nat) (S : Sal) : Keeps (fun W o => PSW W x o S) := ⟨fun h => sendW.lt h, fun h hz hk => sendW.keep h hz hk⟩
section
variable {w : World} {x : Nat} {own : Nat → Prop} {S : Sal}
theorem does_any (h : PSK w x own S) (p : Stp) (hp : p.fine) :
 Calls Tryz.prog 15 #[pt x 0, p.val] w fun e w' => e = .returned (.tuple #[(S.does p).1.val, .bool true]) ∧ ansP (psk' x (S.does p).2) w w' own := by
 obtain ⟨h1, hJ, hI⟩ := h
 obtain ⟨⟨n1, n2⟩, ⟨k1, k2⟩, ⟨t1, t2⟩, ⟨c1, c2⟩, ⟨u1, u2⟩, ⟨o1, o2⟩⟩ := hp
 have hR := h1.2
 have h0 := hJ.I.now
 unfold Sal.does
 by_cases hs : 0 ≤ p.k ∧ p.k < 256
 ·have hS : ∀ W, Calls Tryz.prog 26 #[.agg #[iv p.k, iv p.t, iv p.c, iv p.u, iv p.o]] W fun e w' => e = .returned (.bool true) ∧ Below W.heap.size W w' := fun W => by
   have := small_any p.k p.t p.c p.u p.o W
   rw [decide_eq_true hs.1, decide_eq_true hs.2] at this
   exact this
  rw [if_pos hs]
  by_cases hk : p.k = 0
  ·rw [if_pos hk]
   obtain ⟨n, k, t, c, u, o⟩ := p
   simp only at *
   subst hk
   have hJ' := tick_salJ hJ n
   refine (does_tick x n t c u o S.now (S.tick n).2.now (S.tick n).1.1 (S.tick n).1.2 w own (fun W o => PSW W x o S) (fun W o => PSW W x o (S.tick n).2) (keepPSW _ _) (keepPSW _ _) h1 h0 ?_ hS (fun W o hp => tickW.clock hp hJ) (fun W o hp => tickW.tick n n1 (by omega) hp hJ) (fun W o hp => tickW.clock hp hJ')).mono ?_
   ·unfold Sal.tick
    by_cases hn : n < 0
    ·rw [if_pos hn]; exact .inl ⟨hn, rfl, rfl, rfl⟩
    ·rw [if_neg hn]
     by_cases hlt : n < 4611686018427387904 - S.now
     ·rw [if_pos hlt]; exact .inr (.inl ⟨hn, hlt, rfl, rfl, tickTo_at _ _⟩)
     ·rw [if_neg hlt]; exact .inr (.inr ⟨hn, hlt, rfl, rfl, tickTo_at _ _⟩)
   ·rintro e w' ⟨rfl, hq⟩
    exact ⟨rfl, ansP_mono hq (fun W o hp => ⟨hp, hJ', tick_keepI hI n⟩)⟩
  ·rw [if_neg hk]
   have hbne : (p.k != 0) = true := by simpa using hk
   have HF : ∀ W, Calls Tryz.prog 28 #[.agg #[iv p.k, iv p.t, iv p.c, iv p.u, iv p.o]] W fun e w' => ∃ ba bl bc, e = .returned (.slice ba bl bc) ∧ sliceOf w' ba bl bc p.bytes ∧ Below W.heap.size W w' := fun W => by
    refine (framedI p.k p.t p.c p.u p.o W hs.1 hs.2 t2 c2 u2 o2).mono ?_
    rintro e w' ⟨v, rfl, hown, hb⟩
    obtain ⟨g, cap, rfl, hs'⟩ := bytesAt_slice (bytesAt_of hown (by unfold frameB; simp)) (p.bytes_byte hs)
    exact ⟨_, _, _, rfl, hs', hb⟩
   have hSend : ∀ W o ba bl bc, PSW W x o S → sliceOf W ba bl bc p.bytes → Calls Tryz.prog 27 #[pt x 0, .slice ba bl bc] W fun e w' => e = .returned (S.sendK p).1.val ∧ ansP (fun W o => PSW W x o (S.sendK p).2) W w' o := fun W o ba bl bc hps hsl => by
    unfold Sal.sendK
    rcases p.un with ⟨hb, hun⟩ | ⟨hb, hun⟩
    ·rw [if_pos hb]
     exact sendW.send hps hJ hsl hun
    ·rw [if_neg (by rw [hb]; decide)]
     have := sendW.send hps hJ hsl hun
     unfold Sal.send at this
     rw [if_pos (by decide)] at this
     exact this
   have hfit : ∀ W, Calls Tryz.prog 29 #[.agg #[iv p.k, iv p.t, iv p.c, iv p.u, iv p.o], .agg #[iv (S.sendK p).1.kind, iv (S.sendK p).1.order, iv (S.sendK p).1.cents, iv (S.sendK p).1.upto]] W fun e w' => e = .returned (.bool true) ∧ Below W.heap.size W w' := fun W => by
    cases hb : p.ok
    ·have e : (S.sendK p).1 = ⟨1, 0, 0, 0⟩ := by unfold Sal.sendK; rw [hb]; rfl
     rw [e]
     exact fits_no p.k p.t p.c p.u p.o W hb
    ·exact fits_yes p.k p.t p.c p.u p.o _ _ _ _ W hb (sendK_fit hI hR h0.1 hb).1
   have hI' : keepI (S.sendK p).2 := by
    cases hb : p.ok
    ·have e : (S.sendK p).2 = S := by unfold Sal.sendK; rw [hb]; rfl
     rw [e]; exact hI
    ·exact (sendK_fit hI hR h0.1 hb).2
   refine (does_send x p.n p.k p.t p.c p.u p.o (S.sendK p).1.kind (S.sendK p).1.order (S.sendK p).1.cents (S.sendK p).1.upto w own (fun W o => PSW W x o S) (fun W o => PSW W x o (S.sendK p).2) (keepPSW _ _) (keepPSW _ _) h1 hbne (fun W ba bl bc => sliceOf W ba bl bc p.bytes) hS HF hSend hfit).mono ?_
   rintro e w' ⟨rfl, hq⟩
   exact ⟨rfl, ansP_mono hq (fun W o hp => ⟨hp, sendK_salJ hJ p, hI'⟩)⟩
 ·rw [if_neg hs]
  refine (does_out x p.n p.k p.t p.c p.u p.o w own (fun W o => PSW W x o S) (keepPSW _ _) h1 (fun W => ?_)).mono ?_
  ·have := small_any p.k p.t p.c p.u p.o W
   rw [show (decide (0 ≤ p.k) && decide (p.k < 256)) = false by simpa using hs] at this
   exact this
  ·rintro e w' ⟨rfl, hq⟩
   exact ⟨rfl, ansP_mono hq (fun W o hp => ⟨hp, hJ, hI⟩)⟩
end
end
structure OpenOK (PS : World → Nat → (Nat → Prop) → Sal → Prop) : Prop where
 no : ∀ {w : World} {n0 n1 n2 n3 n4 n5 n6 : Int} {a : Option Addr} {len cap : Nat} {ts : List (Int × Int)}, tiersAt w a len cap ts → cfgB [n0, n1, n2, n3, n4, n5, n6] ts = false → Calls Tryz.prog 18 #[.agg #[iv n0, iv n1, iv n2, iv n3, iv n4, iv n5, iv n6, .slice a len cap]] w fun e w' => e = .returned (.tuple #[.pointer none, iv 1]) ∧ Below w.heap.size w w'
 yes : ∀ {w : World} {n0 n1 n2 n3 n4 n5 n6 : Int} {a : Option Addr} {len cap : Nat} {ts : List (Int × Int)}, tiersAt w a len cap ts → cfgB [n0, n1, n2, n3, n4, n5, n6] ts = true → Calls Tryz.prog 18 #[.agg #[iv n0, iv n1, iv n2, iv n3, iv n4, iv n5, iv n6, .slice a len cap]] w fun e w' => ∃ x own, e = .returned (.tuple #[pt x 0, iv 0]) ∧ PS w' x own ⟨⟨n0, n1, n2, n3, n4, n5, n6, ts⟩, 0, [], []⟩ ∧ (∀ k, own k → w.heap.size ≤ k) ∧ Below w.heap.size w w'
end Go.Proofs.YtfhncfghblkgeabGreat
