import Derived.Test.YtfhncfghblkgeabGreatL32
set_option maxRecDepth 100000
set_option maxHeartbeats 2000000
namespace Go.Proofs.YtfhncfghblkgeabGreat
open Go.RowKit
theorem right_any (n0 n1 n2 n3 n4 n5 n6 : Int) (a : Option Addr) (len cap : Nat) (ts : List (Int × Int)) (w : World) (h : tiersAt w a len cap ts) :
 Calls Tryz.prog 19 #[.agg #[iv n0, iv n1, iv n2, iv n3, iv n4, iv n5, iv n6, .slice a len cap]] w fun e w' => e = .returned (.bool (cfgB [n0, n1, n2, n3, n4, n5, n6] ts)) ∧ Below w.heap.size w w' := by
 have HC : Hid (∀ W, Below w.heap.size w W → Calls Tryz.prog 37 #[.agg #[iv n0, iv n1, iv n2, iv n3, iv n4, iv n5, iv n6, .slice a len cap]] W fun e w' => e = .returned (iv (errV (cfgB [n0, n1, n2, n3, n4, n5, n6] ts))) ∧ Below W.heap.size W w') := fun W hW => rcheck_any n0 n1 n2 n3 n4 n5 n6 a len cap ts W (h.below hW (Nat.le_refl _))
 clear h
 generalize cfgB [n0, n1, n2, n3, n4, n5, n6] ts = bb at HC ⊢
 cases bb
 all_goals
  simp only [errV, if_true, Bool.false_eq_true, if_false] at HC
  go_enter Tryz.func19, Tryz.ntmps19
  go_wp2_with fail
  refine (HC.out _ bL).mono ?_
  rintro e w1 ⟨rfl, b1⟩
  have hb1 : Below w.heap.size w w1 := Below.trans (show Below w.heap.size w _ from bL) (b1.mono (by simp))
  clear b1
  go_wp2
  go_ret
  exact ⟨rfl, bL⟩
theorem nineK {w : World} {R : Nat} {c0 c1 c2 c3 c4 c5 c6 c7 c8 : Value} {T : TypeId} (h : w.heap[R]? = some (.cells #[c0, c1, c2, c3, c4, c5, c6, c7, c8] T (0, 0))) : w.cell? (aq R 0) = some c0 ∧ w.cell? (aq R 1) = some c1 ∧ w.cell? (aq R 2) = some c2 ∧ w.cell? (aq R 3) = some c3 ∧ w.cell? (aq R 4) = some c4 ∧ w.cell? (aq R 5) = some c5 ∧ w.cell? (aq R 6) = some c6 ∧ w.cell? (aq R 7) = some c7 ∧ w.cell? (aq R 8) = some c8 := by
 refine ⟨?_, ?_, ?_, ?_, ?_, ?_, ?_, ?_, ?_⟩ <;> rw [Joins.cell_of_block h] <;> rfl
theorem Same.toBelow {own : Nat → Prop} {B : Nat} {w w' : World} (h : Same own w w') (hB : B ≤ w.heap.size) (ho : ∀ k, own k → B ≤ k) : Below B w w' := ⟨h.os, h.tape, h.output, h.size, fun k hk => h.block k (by omega) (fun e => by have := ho k e; omega)⟩
theorem sells_walk (n0 n1 n2 n3 n4 n5 n6 f0 c0 : Int) (b off len cap : Nat) (w : World) (hb : b < w.heap.size) (hl : 1 ≤ len) (hl4 : len ≤ 4) (hp0 : w.cell? (aq b off) = some (iv f0)) (hp1 : w.cell? (aq b (off + 1)) = some (iv c0)) (P0 P1 : Nat → World → (Nat → Prop) → Prop) (K0 : ∀ x, Keeps (P0 x)) (Fr : World → Option Addr → Nat → Nat → Prop)
 (HO : Hid (∀ W, Below w.heap.size w W → Calls Tryz.prog 18 #[.agg #[iv n0, iv n1, iv n2, iv n3, iv n4, iv n5, iv n6, .slice (some (aq b off)) len cap]] W fun e w' => ∃ x own, e = .returned (.tuple #[pt x 0, iv 0]) ∧ P0 x w' own ∧ (∀ k, own k → W.heap.size ≤ k) ∧ Below W.heap.size W w'))
 (HF : Hid (∀ W, Calls Tryz.prog 28 #[.agg #[iv 1, iv 1, iv 1, iv 1, iv 0]] W fun e w' => ∃ ba bl bc, e = .returned (.slice ba bl bc) ∧ Fr w' ba bl bc ∧ Below W.heap.size W w'))
 (HSend : Hid (∀ x W o ba bl bc, P0 x W o → Fr W ba bl bc → Calls Tryz.prog 27 #[pt x 0, .slice ba bl bc] W fun e w' => e = .returned (.agg #[iv 2, iv 1, iv c0, iv n3]) ∧ ansP (P1 x) W w' o)) :
 Calls Tryz.prog 20 #[.agg #[iv n0, iv n1, iv n2, iv n3, iv n4, iv n5, iv n6, .slice (some (aq b off)) len cap]] w fun e w' => e = .returned (.bool true) ∧ Below w.heap.size w w' := by
 have HP0 : Hid _ := hp0
 have HP1 : Hid _ := hp1
 go_enter Tryz.func20, Tryz.ntmps20
 go_wp2_with fail
 refine (HO.out _ bL).mono ?_
 rintro e w1 ⟨x, own, rfl, hp, hfr, b1⟩
 have hz1 : w.heap.size + 1 ≤ w1.heap.size := Nat.le_trans (by simp) b1.size
 have hb1 : Below w.heap.size w w1 := Below.trans (show Below w.heap.size w _ from bL) (b1.mono (by simp))
 have hfr1 : Hid (∀ k, own k → w.heap.size + 1 ≤ k) := fun k e => Nat.le_trans (by simp) (hfr k e)
 have cb1 := (b1.block w.heap.size (by simp)).trans (heap_alloc_new w _)
 have q0 := (hb1.cell (p := (aq b off)) hb).trans hp0
 have q1 := (hb1.cell (p := (aq b (off + 1))) hb).trans hp1
 replace hp : Hid (P0 x w1 own) := hp
 replace hb1 : Hid _ := hb1
 have e3 : w1.cell? (aq w.heap.size 3) = some (iv n3) := by rw [Joins.cell_of_block cb1]; rfl
 have e7 : w1.cell? (aq w.heap.size 7) = some (.slice (some (aq b off)) len cap) := by rw [Joins.cell_of_block cb1]; rfl
 replace cb1 : Hid _ := cb1
 have bl0 : ¬ (len : Int) = 0 := by omega
 have bl1 : (0 : Int) < (len : Int) := by omega
 have hbw1 : b < w1.heap.size := Nat.lt_of_lt_of_le hb hb1.out.size
 clear b1 hfr HO
 go_wp2_with fail
 refine (HF.out _).mono ?_
 rintro e w2 ⟨ba, bl, bc, rfl, hFr, b2⟩
 have hp2 : Hid (P0 x w2 own) := (K0 x).keep hp.out b2.size (fun k e => b2.block k ((K0 x).lt hp.out k e))
 have hb2 : Hid (Below w.heap.size w w2) := hb1.out.trans (b2.mono hb1.out.size)
 have cb2 : Hid _ := (b2.block _ (blt cb1.out)).trans cb1.out
 clear e3 e7 q0 q1 hbw1 hp cb1 hb1 b2 HF hp0 hp1
 go_wp2_with fail
 refine (HSend.out x _ own ba bl bc hp2.out hFr).mono ?_
 rintro e w3 ⟨rfl, o3, _, hs3, _⟩
 have hb3 : Hid (Below w.heap.size w w3) := hb2.out.trans (hs3.toBelow hb2.out.size (fun k e => by have := hfr1.out k e; omega))
 have cb3 : Hid _ := (hs3.block w.heap.size (blt cb2.out) (fun e => by have := hfr1.out _ e; omega)).trans cb2.out
 have e3 : w3.cell? (aq w.heap.size 3) = some (iv n3) := by rw [Joins.cell_of_block cb3.out]; rfl
 have e7 : w3.cell? (aq w.heap.size 7) = some (.slice (some (aq b off)) len cap) := by rw [Joins.cell_of_block cb3.out]; rfl
 have q0 := (hb3.out.cell (p := (aq b off)) hb).trans HP0.out
 have q1 := (hb3.out.cell (p := (aq b (off + 1))) hb).trans HP1.out
 have hbw3 : b < w3.heap.size := Nat.lt_of_lt_of_le hb hb3.out.size
 have hww3 : w.heap.size < w3.heap.size := (blt cb3.out)
 clear hs3 hFr hp2 hb2 cb2 HSend
 go_wp2_with fail
 go_quiet (fail)
 go_wp2
 refine bodyPost_ret (v := .bool true) (by simp [results, Tryz.results20, go_sem]) rfl ⟨rfl, ?_⟩
 repeat (first | exact hb3.out | refine Below.drew ?_ | refine below_drewN ?_ | refine Below.alloc ?_ (by omega) _)
theorem open_none (n0 n1 n2 n3 n4 n5 n6 : Int) (a sa : Option Addr) (len cap sl sc : Nat) (w : World)
 (HO : Hid (∀ W, Below w.heap.size w W → Calls Tryz.prog 18 #[.agg #[iv n0, iv n1, iv n2, iv n3, iv n4, iv n5, iv n6, .slice a len cap]] W fun e w' => e = .returned (.tuple #[.pointer none, iv 1]) ∧ Below W.heap.size W w'))
 (HR : Hid (∀ W, Below w.heap.size w W → Calls Tryz.prog 19 #[.agg #[iv n0, iv n1, iv n2, iv n3, iv n4, iv n5, iv n6, .slice a len cap]] W fun e w' => e = .returned (.bool false) ∧ Below W.heap.size W w')) :
 Calls Tryz.prog 7 #[.agg #[iv n0, iv n1, iv n2, iv n3, iv n4, iv n5, iv n6, .slice a len cap, .slice sa sl sc]] w fun e w' => e = .returned (.tuple #[.pointer none, .bool true]) ∧ Below w.heap.size w w' := by
 go_enter Tryz.func7, Tryz.ntmps7
 go_wp2_with fail
 refine (HO.out _ bL).mono ?_
 rintro e w1 ⟨rfl, b1⟩
 have hb1 : Hid (Below w.heap.size w w1) := Below.trans (show Below w.heap.size w _ from bL) (b1.mono (by simp))
 have cb1 := (b1.block w.heap.size (by simp)).trans (heap_alloc_new w _)
 obtain ⟨k0, k1, k2, k3, k4, k5, k6, k7, k8⟩ := nineK cb1
 have l1 : w.heap.size < w1.heap.size := (blt cb1)
 clear b1 HO cb1
 go_wp2_with fail
 refine (HR.out _ hb1.out).mono ?_
 rintro e w2 ⟨rfl, b2⟩
 have hb2 : Hid (Below w.heap.size w w2) := hb1.out.trans (b2.mono hb1.out.size)
 clear b2 hb1 HR k0 k1 k2 k3 k4 k5 k6 k7 k8
 go_wp2
 refine bodyPost_ret (v := .tuple #[.pointer none, .bool true]) (by simp [results, Tryz.results7, go_sem]) rfl ⟨rfl, ?_⟩
 repeat (first | exact hb2.out | refine Below.drew ?_ | refine below_drewN ?_)
theorem open_some (n0 n1 n2 n3 n4 n5 n6 : Int) (a sa : Option Addr) (len cap sl sc : Nat) (w : World) (P0 : Nat → World → (Nat → Prop) → Prop) (K0 : ∀ x, Keeps (P0 x))
 (HO : Hid (∀ W, Below w.heap.size w W → Calls Tryz.prog 18 #[.agg #[iv n0, iv n1, iv n2, iv n3, iv n4, iv n5, iv n6, .slice a len cap]] W fun e w' => ∃ x own, e = .returned (.tuple #[pt x 0, iv 0]) ∧ P0 x w' own ∧ (∀ k, own k → W.heap.size ≤ k) ∧ Below W.heap.size W w'))
 (HR : Hid (∀ W, Below w.heap.size w W → Calls Tryz.prog 19 #[.agg #[iv n0, iv n1, iv n2, iv n3, iv n4, iv n5, iv n6, .slice a len cap]] W fun e w' => e = .returned (.bool true) ∧ Below W.heap.size W w'))
 (HS : Hid (∀ W, Below w.heap.size w W → Calls Tryz.prog 20 #[.agg #[iv n0, iv n1, iv n2, iv n3, iv n4, iv n5, iv n6, .slice a len cap]] W fun e w' => e = .returned (.bool true) ∧ Below W.heap.size W w')) :
 Calls Tryz.prog 7 #[.agg #[iv n0, iv n1, iv n2, iv n3, iv n4, iv n5, iv n6, .slice a len cap, .slice sa sl sc]] w fun e w' => ∃ x own, e = .returned (.tuple #[pt x 0, .bool true]) ∧ P0 x w' own ∧ (∀ k, own k → w.heap.size ≤ k) ∧ Below w.heap.size w w' := by
 go_enter Tryz.func7, Tryz.ntmps7
 go_wp2_with fail
 refine (HO.out _ bL).mono ?_
 rintro e w1 ⟨x, own, rfl, hp, hfr, b1⟩
 have hb1 : Hid (Below w.heap.size w w1) := Below.trans (show Below w.heap.size w _ from bL) (b1.mono (by simp))
 have hfr1 : Hid (∀ k, own k → w.heap.size ≤ k) := fun k e => Nat.le_trans (by simp) (hfr k e)
 have cb1 := (b1.block w.heap.size (by simp)).trans (heap_alloc_new w _)
 obtain ⟨k0, k1, k2, k3, k4, k5, k6, k7, k8⟩ := nineK cb1
 have l1 : w.heap.size < w1.heap.size := (blt cb1)
 replace hp : Hid (P0 x w1 own) := hp
 replace cb1 : Hid _ := cb1
 clear b1 HO hfr
 go_wp2_with fail
 refine (HR.out _ hb1.out).mono ?_
 rintro e w2 ⟨rfl, b2⟩
 have hb2 : Hid (Below w.heap.size w w2) := hb1.out.trans (b2.mono hb1.out.size)
 have hp2 : Hid (P0 x w2 own) := (K0 x).keep hp.out b2.size (fun k e => b2.block k ((K0 x).lt hp.out k e))
 have cb2 := (b2.block w.heap.size l1).trans cb1.out
 clear b2 hb1 HR k0 k1 k2 k3 k4 k5 k6 k7 k8 hp l1 cb1
 obtain ⟨k0, k1, k2, k3, k4, k5, k6, k7, k8⟩ := nineK cb2
 have l2 : w.heap.size < w2.heap.size := (blt cb2)
 clear cb2
 go_wp2_with fail
 refine (HS.out _ hb2.out).mono ?_
 rintro e w3 ⟨rfl, b3⟩
 have hb3 : Hid (Below w.heap.size w w3) := hb2.out.trans (b3.mono hb2.out.size)
 have hp3 : Hid (P0 x w3 own) := (K0 x).keep hp2.out b3.size (fun k e => b3.block k ((K0 x).lt hp2.out k e))
 clear b3 hb2 hp2 k0 k1 k2 k3 k4 k5 k6 k7 k8 HS
 go_wp2
 refine bodyPost_ret (v := .tuple #[pt x 0, .bool true]) (by simp [results, Tryz.results7, go_sem]) rfl ⟨x, own, rfl, hp3.out, hfr1.out, ?_⟩
 exact hb3.out
structure rightC (C : Cfg) : Prop where
 some : 1 ≤ C.prices.length
 first : (C.prices.getD 0 (0, 0)).1 = 0
 cents : ∀ p ∈ C.prices, 1 ≤ p.2
theorem priceT_pos {ps : List (Int × Int)} (h0 : (ps.getD 0 (0, 0)).1 = 0) (h : ∀ p ∈ ps, 1 ≤ p.2) {sold : Int} (hs : 0 ≤ sold) : ∀ k, 1 ≤ k → k ≤ ps.length → 1 ≤ priceT ps sold k
 | 0, h1, _ => by omega
 | 1, _, hk => by
   unfold priceT
   rw [h0, if_pos hs]
   exact h _ (getD_mem (q := 0) (by omega))
 | k + 2, _, hk => by
   have ih := priceT_pos h0 h hs (k + 1) (by omega) (by omega)
   rw [priceT]
   split
   ·exact h _ (getD_mem (by omega))
   ·exact ih
def ordK (o : Ord) : Prop := 1 ≤ o.units ∧ (12 ≤ o.state ∧ o.state ≤ 18) ∧ ((o.state = 13 ∨ o.state = 14) → 1 ≤ o.cents)
theorem price_pos {S : Sal} (hC : rightC S.C) (h : ∀ o ∈ S.os, 1 ≤ o.units) : 1 ≤ S.price :=
 priceT_pos hC.first hC.cents (units_nonneg 14 0 (fun o ho => by have := h o ho; omega)) _ hC.some (Nat.le_refl _)
theorem holds_price {S : Sal} (hC : rightC S.C) (h : ∀ o ∈ S.os, 1 ≤ o.units) {i : Nat} (hi : i < S.os.length) : 1 ≤ (S.put i { S.os.getD i ord0 with state := 13 }).price := by
 refine price_pos (S := S.put i { S.os.getD i ord0 with state := 13 }) hC (fun o ho => ?_)
 rcases mem_set (show o ∈ S.os.set i _ from ho) with rfl | ho
 ·have := h _ (ord_mem hi)
  exact this
 ·exact h o ho
theorem promoteN_ordK : ∀ (n : Nat) (S : Sal), rightC S.C → (∀ o ∈ S.os, ordK o) → ∀ o ∈ (promoteN n S).os, ordK o
 | 0, _, _, h => h
 | n + 1, S, hC, h => by
   unfold promoteN
   split
   ·exact h
   ·next q qs hq =>
    split
    ·exact h
    ·obtain ⟨_, hl, hs⟩ := queue_tail hq ord0 (by decide)
     refine promoteN_ordK n (S.holds q) hC (fun o ho => ?_)
     rcases mem_set (show o ∈ S.os.set q _ from ho) with rfl | ho
     ·have hp := holds_price hC (fun o ho => (h o ho).1) hl
      exact ⟨(h _ (ord_mem hl)).1, by show (12 : Int) ≤ 13 ∧ (13 : Int) ≤ 18; omega, fun _ => hp⟩
     ·exact h o ho
theorem promote_ordK {S : Sal} (hC : rightC S.C) (h : ∀ o ∈ S.os, ordK o) : ∀ o ∈ S.promote.os, ordK o := promoteN_ordK _ S hC h
theorem ends_ordK {S : Sal} (h : ∀ o ∈ S.os, ordK o) {i : Nat} (hi : i < S.os.length) {st : Int} (hst : 14 ≤ st ∧ st ≤ 18) (h14 : st = 14 → (S.os.getD i ord0).state = 13) : ∀ o ∈ (S.ends i st).os, ordK o := by
 intro o ho
 rcases mem_set (show o ∈ S.os.set i _ from ho) with rfl | ho
 ·obtain ⟨a, b, c⟩ := h _ (ord_mem hi)
  refine ⟨a, by show 12 ≤ st ∧ st ≤ 18; omega, ?_⟩
  rintro (e | e)
  ·have e' : st = 13 := e; omega
  ·exact c (.inl (h14 e))
 ·exact h o ho
theorem drained_ordK {S : Sal} (h : ∀ o ∈ S.os, ordK o) : ∀ o ∈ S.drained.os, ordK o := by
 intro o ho
 obtain ⟨p, hp, rfl⟩ := List.mem_map.1 (show o ∈ S.os.map (dry S.left S.now) from ho)
 unfold dry
 split
 ·obtain ⟨a, b, c⟩ := h p hp
  exact ⟨a, by show (12 : Int) ≤ 18 ∧ (18 : Int) ≤ 18; omega, fun e => by rcases e with e | e <;> simp at e⟩
 ·exact h p hp
theorem pastN_ordK {S : Sal} (h : ∀ o ∈ S.os, ordK o) {st en : Int} (hen : 15 ≤ en ∧ en ≤ 18) : ∀ n, n ≤ S.os.length → ∀ o ∈ (pastN S st en n).os, ordK o
 | 0, _ => h
 | n + 1, hn => by
   have ih := pastN_ordK h (st := st) hen n (by omega)
   unfold pastN
   split
   ·exact ends_ordK ih (by rw [pastN_len]; omega) ⟨by omega, hen.2⟩ (fun e => by omega)
   ·exact ih
theorem past_ordK {S : Sal} (hC : rightC S.C) (h : ∀ o ∈ S.os, ordK o) {st en : Int} (hen : 15 ≤ en ∧ en ≤ 18) : ∀ o ∈ (S.past st en).os, ordK o :=
 promote_ordK (by rw [(pastN_keep S st en _).1]; exact hC) (pastN_ordK h hen _ (Nat.le_refl _))
theorem round_ordK {S : Sal} (hC : rightC S.C) (h : ∀ o ∈ S.os, ordK o) (t : Int) : ∀ o ∈ (S.round t).os, ordK o :=
 past_ordK (by rw [(past_keep _ 13 15).1]; exact hC) (past_ordK (S := { S with now := t }) hC h ⟨by decide, by decide⟩) ⟨by decide, by decide⟩
theorem tickN_ordK : ∀ (n : Nat) (S : Sal) (to : Int), rightC S.C → (∀ o ∈ S.os, ordK o) → ∀ o ∈ (tickN n S to).os, ordK o
 | 0, _, _, _, h => h
 | n + 1, S, to, hC, h => by
   unfold tickN
   split
   ·exact h
   ·exact tickN_ordK n _ to (by rw [(round_keep S _).1]; exact hC) (round_ordK hC h _)
def ansK (a : Ans) : Prop := ∃ k t c u o : Int, isB k t c u o = true ∧ k ≠ 4 ∧ a.token = t ∧ a.frame = strOfNums (frameB k (numsOf k t c u o)) ∧ fitP k o a.rep.kind a.rep.order a.rep.cents a.rep.upto
structure keepI (S : Sal) : Prop where
 C : rightC S.C
 os : ∀ o ∈ S.os, ordK o
 an : ∀ a ∈ S.ansL, ansK a
theorem tick_keepI {S : Sal} (h : keepI S) (n : Int) : keepI (S.tick n).2 := by
 obtain ⟨a, b, _⟩ := tick_keep S n
 refine ⟨by rw [a]; exact h.C, ?_, by rw [b]; exact h.an⟩
 unfold Sal.tick
 split
 ·exact h.os
 split <;> exact tickN_ordK _ _ _ h.C h.os
theorem ask_fit {S : Sal} (h : keepI S) (hR : restP S) (h0 : 0 ≤ S.now) (r : Req) : fitP 1 r.order (S.ask r).1.kind (S.ask r).1.order (S.ask r).1.cents (S.ask r).1.upto ∧ (1 ≤ r.units → ∀ o ∈ (S.ask r).2.os, ordK o) := by
 have hl := hR.R.lease
 have hwt := hR.R.wait
 unfold Sal.ask
 split
 ·exact ⟨.inl ⟨rfl, .inr (.inr ⟨.inl rfl, rfl, rfl, rfl⟩)⟩, fun _ => h.os⟩
 split
 ·exact ⟨.inl ⟨rfl, .inr (.inr ⟨.inr (.inl rfl), rfl, rfl, rfl⟩)⟩, fun _ => h.os⟩
 split
 ·exact ⟨.inl ⟨rfl, .inr (.inr ⟨.inr (.inr (.inl rfl)), rfl, rfl, rfl⟩)⟩, fun _ => h.os⟩
 split
 ·have hp : 1 ≤ S.price := price_pos h.C (fun o ho => (h.os o ho).1)
  obtain ⟨e1, e2⟩ := more_holds S r.cust r.units
  rw [e1, e2]
  have hg : (S.more ⟨r.cust, r.units, 13, S.price, S.now + S.C.lease, 0⟩).os.getD S.os.length ord0 = ⟨r.cust, r.units, 13, S.price, S.now + S.C.lease, 0⟩ := by
   show (S.os ++ [_]).getD S.os.length ord0 = _
   rw [getD_snoc (by omega), if_pos rfl]
  rw [hg]
  refine ⟨.inl ⟨rfl, .inl ⟨rfl, ?_, ?_, ?_⟩⟩, fun hu o ho => ?_⟩
  ·show (0 : Int) < (S.os.length : Int) + 1; omega
  ·show 0 < S.price; omega
  ·show 0 < S.now + S.C.lease; omega
  ·rcases List.mem_append.1 (show o ∈ S.os ++ [_] from ho) with ho | ho
   ·exact h.os o ho
   ·have e : o = ⟨r.cust, r.units, 13, S.price, S.now + S.C.lease, 0⟩ := by simpa using ho
    rw [e]
    exact ⟨hu, by show (12 : Int) ≤ 13 ∧ (13 : Int) ≤ 18; omega, fun _ => hp⟩
 split
 ·exact ⟨.inl ⟨rfl, .inr (.inr ⟨.inr (.inr (.inl rfl)), rfl, rfl, rfl⟩)⟩, fun _ => h.os⟩
 ·refine ⟨.inl ⟨rfl, .inr (.inl ⟨rfl, ?_, rfl, ?_⟩)⟩, fun hu o ho => ?_⟩
  ·show (0 : Int) < (S.os.length : Int) + 1; omega
  ·show 0 < S.now + S.C.wait; omega
  ·rcases List.mem_append.1 (show o ∈ S.os ++ [_] from ho) with ho | ho
   ·exact h.os o ho
   ·have e : o = ⟨r.cust, r.units, 12, 0, S.now + S.C.wait, 0⟩ := by simpa using ho
    rw [e]
    exact ⟨hu, by show (12 : Int) ≤ 12 ∧ (12 : Int) ≤ 18; omega, fun c => by rcases c with c | c <;> simp at c⟩
theorem confirm_fit {S : Sal} (h : keepI S) (r : Req) (ho : 1 ≤ r.order) : fitP 2 r.order (S.confirm r).1.kind (S.confirm r).1.order (S.confirm r).1.cents (S.confirm r).1.upto ∧ ∀ o ∈ (S.confirm r).2.os, ordK o := by
 unfold Sal.confirm
 split
 ·exact ⟨.inr (.inl ⟨rfl, .inr ⟨.inl rfl, rfl, rfl, rfl⟩⟩), h.os⟩
 ·next i hf =>
  obtain ⟨hi, _, _⟩ := findS_some ho hf
  split
  ·exact ⟨.inr (.inl ⟨rfl, .inr ⟨.inl rfl, rfl, rfl, rfl⟩⟩), h.os⟩
  ·next hs =>
   have hs' : (S.os.getD i ord0).state = 13 := Classical.not_not.1 hs
   have h1 := ends_ordK h.os hi (st := 14) (by decide) (fun _ => hs')
   rw [drainS_queue]
   have h2 := promote_ordK (S := (S.ends i 14).drained) h.C (drained_ordK h1)
   refine ⟨.inr (.inl ⟨rfl, .inl ⟨rfl, rfl, by omega, ?_, rfl⟩⟩), h2⟩
   have hg : (S.ends i 14).os.getD i ord0 = { S.os.getD i ord0 with state := 14, ended := S.now } := by
    have : (S.ends i 14).os.getD i ord0 = if i = i then _ else _ := getD_set _ hi
    rw [if_pos rfl] at this
    exact this
   have e1 : (S.ends i 14).drained.os.getD i ord0 = (S.ends i 14).os.getD i ord0 := drained_far _ (by rw [hg]; show ¬ (14 : Int) = 12; decide)
   have e2 : (S.ends i 14).drained.promote.os.getD i ord0 = (S.ends i 14).os.getD i ord0 := (promote_far _ (by rw [e1, hg]; show ¬ (14 : Int) = 12; decide)).trans e1
   show 0 < ((S.ends i 14).drained.promote.os.getD i ord0).units * ((S.ends i 14).drained.promote.os.getD i ord0).cents
   rw [e2, hg]
   obtain ⟨a, b, c⟩ := h.os _ (ord_mem hi)
   have c' := c (.inl hs')
   show 0 < (S.os.getD i ord0).units * (S.os.getD i ord0).cents
   exact Int.mul_pos (by omega) (by omega)
theorem cancel_fit {S : Sal} (h : keepI S) (r : Req) (ho : 1 ≤ r.order) : fitP 3 r.order (S.cancel r).1.kind (S.cancel r).1.order (S.cancel r).1.cents (S.cancel r).1.upto ∧ ∀ o ∈ (S.cancel r).2.os, ordK o := by
 unfold Sal.cancel
 split
 ·exact ⟨.inr (.inr (.inl ⟨rfl, .inr ⟨.inl rfl, rfl, rfl, rfl⟩⟩)), h.os⟩
 ·next i hf =>
  obtain ⟨hi, _, _⟩ := findS_some ho hf
  split
  ·exact ⟨.inr (.inr (.inl ⟨rfl, .inr ⟨.inl rfl, rfl, rfl, rfl⟩⟩)), h.os⟩
  ·refine ⟨.inr (.inr (.inl ⟨rfl, .inl ⟨rfl, rfl, by omega, rfl, rfl⟩⟩)), ?_⟩
   exact promote_ordK (S := S.ends i 16) h.C (ends_ordK h.os hi (st := 16) (by decide) (fun e => by omega))
theorem poll_fit {S : Sal} (h : keepI S) (hR : restP S) (h0 : 0 ≤ S.now) (r : Req) (ho : 1 ≤ r.order) : fitP 4 r.order (S.poll r).kind (S.poll r).order (S.poll r).cents (S.poll r).upto := by
 unfold Sal.poll
 split
 ·exact .inr (.inr (.inr ⟨rfl, .inr (.inr (.inr (.inr ⟨rfl, rfl, rfl, rfl⟩)))⟩))
 ·next i hf =>
  obtain ⟨hi, _, _⟩ := findS_some ho hf
  obtain ⟨a, b, c⟩ := h.os _ (ord_mem hi)
  split
  ·next hs =>
   have := hR.R.fut _ (ord_mem hi) (.inl hs)
   exact .inr (.inr (.inr ⟨rfl, .inl ⟨rfl, rfl, by omega, rfl, by show 0 < (S.os.getD i ord0).upto; omega⟩⟩))
  split
  ·next hs =>
   have := hR.R.fut _ (ord_mem hi) (.inr hs)
   have := c (.inl hs)
   exact .inr (.inr (.inr ⟨rfl, .inr (.inl ⟨rfl, rfl, by omega, by show 0 < (S.os.getD i ord0).cents; omega, by show 0 < (S.os.getD i ord0).upto; omega⟩)⟩))
  split
  ·exact .inr (.inr (.inr ⟨rfl, .inr (.inr (.inr (.inr ⟨rfl, rfl, rfl, rfl⟩)))⟩))
  split
  ·next hs =>
   have := c (.inr hs)
   exact .inr (.inr (.inr ⟨rfl, .inr (.inr (.inl ⟨rfl, rfl, by omega, Int.mul_pos (by omega) (by omega), rfl⟩))⟩))
  ·next h12 h13 _ h14 =>
   refine .inr (.inr (.inr ⟨rfl, .inr (.inr (.inr (.inl ⟨?_, rfl, by omega, rfl, rfl⟩)))⟩))
   show (S.os.getD i ord0).state = 15 ∨ (S.os.getD i ord0).state = 16 ∨ (S.os.getD i ord0).state = 17 ∨ (S.os.getD i ord0).state = 18
   omega
structure Stp where
 n : Int
 k : Int
 t : Int
 c : Int
 u : Int
 o : Int
def Stp.req (p : Stp) : Req := ⟨p.k, bareT p.k p.t, p.c, bareU p.k p.u, bareO p.k p.o⟩
def Stp.ok (p : Stp) : Bool := isB p.k (bareT p.k p.t) p.c (bareU p.k p.u) (bareO p.k p.o)
def Stp.bytes (p : Stp) : List Int := frameB p.k (numsK p.k p.t p.c p.u p.o)
def Stp.val (p : Stp) : Value := .agg #[iv p.n, iv p.k, iv p.t, iv p.c, iv p.u, iv p.o]
def inI (n : Int) : Prop := -9223372036854775808 ≤ n ∧ n < 9223372036854775808
def Stp.fine (p : Stp) : Prop := inI p.n ∧ inI p.k ∧ inI p.t ∧ inI p.c ∧ inI p.u ∧ inI p.o
theorem Stp.nums {p : Stp} (h : p.ok = true) : numsOf p.k (bareT p.k p.t) p.c (bareU p.k p.u) (bareO p.k p.o) = numsK p.k p.t p.c p.u p.o := by
 unfold Stp.ok isB at h
 unfold numsOf numsK bareT bareU bareO
 by_cases h1 : p.k = 1
 ·simp [h1]
 ·by_cases h2 : p.k = 2 ∨ p.k = 3
  ·have h4 : p.k ≠ 4 := by omega
   simp [h1, h2, h4]
  ·by_cases h4 : p.k = 4
   ·simp [h4]
   ·simp [h1, h2, h4] at h
def Sal.sendK (S : Sal) (p : Stp) : Rep × Sal := if p.ok then S.send p.bytes p.req 0 else (⟨1, 0, 0, 0⟩, S)
def Sal.does (S : Sal) (p : Stp) : Rep × Sal :=
 if 0 ≤ p.k ∧ p.k < 256 then (if p.k = 0 then (rep0, (S.tick p.n).2) else S.sendK p) else (rep0, S)
theorem fit_plain {k o : Int} (e : k = 1 ∨ k = 2 ∨ k = 3) (pk' : Int) (h' : pk' = 10 ∨ pk' = 11) : fitP k o pk' 0 0 0 := by
 rcases e with rfl | rfl | rfl
 ·exact .inl ⟨rfl, .inr (.inr ⟨by omega, rfl, rfl, rfl⟩)⟩
 ·exact .inr (.inl ⟨rfl, .inr ⟨by omega, rfl, rfl, rfl⟩⟩)
 ·exact .inr (.inr (.inl ⟨rfl, .inr ⟨by omega, rfl, rfl, rfl⟩⟩))
theorem isB_kind {k t c u o : Int} (h : isB k t c u o = true) : k = 1 ∨ k = 2 ∨ k = 3 ∨ k = 4 := by
 unfold isB at h
 by_cases h1 : k = 1
 ·exact .inl h1
 ·by_cases h2 : k = 2 ∨ k = 3
  ·omega
  ·by_cases h4 : k = 4
   ·omega
   ·simp [h1, h2, h4] at h
theorem isB_parts {k t c u o : Int} (h : isB k t c u o = true) : (k = 1 ∧ 1 ≤ u ∧ u ≤ 4294967296 ∧ c ≠ 0) ∨ (k ≠ 1 ∧ 1 ≤ o ∧ c ≠ 0) := by
 unfold isB numB at h
 by_cases h1 : k = 1
 ·simp [h1] at h
  refine .inl ⟨h1, by omega, by omega, by omega⟩
 ·by_cases h2 : k = 2 ∨ k = 3
  ·simp [h1, h2] at h
   exact .inr ⟨h1, by omega, by omega⟩
  ·by_cases h4 : k = 4
   ·simp [h4] at h
    exact .inr ⟨h1, by omega, by omega⟩
   ·simp [h1, h2, h4] at h
theorem doS_fit {S : Sal} (h : keepI S) (hR : restP S) (h0 : 0 ≤ S.now) (r : Req) (hb : isB r.kind r.token r.cust r.units r.order = true) (h4 : r.kind ≠ 4) : fitP r.kind r.order (S.doS r).1.kind (S.doS r).1.order (S.doS r).1.cents (S.doS r).1.upto ∧ ∀ o ∈ (S.doS r).2.os, ordK o := by
 have hp := isB_parts hb
 unfold Sal.doS
 rcases isB_kind hb with e | e | e | e
 ·rw [if_pos e]
  obtain ⟨a, b⟩ := ask_fit h hR h0 r
  rw [e]
  exact ⟨a, b (by omega)⟩
 ·rw [if_neg (by omega), if_pos e]
  have := confirm_fit h r (by omega)
  rw [e]
  exact this
 ·rw [if_neg (by omega), if_neg (by omega)]
  have := cancel_fit h r (by omega)
  rw [e]
  exact this
 ·exact absurd e h4
theorem used_mem {S : Sal} {t : Int} {a : Ans} (h : S.used t = some a) : a ∈ S.ansL ∧ a.token = t ∧ S.remem a = true := by
 unfold Sal.used at h
 have h1 := List.mem_of_find?_eq_some h
 have h2 := List.find?_some h
 simp only [Bool.and_eq_true, beq_iff_eq] at h2
 exact ⟨h1, h2.2, h2.1⟩
theorem fitP_cast {k k' o o' pk po pc pu : Int} (e : k = k') (e' : o = o') (h : fitP k o pk po pc pu) : fitP k' o' pk po pc pu := by rw [← e, ← e']; exact h
theorem sendK_fit {S : Sal} (h : keepI S) (hR : restP S) (h0 : 0 ≤ S.now) {p : Stp} (hb : p.ok = true) : fitP p.k (bareO p.k p.o) (S.sendK p).1.kind (S.sendK p).1.order (S.sendK p).1.cents (S.sendK p).1.upto ∧ keepI (S.sendK p).2 := by
 have hb' : isB p.k (bareT p.k p.t) p.c (bareU p.k p.u) (bareO p.k p.o) = true := hb
 have hk := isB_kind hb'
 have hpart := isB_parts hb'
 unfold Sal.sendK
 rw [if_pos hb]
 unfold Sal.send
 rw [if_neg (fun c => c rfl)]
 split
 ·next h4 =>
  have h4' : p.k = 4 := h4
  have ho : 1 ≤ bareO p.k p.o := by
   rcases hpart with c | c
   ·omega
   ·exact c.2.1
  exact ⟨fitP_cast h4'.symm rfl (poll_fit h hR h0 p.req ho), h⟩
 ·next h4 =>
  have h4' : p.k ≠ 4 := h4
  have hk3 : p.k = 1 ∨ p.k = 2 ∨ p.k = 3 := by omega
  split
  ·next a ha =>
   obtain ⟨m1, m2, m3⟩ := used_mem ha
   split
   ·next hf =>
    obtain ⟨k, t, c, u, o, q1, q2, q3, q4, q5⟩ := h.an a m1
    rw [q4] at hf
    have hbytes : p.bytes = frameB p.k (numsOf p.k (bareT p.k p.t) p.c (bareU p.k p.u) (bareO p.k p.o)) := by unfold Stp.bytes; rw [Stp.nums hb]
    rw [hbytes] at hf
    obtain ⟨e1, _, _, _, e5⟩ := frame_inj q1 hb' (str_inj (frame_byte q1) (frame_byte hb') hf)
    exact ⟨fitP_cast e1 e5 q5, h⟩
   ·exact ⟨fit_plain hk3 10 (.inl rfl), h⟩
  ·split
   ·exact ⟨fit_plain hk3 11 (.inr rfl), h⟩
   ·obtain ⟨a, b⟩ := doS_fit h hR h0 p.req hb' h4'
    obtain ⟨c, _, d⟩ := doS_same S p.req
    refine ⟨a, ⟨by show rightC (S.doS p.req).2.C; rw [c]; exact h.C, b, fun x hx => ?_⟩⟩
    rcases List.mem_append.1 (show x ∈ (S.doS p.req).2.ansL ++ [_] from hx) with hx | hx
    ·rw [d] at hx; exact h.an x hx
    ·have e : x = ⟨strOfNums p.bytes, p.req.token, (S.doS p.req).1, S.now⟩ := by simpa using hx
     rw [e]
     exact ⟨p.k, bareT p.k p.t, p.c, bareU p.k p.u, bareO p.k p.o, hb', h4', rfl, by unfold Stp.bytes; rw [Stp.nums hb], a⟩
theorem Stp.un (p : Stp) : (p.ok = true ∧ UN p.bytes p.k (bareT p.k p.t) p.c (bareU p.k p.u) (bareO p.k p.o) 0) ∨ (p.ok = false ∧ UN p.bytes 0 0 0 0 0 2) := by
 cases hb : p.ok
 ·refine .inr ⟨rfl, ?_⟩
  unfold Stp.bytes
  rw [frameB_codes]
  unfold Stp.ok isB at hb
  have hnb : ∀ n : Int, numB ((n.toNat : Nat) : Int) = numB n := fun n => by
   unfold numB
   by_cases h : 0 ≤ n
   ·rw [Int.toNat_of_nonneg h]
   ·have e : n.toNat = 0 := by omega
    rw [e]
    have h1 : decide (1 ≤ n) = false := decide_eq_false (by omega)
    rw [h1]; rfl
  have hall : ∀ l : List Int, ((l.map Int.toNat).map fun n : Nat => (n : Int)).all numB = l.all numB := fun l => by
   induction l with
   | nil => rfl
   | cons a l ih => simp only [List.map_cons, List.all_cons, hnb, ih]
  by_cases h1 : p.k = 1
  ·have e : numsK p.k p.t p.c p.u p.o = [p.t, p.c, p.u] := by unfold numsK; rw [if_neg (by omega), if_pos h1]
   rw [if_pos h1, show bareT p.k p.t = p.t from if_neg (by omega), show bareU p.k p.u = p.u from if_pos h1, show bareO p.k p.o = 0 from if_pos h1] at hb
   refine un_bad (by rw [e, h1]; rfl) rfl ?_
   rw [hall, e]
   simp only [List.all_cons, List.all_nil]
   revert hb
   cases numB p.t <;> cases numB p.c <;> cases numB p.u <;> simp
  ·by_cases h2 : p.k = 2 ∨ p.k = 3
   ·have e : numsK p.k p.t p.c p.u p.o = [p.t, p.c, p.o] := by unfold numsK; rw [if_neg (by omega), if_neg h1]
    rw [if_neg h1, if_pos h2, show bareT p.k p.t = p.t from if_neg (by omega), show bareU p.k p.u = 0 from if_neg h1, show bareO p.k p.o = p.o from if_neg h1] at hb
    refine un_bad (by rw [e]; unfold cnt; rw [if_neg h1, if_pos h2]; rfl) rfl ?_
    rw [hall, e]
    simp only [List.all_cons, List.all_nil]
    revert hb
    cases numB p.t <;> cases numB p.c <;> cases numB p.o <;> simp
   ·by_cases h4 : p.k = 4
    ·have e : numsK p.k p.t p.c p.u p.o = [p.c, p.o] := by unfold numsK; rw [if_pos h4]
     rw [if_neg h1, if_neg h2, if_pos h4, show bareT p.k p.t = 0 from if_pos h4, show bareU p.k p.u = 0 from if_neg h1, show bareO p.k p.o = p.o from if_neg h1] at hb
     refine un_bad (by rw [e, h4]; rfl) rfl ?_
     rw [hall, e]
     simp only [List.all_cons, List.all_nil]
     revert hb
     cases numB p.c <;> cases numB p.o <;> simp
    ·exact un_none (by unfold cnt; simp [h1, h2, h4])
 ·refine .inl ⟨rfl, .inl ⟨rfl, hb, ?_⟩⟩
  unfold Stp.bytes
  rw [Stp.nums hb]
theorem doS_salI {S : Sal} (h : salJ S) (r : Req) (hb : isB r.kind r.token r.cust r.units r.order = true) : salI (S.doS r).2 := by
 have hp := isB_parts hb
 have hI := h.I
 unfold Sal.doS
 split
 ·next hk =>
  have hu : 1 ≤ r.units ∧ r.units ≤ 4294967296 ∧ r.cust ≠ 0 := by omega
  unfold Sal.ask
  split
  ·exact hI
  ·next hcap =>
   split
   ·exact hI
   split
   ·exact hI
   split
   ·next hg =>
    obtain ⟨e1, e2⟩ := more_holds S r.cust r.units
    rw [e1, e2]
    have hpr : 0 ≤ S.price ∧ S.price ≤ 1073741824 := priceT_bounds hI.prices _ _ (Nat.le_refl _)
    exact salI_grant hI _ rfl ⟨hu.1, hu.2.1⟩ hg.2 ⟨hpr, by show (0 : Int) ≤ 0 ∧ (0 : Int) ≤ 4611686018427387904; omega⟩
   split
   ·exact hI
   ·have h13 := units_lo hI 13 r.cust
    have h14 := units_lo hI 14 r.cust
    have := h.cap
    exact salI_wait hI _ _ ⟨hu.1, hu.2.1⟩ (by omega) _
 split
 ·unfold Sal.confirm
  split
  ·exact hI
  ·next i hf =>
   obtain ⟨hi, _, _⟩ := findS_some (by omega) hf
   split
   ·exact hI
   ·next hs =>
    have hs' : (S.os.getD i ord0).state = 13 := Classical.not_not.1 hs
    have h1 := salI_end hI hi 14 (.inl rfl) (fun _ => hs')
    exact promote_inv _ (drain_inv (n := (S.ends i 14).os.length) _ _ h1 rfl (fun q hq => ((queueT_mem _ _ q).1 hq).1)).1
 ·unfold Sal.cancel
  split
  ·exact hI
  ·next i hf =>
   obtain ⟨hi, _, _⟩ := findS_some (by omega) hf
   split
   ·exact hI
   ·exact promote_inv _ (salI_end hI hi 16 (.inr (by decide)) (fun e => by omega))
theorem sendK_salJ {S : Sal} (h : salJ S) (p : Stp) : salJ (S.sendK p).2 := by
 unfold Sal.sendK
 split
 ·next hb =>
  refine salJ_send h _ _ _ ?_
  unfold Sal.send
  rw [if_neg (fun c => c rfl)]
  split
  ·exact h.I
  ·next h4 =>
   split
   ·split
    ·exact h.I
    ·exact h.I
   ·split
    ·exact h.I
    ·obtain ⟨a, b, c, d, e, f, g⟩ := doS_salI h p.req hb
     exact ⟨a, b, c, d, e, f, g⟩
 ·exact h
theorem tickN_salI : ∀ (n : Nat) (S : Sal) (to : Int), salI S → 0 ≤ to → to ≤ 4611686018427387904 → salI (tickN n S to)
 | 0, _, _, h, h0, h1 => salI_now h ⟨h0, h1⟩
 | n + 1, S, to, h, h0, h1 => by
   unfold tickN
   split
   ·exact salI_now h ⟨h0, h1⟩
   ·next hd =>
    obtain ⟨_, _, _, _, hle⟩ := due_one S.os to S.os.length (Nat.le_refl _) (by unfold Sal.due at hd; omega)
    have hle' : S.due to ≤ to := hle
    exact tickN_salI n _ to (past_inv (past_inv (salI_now h ⟨by omega, by omega⟩) 13 15 (by decide)) 12 17 (by decide)) h0 h1
theorem tick_salJ {S : Sal} (h : salJ S) (n : Int) : salJ (S.tick n).2 := by
 refine salJ_tick h n ?_
 have h0 := h.I.now
 unfold Sal.tick
 split
 ·exact h.I
 split
 ·exact tickN_salI _ _ _ h.I (by omega) (by omega)
 ·exact tickN_salI _ _ _ h.I (by omega) (by omega)
theorem Stp.bytes_byte (p : Stp) (h : 0 ≤ p.k ∧ p.k < 256) : ∀ x ∈ p.bytes, 0 ≤ x ∧ x < 256 := by
 intro x hx
 rcases List.mem_cons.1 hx with rfl | hx
 ·exact h
 ·obtain ⟨n, _, hx⟩ := List.mem_flatMap.1 hx
  exact code_byte _ x hx
section
open Go.ChangeShapes Go.WideShapes Go.ChangeAt Go.RowKit
def stp0 : Stp := ⟨0, 0, 0, 0, 0, 0⟩
def stpAt (w : World) (b o : Nat) (p : Stp) : Prop := w.cell? (aq b o) = some (iv p.n) ∧ w.cell? (aq b (o + 1)) = some (iv p.k) ∧ w.cell? (aq b (o + 2)) = some (iv p.t) ∧ w.cell? (aq b (o + 3)) = some (iv p.c) ∧ w.cell? (aq b (o + 4)) = some (iv p.u) ∧ w.cell? (aq b (o + 5)) = some (iv p.o)
def stepsAt (w : World) (a : Option Addr) (len : Nat) (ps : List Stp) : Prop :=
 ps.length = len ∧ (ps ≠ [] → ∃ b off, a = some (aq b off) ∧ b < w.heap.size ∧ ∀ i, i < len → stpAt w b (off + i * 6) (ps.getD i stp0))
theorem stpAt_keep {w w' : World} {b o : Nat} {p : Stp} (h : stpAt w b o p) (hk : w'.heap[b]? = w.heap[b]?) : stpAt w' b o p := by
 obtain ⟨a0, a1, a2, a3, a4, a5⟩ := h
 exact ⟨(World.cell?_of_block (a := (aq b o)) hk).trans a0, (World.cell?_of_block (a := (aq b (o + 1))) hk).trans a1, (World.cell?_of_block (a := (aq b (o + 2))) hk).trans a2, (World.cell?_of_block (a := (aq b (o + 3))) hk).trans a3, (World.cell?_of_block (a := (aq b (o + 4))) hk).trans a4, (World.cell?_of_block (a := (aq b (o + 5))) hk).trans a5⟩
theorem stepsAt.below {w w' : World} {a : Option Addr} {len : Nat} {ps : List Stp} (h : stepsAt w a len ps) (hb : Below w.heap.size w w') : stepsAt w' a len ps := by
 refine ⟨h.1, fun hn => ?_⟩
 obtain ⟨b, off, e, hbw, hc⟩ := h.2 hn
 exact ⟨b, off, e, Nat.lt_of_lt_of_le hbw hb.size, fun i hi => stpAt_keep (hc i hi) (hb.block b hbw)⟩
theorem Tryz.cellsCase : Tryz.prog.cellsOf 27 = 9 := by kernel_rfl
theorem Tryz.cellsStep : Tryz.prog.cellsOf 41 = 6 := by kernel_rfl
theorem Tryz.cellsSteps : Tryz.prog.cellsOf 25 = 1 := by kernel_rfl
theorem Tryz.bytesStep : Tryz.prog.bytesOf 41 = 48 := by kernel_rfl
theorem array9 {α : Type} {cs : Array α} (h : cs.size = 9) : ∃ c0 c1 c2 c3 c4 c5 c6 c7 c8, cs = #[c0, c1, c2, c3, c4, c5, c6, c7, c8] := by
 obtain ⟨l⟩ := cs
 match l, h with
 | [c0, c1, c2, c3, c4, c5, c6, c7, c8], _ => exact ⟨c0, c1, c2, c3, c4, c5, c6, c7, c8, rfl⟩
theorem fields_open {H : Type} {enc : TypeId × Value → H} {w : World} {held : Bool} {t : TypeId} {fs : Array Field} {fuel : Nat} {cs : List Value} {x : DataW H × List MemPlace}
 (he : Tryz.prog.underlying t = some (.struct fs)) (h : DataW.trod enc Tryz.prog w 0 (fun _ => true) held fuel t cs = some x) (hw : wOK t x.1) :
 ∃ (xs : List (DataW H × List MemPlace)) (n : Nat), xs.length = fs.size ∧ (∀ (k : Nat) (f : Field), fs[k]? = some f → DataW.trod enc Tryz.prog w 0 (fun _ => true) held n f.type ((cs.drop f.offset).take (Tryz.prog.cellsOf f.type)) = xs[k]?) ∧ (∀ (k : Nat) (f : Field) y, fs[k]? = some f → xs[k]? = some y → wOK f.type y.1) := by
 obtain ⟨xs, m, _, hy, _, hxl, hxf⟩ := DataW.trod_struct he h
 refine ⟨xs, m, hxl, hxf, fun k f y hf hy' => ?_⟩
 rw [hy] at hw
 exact wOK_agg he hw hf (by simp [hy'])
theorem steps_open {H : Type} {enc : TypeId × Value → H} {w : World} {held : Bool} {fuel : Nat} {a : Option Addr} {len cap : Nat} {x : DataW H × List MemPlace}
 (h : DataW.trod enc Tryz.prog w 0 (fun _ => true) held fuel 25 [.slice a len cap] = some x) (hw : wOK 25 x.1) : ∃ ps, stepsAt w a len ps ∧ (∀ p ∈ ps, p.fine) ∧ len * 48 ≤ 140737488351232 := by
 rcases rows_open Tryz.underlying25 Tryz.underlying41 Tryz.cellsStep h hw with ⟨rfl, rfl, rfl⟩ | ⟨ad, rfl, hlc, hb, hrow⟩
 ·exact ⟨[], ⟨rfl, fun h => absurd rfl h⟩, fun p hp => by simp at hp, by omega⟩
 ·rw [Tryz.bytesStep] at hb
  have hb' : len * 48 ≤ 140737488351232 := by simp only [reachBytes] at hb; omega
  by_cases h0 : len = 0
  ·subst h0
   exact ⟨[], ⟨rfl, fun h => absurd rfl h⟩, fun p hp => by simp at hp, by omega⟩
  obtain ⟨b, off, rfl⟩ : ∃ b off, ad = (aq b off) := by
   obtain ⟨cs, xs, n, hcl, hcc, _⟩ := hrow 0 (by omega)
   have := hcc 0 (by omega)
   rw [List.getElem?_eq_getElem (by omega)] at this
   exact addr_plain (by simpa using this)
  have hall : ∀ i, i < len → ∃ q : Stp, stpAt w b (off + i * 6) q ∧ q.fine := by
   intro i hi
   obtain ⟨cs, xs, n, hcl, hcc, hxl, hf, hwt⟩ := hrow i hi
   have hxl' : xs.length = 2 := hxl
   obtain ⟨n0, e0, b0⟩ := int_field (k := 0) (by omega) (hf 0 _ rfl) (some_at hxl' (by omega))
   obtain ⟨z, hz⟩ := Option.isSome_iff_exists.1 (some_at hxl' (show 1 < 2 by omega))
   have h1 : DataW.trod enc Tryz.prog w 0 (fun _ => true) held n 39 ((cs.drop 1).take (Tryz.prog.cellsOf 39)) = xs[1]? := hf 1 _ rfl
   have hw1 : wOK 39 z.1 := hwt 1 _ z rfl hz
   rw [hz, Tryz.cellsReq] at h1
   have hdl : ((cs.drop 1).take 5).length = 5 := by simp; omega
   obtain ⟨ys, m, hyl, hyf, _⟩ := fields_open Tryz.underlying39 h1 hw1
   have hyl' : ys.length = 5 := hyl
   obtain ⟨r0, q0, s0⟩ := int_field (k := 0) (by omega) (hyf 0 _ rfl) (some_at hyl' (by omega))
   obtain ⟨r1, q1, s1⟩ := int_field (k := 1) (by omega) (hyf 1 _ rfl) (some_at hyl' (by omega))
   obtain ⟨r2, q2, s2⟩ := int_field (k := 2) (by omega) (hyf 2 _ rfl) (some_at hyl' (by omega))
   obtain ⟨r3, q3, s3⟩ := int_field (k := 3) (by omega) (hyf 3 _ rfl) (some_at hyl' (by omega))
   obtain ⟨r4, q4, s4⟩ := int_field (k := 4) (by omega) (hyf 4 _ rfl) (some_at hyl' (by omega))
   have hq : ∀ j, j < 5 → ((cs.drop 1).take 5)[j]? = cs[1 + j]? := fun j hj => by rw [List.getElem?_take_of_lt hj, List.getElem?_drop]
   rw [hq _ (by omega)] at q0 q1 q2 q3 q4
   have hc : ∀ j, j < 6 → w.cell? (aq b (off + i * 6 + j)) = cs[j]? := fun j hj => by rw [← hcc j hj, Addr.add_lit, Nat.add_assoc]
   exact ⟨⟨n0, r0, r1, r2, r3, r4⟩, ⟨(hc 0 (by omega)).trans e0, (hc 1 (by omega)).trans q0, (hc 2 (by omega)).trans q1, (hc 3 (by omega)).trans q2, (hc 4 (by omega)).trans q3, (hc 5 (by omega)).trans q4⟩, ⟨b0.1, by show n0 < _; omega⟩, ⟨s0.1, by show r0 < _; omega⟩, ⟨s1.1, by show r1 < _; omega⟩, ⟨s2.1, by show r2 < _; omega⟩, ⟨s3.1, by show r3 < _; omega⟩, ⟨s4.1, by show r4 < _; omega⟩⟩
  obtain ⟨f, hff⟩ := @Deep.choose_lt Stp ⟨stp0⟩ _ _ hall
  refine ⟨(List.range len).map f, ⟨by simp, fun _ => ⟨b, off, rfl, World.block_lt_of_cell? w _ (hff 0 (by omega)).1.1, fun i hi => ?_⟩⟩, fun p hp => ?_, hb'⟩
  ·rw [getD_map f stp0 hi]; exact (hff i hi).1
  ·obtain ⟨i, hi, rfl⟩ := List.mem_map.1 hp
   exact (hff i (List.mem_range.1 hi)).2
theorem case_open {H : Type} {enc : TypeId × Value → H} {w : World} {held : Bool} {r : Reach} {b0 : Nat} {v : Value} {d : DataW H} {p : List MemPlace}
 (hv : Value.okWide Tryz.prog w r b0 27 v) (h : DataW.Trod enc Tryz.prog w 0 (fun _ => true) held 27 v d p) (hw : wOK 27 d) :
 ∃ (n0 n1 n2 n3 n4 n5 n6 : Int) (a : Option Addr) (len cap : Nat) (ts : List (Int × Int)) (sa : Option Addr) (sl sc : Nat) (ps : List Stp), v = .agg #[iv n0, iv n1, iv n2, iv n3, iv n4, iv n5, iv n6, .slice a len cap, .slice sa sl sc] ∧ tiersAt w a len cap ts ∧ stepsAt w sa sl ps ∧ (∀ p ∈ ps, p.fine) ∧ sl * 48 ≤ 140737488351232 := by
 obtain ⟨cs, rfl, hsz⟩ := okWide_struct Tryz.underlying27 hv
 rw [Tryz.cellsCase] at hsz
 obtain ⟨c0, c1, c2, c3, c4, c5, c6, c7, c8, rfl⟩ := array9 hsz
 obtain ⟨fuel, hf⟩ := h
 obtain ⟨xs, n, hxl, hxf, hwt⟩ := fields_open Tryz.underlying27 hf hw
 have hxl' : xs.length = 2 := hxl
 obtain ⟨z0, hz0⟩ := Option.isSome_iff_exists.1 (some_at hxl' (show 0 < 2 by omega))
 obtain ⟨z1, hz1⟩ := Option.isSome_iff_exists.1 (some_at hxl' (show 1 < 2 by omega))
 have h0 : DataW.trod enc Tryz.prog w 0 (fun _ => true) held n 24 (([c0, c1, c2, c3, c4, c5, c6, c7, c8].drop 0).take (Tryz.prog.cellsOf 24)) = xs[0]? := hxf 0 _ rfl
 have h1 : DataW.trod enc Tryz.prog w 0 (fun _ => true) held n 25 (([c0, c1, c2, c3, c4, c5, c6, c7, c8].drop 8).take (Tryz.prog.cellsOf 25)) = xs[1]? := hxf 1 _ rfl
 have hw0 : wOK 24 z0.1 := hwt 0 _ z0 rfl hz0
 have hw1 : wOK 25 z1.1 := hwt 1 _ z1 rfl hz1
 rw [hz0, Tryz.cellsCfg] at h0
 rw [hz1, Tryz.cellsSteps] at h1
 have e0 : ([c0, c1, c2, c3, c4, c5, c6, c7, c8].drop 0).take 8 = [c0, c1, c2, c3, c4, c5, c6, c7] := rfl
 have e1 : ([c0, c1, c2, c3, c4, c5, c6, c7, c8].drop 8).take 1 = [c8] := rfl
 rw [e0] at h0
 rw [e1] at h1
 obtain ⟨ys, m, hyl, hyf, hyt⟩ := fields_open Tryz.underlying24 h0 hw0
 have hyl' : ys.length = 8 := hyl
 obtain ⟨n0, q0, _⟩ := int_field (k := 0) (by simp) (hyf 0 _ rfl) (some_at hyl' (by omega))
 obtain ⟨n1, q1, _⟩ := int_field (k := 1) (by simp) (hyf 1 _ rfl) (some_at hyl' (by omega))
 obtain ⟨n2, q2, _⟩ := int_field (k := 2) (by simp) (hyf 2 _ rfl) (some_at hyl' (by omega))
 obtain ⟨n3, q3, _⟩ := int_field (k := 3) (by simp) (hyf 3 _ rfl) (some_at hyl' (by omega))
 obtain ⟨n4, q4, _⟩ := int_field (k := 4) (by simp) (hyf 4 _ rfl) (some_at hyl' (by omega))
 obtain ⟨n5, q5, _⟩ := int_field (k := 5) (by simp) (hyf 5 _ rfl) (some_at hyl' (by omega))
 obtain ⟨n6, q6, _⟩ := int_field (k := 6) (by simp) (hyf 6 _ rfl) (some_at hyl' (by omega))
 obtain ⟨z, hz⟩ := Option.isSome_iff_exists.1 (some_at hyl' (show 7 < 8 by omega))
 have h7 : DataW.trod enc Tryz.prog w 0 (fun _ => true) held m 22 (([c0, c1, c2, c3, c4, c5, c6, c7].drop 7).take (Tryz.prog.cellsOf 22)) = ys[7]? := hyf 7 _ rfl
 have hw7 : wOK 22 z.1 := hyt 7 _ z rfl hz
 rw [hz, Tryz.cellsTiers] at h7
 have e7 : ([c0, c1, c2, c3, c4, c5, c6, c7].drop 7).take 1 = [c7] := rfl
 rw [e7] at h7
 obtain ⟨a, l, c, hs⟩ : ∃ a l c, [c7] = [Value.slice a l c] := by
  rcases DataW.trod_slice Tryz.underlying22 h7 with ⟨hcs, _⟩ | ⟨ad, l, cp, _, _, _, _, hcs, _⟩
  ·exact ⟨_, _, _, hcs⟩
  ·exact ⟨_, _, _, hcs⟩
 obtain ⟨sa, sl, sc, hss⟩ : ∃ a l c, [c8] = [Value.slice a l c] := by
  rcases DataW.trod_slice Tryz.underlying25 h1 with ⟨hcs, _⟩ | ⟨ad, l, cp, _, _, _, _, hcs, _⟩
  ·exact ⟨_, _, _, hcs⟩
  ·exact ⟨_, _, _, hcs⟩
 rw [hs] at h7
 rw [hss] at h1
 obtain ⟨ts, hts, _⟩ := tiers_open h7 hw7
 obtain ⟨ps, hps, hfine, hl⟩ := steps_open h1 hw1
 simp at q0 q1 q2 q3 q4 q5 q6 hs hss
 subst q0 q1 q2 q3 q4 q5 q6 hs hss
 exact ⟨n0, n1, n2, n3, n4, n5, n6, a, l, c, ts, sa, sl, sc, ps, rfl, hts, hps, hfine, hl⟩
end
theorem steps_at {W : World} {sa : Option Addr} {n j : Nat} {ps : List Stp} (h : stepsAt W sa n ps) (hj : j < n) : ∃ b off, sa = some (aq b off) ∧ b < W.heap.size ∧ stpAt W b (off + j * 6) (ps.getD j stp0) := by
 obtain ⟨b, off, e, hb, hc⟩ := h.2 (by intro e; have := h.1; rw [e] at this; simp at this; omega)
 exact ⟨b, off, e, hb, hc j hj⟩
theorem fresh_k (n m : Nat) (v0 v1 v2 v3 v4 v5 v6 v7 : Value) (sa : Option Addr) (sc : Nat) (ps : List Stp) (w : World) (hn : n ≤ 4611686018427387904) (hm : m < n) (hps : stepsAt w sa n ps) (fr : Bool) (hfr : Hid (fr = true ↔ ∀ k, k < m → (ps.getD k stp0).t ≠ (ps.getD m stp0).t)) :
 Calls Tryz.prog 11 #[.agg #[v0, v1, v2, v3, v4, v5, v6, v7, .slice sa n sc], iv m] w fun e w' => e = .returned (.bool fr) ∧ Below w.heap.size w w' := by
 have HS : Hid (∀ W, Below w.heap.size w W → stepsAt W sa n ps) := fun W hW => hps.below hW
 have hB0 : Hid (Below w.heap.size w (w.alloc (.cells #[v0, v1, v2, v3, v4, v5, v6, v7, .slice sa n sc] 27))) := (Below.refl _ _).alloc (Nat.le_refl _) _
 have xb0 : Hid ((w.alloc (.cells #[v0, v1, v2, v3, v4, v5, v6, v7, .slice sa n sc] 27)).heap[w.heap.size]? = some (.cells #[v0, v1, v2, v3, v4, v5, v6, v7, .slice sa n sc] 27 (0, 0))) := heap_alloc_new w _
 clear hps
 go_enter Tryz.func11, Tryz.ntmps11
 go_wp2_with fail
 generalize w.alloc (.cells #[v0, v1, v2, v3, v4, v5, v6, v7, .slice sa n sc] 27) = W0 at hB0 xb0 ⊢
 go_loopw [5] (fun i wr => ∃ j : Nat, j ≤ m ∧ i = iv j ∧ Hid (∀ k, k < j → (ps.getD k stp0).t ≠ (ps.getD m stp0).t) ∧ Hid (Below w.heap.size w wr) ∧ Hid (wr.heap[w.heap.size]? = some (.cells #[v0, v1, v2, v3, v4, v5, v6, v7, .slice sa n sc] 27 (0, 0)))) (fun i _ => m - (intOf i).toNat)
 case atStart => exact ⟨0, Nat.zero_le _, rfl, fun k hk => by omega, hB0, xb0⟩
 case round =>
  obtain ⟨j, hj, rfl, hno, hB, xb⟩ := hrel
  clear hB0 xb0
  obtain ⟨k0, k1, k2, k3, k4, k5, k6, k7, k8⟩ := nineK xb.out
  have lx : w.heap.size < wr.heap.size := (blt xb.out)
  by_cases hlt : j < m
  ·obtain ⟨b, off, rfl, hb, s0, s1, s2, s3, s4, s5⟩ := steps_at (HS.out wr hB.out) (show j < n by omega)
   obtain ⟨b', off', e, _, r0, r1, r2, r3, r4, r5⟩ := steps_at (HS.out wr hB.out) hm
   simp only [Option.some.injEq, Addr.mk.injEq] at e
   obtain ⟨rfl, rfl, _⟩ := e
   have bj0 : (0 : Int) ≤ (j : Int) := by omega
   have bj1 : (j : Int) < (m : Int) := by omega
   have bj2 : (j : Int) < (n : Int) := by omega
   have bm0 : (0 : Int) ≤ (m : Int) := by omega
   have bm1 : (m : Int) < (n : Int) := by omega
   have hwj : IntKind.i64.wrap ((j : Int) + 1) = (j : Int) + 1 := wrap_in (by omega) (by omega)
   have HY : Hid ((ps.getD j stp0).t = (ps.getD m stp0).t → fr = false) := fun e => by
    cases hf : fr
    ·rfl
    ·exact absurd e (hfr.out.1 hf j hlt)
   have HN : Hid ((ps.getD j stp0).t ≠ (ps.getD m stp0).t → ∀ k, k < j + 1 → (ps.getD k stp0).t ≠ (ps.getD m stp0).t) := fun e k hk => by
    by_cases ek : k = j
    ·rw [ek]; exact e
    ·exact hno.out k (by omega)
   have HNX : Hid (∀ wr', Below w.heap.size w wr' → wr'.heap[w.heap.size]? = some (.cells #[v0, v1, v2, v3, v4, v5, v6, v7, .slice (some (aq b off)) n sc] 27 (0, 0)) → (∀ k, k < j + 1 → (ps.getD k stp0).t ≠ (ps.getD m stp0).t) → ∃ j' : Nat, j' ≤ m ∧ Value.int .i64 ((j : Int) + 1) = iv j' ∧ Hid (∀ k, k < j' → (ps.getD k stp0).t ≠ (ps.getD m stp0).t) ∧ Hid (Below w.heap.size w wr') ∧ Hid (wr'.heap[w.heap.size]? = some (.cells #[v0, v1, v2, v3, v4, v5, v6, v7, .slice (some (aq b off)) n sc] 27 (0, 0)))) := fun wr' e e' h => ⟨j + 1, by omega, by simp, h, e, e'⟩
   generalize (ps.getD j stp0).t = tj at s2 HY HN
   generalize hg : (ps.getD m stp0).t = tm at r2 HY HN HNX
   clear hg hno hfr HS s0 s1 s3 s4 s5 r0 r1 r3 r4 r5
   by_cases ht : tj = tm
   ·have hf := HY.out ht
    subst hf
    have et : (tj == tm) = true := by simpa using ht
    clear HY HN HNX
    go_wp2_with fail
    try go_quiet (fail)
    try go_wp2
    refine bodyPost_ret (v := .bool false) (by simp [results, Tryz.results11, go_sem]) rfl ⟨rfl, bL⟩
   ·have hf := HN.out ht
    have et : (tj == tm) = false := by simpa using ht
    replace hf : Hid _ := hf
    clear HY HN
    go_wp2_with fail
    try go_quiet (fail)
    try go_wp2_with fail
    go_roundw
    case rel => first | exact HNX.out _ bL xb.out hf.out | (rw [hwj]; exact HNX.out _ bL xb.out hf.out)
    case measure => simp [intOf]; omega
  ·have hje : j = m := by omega
   subst hje
   have hf : fr = true := hfr.out.2 hno.out
   subst hf
   clear hfr hno HS
   go_wp2
   refine bodyPost_ret (v := .bool true) (by simp [results, Tryz.results11, go_sem]) rfl ⟨rfl, bL⟩
def sumT (ps : List Stp) (i : Nat) : Nat → Int
 | 0 => 0
 | d + 1 => sumT ps i d + (if (ps.getD (i + 1 + d) stp0).k = 0 ∧ 0 < (ps.getD (i + 1 + d) stp0).n then (ps.getD (i + 1 + d) stp0).n else 0)
theorem sumT_nonneg (ps : List Stp) (i : Nat) : ∀ d, 0 ≤ sumT ps i d
 | 0 => Int.le_refl _
 | d + 1 => by
   have := sumT_nonneg ps i d
   unfold sumT
   split <;> omega
theorem sumT_mono (ps : List Stp) (i : Nat) : ∀ d e, d ≤ e → sumT ps i d ≤ sumT ps i e
 | d, 0, h => by
   have : d = 0 := by omega
   rw [this]; exact Int.le_refl _
 | d, e + 1, h => by
   by_cases hd : d = e + 1
   ·rw [hd]; exact Int.le_refl _
   ·have := sumT_mono ps i d e (by omega)
    have h2 : sumT ps i e ≤ sumT ps i (e + 1) := by
       rw [sumT]
       split <;> omega
    omega
theorem spent_k (n i j : Nat) (v0 v1 v2 v3 v4 v5 v6 v7 : Value) (sa : Option Addr) (sc : Nat) (ps : List Stp) (w : World) (hn : n ≤ 4611686018427387904) (hij : i ≤ j) (hj : j < n) (hps : stepsAt w sa n ps) (hfine : Hid (∀ k, k < n → (ps.getD k stp0).n < 9223372036854775808)) (far : Int) (hfar : Hid ((sumT ps i (j - i) < 4611686018427387904 → far = sumT ps i (j - i)) ∧ (4611686018427387904 ≤ sumT ps i (j - i) → far = 4611686018427387904))) :
 Calls Tryz.prog 12 #[.agg #[v0, v1, v2, v3, v4, v5, v6, v7, .slice sa n sc], iv i, iv j] w fun e w' => e = .returned (iv far) ∧ Below w.heap.size w w' := by
 have HS : Hid (∀ W, Below w.heap.size w W → stepsAt W sa n ps) := fun W hW => hps.below hW
 have hB0 : Hid (Below w.heap.size w (w.alloc (.cells #[v0, v1, v2, v3, v4, v5, v6, v7, .slice sa n sc] 27))) := (Below.refl _ _).alloc (Nat.le_refl _) _
 have xb0 : Hid ((w.alloc (.cells #[v0, v1, v2, v3, v4, v5, v6, v7, .slice sa n sc] 27)).heap[w.heap.size]? = some (.cells #[v0, v1, v2, v3, v4, v5, v6, v7, .slice sa n sc] 27 (0, 0))) := heap_alloc_new w _
 have hwi : IntKind.i64.wrap ((i : Int) + 1) = (i : Int) + 1 := wrap_in (by omega) (by omega)
 clear hps
 go_enter Tryz.func12, Tryz.ntmps12
 go_wp2_with fail
 generalize w.alloc (.cells #[v0, v1, v2, v3, v4, v5, v6, v7, .slice sa n sc] 27) = W0 at hB0 xb0 ⊢
 go_loopw [7, 8] (fun nv kv wr => ∃ m : Nat, i + 1 ≤ m ∧ m ≤ j + 1 ∧ kv = iv m ∧ nv = iv (sumT ps i (m - (i + 1))) ∧ Hid (sumT ps i (m - (i + 1)) < 4611686018427387904) ∧ Hid (Below w.heap.size w wr) ∧ Hid (wr.heap[w.heap.size]? = some (.cells #[v0, v1, v2, v3, v4, v5, v6, v7, .slice sa n sc] 27 (0, 0)))) (fun _ kv _ => (j + 1 - (intOf kv).toNat))
 case atStart => exact ⟨i + 1, Nat.le_refl _, by omega, by simp, by simp [sumT], by rw [Nat.sub_self]; exact (show (0 : Int) < 4611686018427387904 by decide), hB0, xb0⟩
 case round =>
  obtain ⟨m, hm0, hm1, rfl, rfl, hs, hB, xb⟩ := hrel
  clear hB0 xb0 hwi
  obtain ⟨k0, k1, k2, k3, k4, k5, k6, k7, k8⟩ := nineK xb.out
  have lx : w.heap.size < wr.heap.size := (blt xb.out)
  by_cases hlt : m ≤ j
  ·obtain ⟨b, off, rfl, hb, s0, s1, s2, s3, s4, s5⟩ := steps_at (HS.out wr hB.out) (show m < n by omega)
   have h0 := sumT_nonneg ps i (m - (i + 1))
   have hst : sumT ps i (m + 1 - (i + 1)) = sumT ps i (m - (i + 1)) + (if (ps.getD m stp0).k = 0 ∧ 0 < (ps.getD m stp0).n then (ps.getD m stp0).n else 0) := by
    have e1 : m + 1 - (i + 1) = (m - (i + 1)) + 1 := by omega
    have e2 : i + 1 + (m - (i + 1)) = m := by omega
    rw [e1, sumT, e2]
   have hmo := sumT_mono ps i (m + 1 - (i + 1)) (j - i) (by omega)
   have hup := hfine.out m (by omega)
   have bj0 : (0 : Int) ≤ (m : Int) := by omega
   have bj1 : (m : Int) < (n : Int) := by omega
   have bj2 : (m : Int) ≤ (j : Int) := by omega
   have hwj : IntKind.i64.wrap ((m : Int) + 1) = (m : Int) + 1 := wrap_in (by omega) (by omega)
   have HFE : Hid (4611686018427387904 ≤ sumT ps i (m + 1 - (i + 1)) → far = 4611686018427387904) := fun h => hfar.out.2 (by omega)
   have HNX : Hid (∀ wr' s', s' = sumT ps i (m + 1 - (i + 1)) → s' < 4611686018427387904 → Below w.heap.size w wr' → wr'.heap[w.heap.size]? = some (.cells #[v0, v1, v2, v3, v4, v5, v6, v7, .slice (some (aq b off)) n sc] 27 (0, 0)) → ∃ m' : Nat, i + 1 ≤ m' ∧ m' ≤ j + 1 ∧ Value.int .i64 ((m : Int) + 1) = iv m' ∧ Value.int .i64 s' = iv (sumT ps i (m' - (i + 1))) ∧ Hid (sumT ps i (m' - (i + 1)) < 4611686018427387904) ∧ Hid (Below w.heap.size w wr') ∧ Hid (wr'.heap[w.heap.size]? = some (.cells #[v0, v1, v2, v3, v4, v5, v6, v7, .slice (some (aq b off)) n sc] 27 (0, 0)))) := fun wr' s' e hlt e1 e2 => ⟨m + 1, by omega, by omega, by simp, by rw [e], e ▸ hlt, e1, e2⟩
   generalize sumT ps i (m + 1 - (i + 1)) = t1 at hst hmo HFE HNX
   generalize sumT ps i (m - (i + 1)) = t0 at hs h0 hst ⊢
   generalize ps.getD m stp0 = pj at s0 s1 s2 s3 s4 s5 hst hup
   obtain ⟨pn, pk, pt, pc, pu, po⟩ := pj
   simp only at s0 s1 s2 s3 s4 s5 hst hup
   have hs' := hs.out
   have hw1 : IntKind.i64.wrap (4611686018427387904 - t0) = 4611686018427387904 - t0 := wrap_in (by omega) (by omega)
   have hba : Hid (Below w.heap.size w (wr.alloc (.cells #[iv pn, iv pk, iv pt, iv pc, iv pu, iv po] 41))) := hB.out.alloc (by omega) _
   have xba : Hid ((wr.alloc (.cells #[iv pn, iv pk, iv pt, iv pc, iv pu, iv po] 41)).heap[w.heap.size]? = _) := (Below.heap_alloc _ _ _ lx).trans xb.out
   clear hfar HS hfine hs xb hB hmo
   by_cases hc0 : pk = 0
   ·by_cases hc1 : 0 < pn
    ·rw [if_pos ⟨hc0, hc1⟩] at hst
     by_cases hc2 : 4611686018427387904 - t0 ≤ pn
     ·have hf : far = 4611686018427387904 := HFE.out (by omega)
      subst hf hc0
      clear HFE HNX hst hs' hup
      go_wp2
      refine bodyPost_ret (v := iv 4611686018427387904) (by simp [results, Tryz.results12, go_sem]) rfl ⟨rfl, bL⟩
     ·have hw2 : IntKind.i64.wrap (t0 + pn) = t0 + pn := wrap_in (by omega) (by omega)
      have HN1 : Hid _ := HNX.out (wr.alloc (.cells #[iv pn, iv pk, iv pt, iv pc, iv pu, iv po] 41)) (t0 + pn) hst.symm (by omega) hba.out xba.out
      clear HFE HNX hst hs' hup hba xba
      subst hc0
      go_wp2_with fail
      go_roundw
      case rel => first | exact HN1.out | (rw [hwj]; exact HN1.out)
      case measure => simp [intOf]; omega
    ·rw [if_neg (fun c => hc1 c.2)] at hst
     have HN1 : Hid _ := HNX.out (wr.alloc (.cells #[iv pn, iv pk, iv pt, iv pc, iv pu, iv po] 41)) t0 (by omega) (by omega) hba.out xba.out
     clear HFE HNX hst hs' hup hba xba
     subst hc0
     go_wp2_with fail
     go_roundw
     case rel => first | exact HN1.out | (rw [hwj]; exact HN1.out)
     case measure => simp [intOf]; omega
   ·rw [if_neg (fun c => hc0 c.1)] at hst
    have e0 : (pk == 0) = false := by simpa using hc0
    have HN1 : Hid _ := HNX.out (wr.alloc (.cells #[iv pn, iv pk, iv pt, iv pc, iv pu, iv po] 41)) t0 (by omega) (by omega) hba.out xba.out
    clear HFE HNX hst hs' hup hba xba
    go_wp2_with fail
    go_roundw
    case rel => first | exact HN1.out | (rw [hwj]; exact HN1.out)
    case measure => simp [intOf]; omega
  ·have hme : m = j + 1 := by omega
   subst hme
   have bj2 : ¬ ((j + 1 : Nat) : Int) ≤ (j : Int) := by omega
   have bj3 : ¬ (j : Int) + 1 ≤ (j : Int) := by omega
   have hf : far = sumT ps i (j + 1 - (i + 1)) := by
    have e : j + 1 - (i + 1) = j - i := by omega
    have hs' := hs.out
    rw [e] at hs' ⊢
    exact hfar.out.1 hs'
   generalize sumT ps i (j + 1 - (i + 1)) = t0 at hf hs ⊢
   subst hf
   clear hfar HS hfine
   go_wp2
   refine bodyPost_ret (v := iv far) (by simp [results, Tryz.results12, go_sem]) rfl ⟨rfl, bL⟩
end Go.Proofs.YtfhncfghblkgeabGreat
