import Derived.Test.YtfhncfghblkgeabGreatL06
set_option maxRecDepth 100000
set_option maxHeartbeats 2000000
namespace Go.Proofs.YtfhncfghblkgeabGreat
open Go.RowKit
theorem fiveK {w : World} {R : Nat} {c0 c1 c2 c3 c4 : Value} {T : TypeId} (h : w.heap[R]? = some (.cells #[c0, c1, c2, c3, c4] T (0, 0))) : w.cell? (aq R 0) = some c0 ∧ w.cell? (aq R 1) = some c1 ∧ w.cell? (aq R 2) = some c2 ∧ w.cell? (aq R 3) = some c3 ∧ w.cell? (aq R 4) = some c4 := by
 refine ⟨?_, ?_, ?_, ?_, ?_⟩ <;> rw [Joins.cell_of_block h] <;> rfl
theorem fourK {w : World} {R : Nat} {c0 c1 c2 c3 : Value} {T : TypeId} (h : w.heap[R]? = some (.cells #[c0, c1, c2, c3] T (0, 0))) : w.cell? (aq R 0) = some c0 ∧ w.cell? (aq R 1) = some c1 ∧ w.cell? (aq R 2) = some c2 ∧ w.cell? (aq R 3) = some c3 := by
 refine ⟨?_, ?_, ?_, ?_⟩ <;> rw [Joins.cell_of_block h] <;> rfl
theorem alloc_two (w : World) (A B : Array Value) {T U : TypeId} : ((w.alloc (.cells A T)).alloc (.cells B U)).heap[w.heap.size + 1]? = some (.cells B U (0, 0)) := by
 have h := heap_alloc_new (w.alloc (.cells A T)) (.cells B U)
 rwa [show (w.alloc (.cells A T)).heap.size = w.heap.size + 1 by simp] at h
theorem five_set {w W : World} {c0 c1 c2 c3 c4 : Value} {T : TypeId} {O : Obj} (hb : Below w.heap.size w W) (h : W.heap[w.heap.size]? = some (.cells #[c0, c1, c2, c3, c4] T (0, 0))) (hp : W.heap[w.heap.size + 1]? = some O) (v0 v1 v2 v3 v4 : Value) :
 ∃ W2, (((((W.setCell (aq w.heap.size 0) v0).setCell (aq w.heap.size 1) v1).setCell (aq w.heap.size 2) v2).setCell (aq w.heap.size 3) v3).setCell (aq w.heap.size 4) v4) = W2 ∧ Below w.heap.size w W2 ∧ W2.heap[w.heap.size]? = some (.cells #[v0, v1, v2, v3, v4] T (0, 0)) ∧ W2.heap[w.heap.size + 1]? = some O := by
 refine ⟨_, rfl, below_set5 hb (Nat.le_refl _), ?_, ?_⟩
 ·have h2 := Joins.block_setCell (i := 0) h v0
  have h3 := Joins.block_setCell (i := 1) h2 v1
  have h4 := Joins.block_setCell (i := 2) h3 v2
  have h5 := Joins.block_setCell (i := 3) h4 v3
  exact Joins.block_setCell (i := 4) h5 v4
 ·have k : ∀ (W : World) (i : Nat) (v : Value), (W.setCell (aq w.heap.size i) v).heap[w.heap.size + 1]? = W.heap[w.heap.size + 1]? := fun W i v => Below.heap_setCell _ (aq w.heap.size i) _ _ (by show w.heap.size + 1 ≠ w.heap.size; omega)
  rw [k, k, k, k, k]
  exact hp
theorem below_drewN {B n : Nat} {w w1 : World} (h : Below B w w1) : Below B w (w1.drewN n) := h.trans ⟨rfl, rfl, rfl, Nat.le_refl _, fun _ _ => rfl⟩
def tiersAt (w : World) (a : Option Addr) (len cap : Nat) (ts : List (Int × Int)) : Prop :=
 ts.length = len ∧ len ≤ cap ∧ cap * 16 ≤ 140737488355328 ∧ (a = none → len = 0 ∧ cap = 0) ∧
 (ts ≠ [] → ∃ b off, a = some (aq b off) ∧ b < w.heap.size ∧ ∀ i, i < len → w.cell? (aq b (off + i * 2)) = some (iv (ts.getD i (0, 0)).1) ∧ w.cell? (aq b (off + i * 2 + 1)) = some (iv (ts.getD i (0, 0)).2))
theorem tiersAt.below {w w' : World} {a : Option Addr} {len cap B : Nat} {ts : List (Int × Int)} (h : tiersAt w a len cap ts) (hb : Below B w w') (hB : w.heap.size ≤ B) : tiersAt w' a len cap ts := by
 obtain ⟨h1, h2, h3, h4, h5⟩ := h
 refine ⟨h1, h2, h3, h4, fun hn => ?_⟩
 obtain ⟨b, off, ha, hbw, hc⟩ := h5 hn
 exact ⟨b, off, ha, Nat.lt_of_lt_of_le hbw hb.size, fun i hi => ⟨(hb.cell (p := (aq b (off + i * 2))) (Nat.lt_of_lt_of_le hbw hB)).trans (hc i hi).1, (hb.cell (p := (aq b (off + i * 2 + 1))) (Nat.lt_of_lt_of_le hbw hB)).trans (hc i hi).2⟩⟩
def tierB (ts : List (Int × Int)) (i : Nat) : Bool :=
 decide (1 ≤ (ts.getD i (0, 0)).2) && decide ((ts.getD i (0, 0)).2 ≤ 1073741824) && decide ((ts.getD i (0, 0)).1 ≤ 4294967296) &&
  (if i = 0 then (ts.getD i (0, 0)).1 == 0 else decide ((ts.getD (i - 1) (0, 0)).1 < (ts.getD i (0, 0)).1))
def pricesB (ts : List (Int × Int)) : Bool := decide (1 ≤ ts.length) && decide (ts.length ≤ 4) && (List.range ts.length).all (tierB ts)
theorem pricesB_short {ts : List (Int × Int)} (h : ¬ (1 ≤ ts.length ∧ ts.length ≤ 4)) : pricesB ts = false := by
 unfold pricesB
 by_cases h1 : 1 ≤ ts.length
 ·have : ¬ ts.length ≤ 4 := fun h2 => h ⟨h1, h2⟩
  simp [this]
 ·simp [h1]
theorem pricesB_not {ts : List (Int × Int)} {k : Nat} (hk : k < ts.length) (h : tierB ts k = false) : pricesB ts = false := by
 unfold pricesB
 have : (List.range ts.length).all (tierB ts) = false := by
  rw [List.all_eq_false]
  exact ⟨k, List.mem_range.2 hk, by simp [h]⟩
 simp [this]
theorem pricesB_yes {ts : List (Int × Int)} (h1 : 1 ≤ ts.length) (h4 : ts.length ≤ 4) (h : ∀ j, j < ts.length → tierB ts j = true) : pricesB ts = true := by
 unfold pricesB
 have : (List.range ts.length).all (tierB ts) = true := by
  rw [List.all_eq_true]
  exact fun j hj => h j (List.mem_range.1 hj)
 simp [this, h1, h4]
theorem all_succ {p : Nat → Bool} {k : Nat} (h : ∀ j, j < k → p j = true) (hk : p k = true) : ∀ j, j < k + 1 → p j = true := by
 intro j hj
 by_cases e : j = k
 ·rw [e]; exact hk
 ·exact h j (by omega)
theorem rnumber_any (n : Int) (w : World) :
 Calls Tryz.prog 59 #[iv n] w fun e w' => e = .returned (.bool (numB n)) ∧ w = w' := by
 by_cases h : 1 ≤ n
 ·go_enter Tryz.func59, Tryz.ntmps59
  go_wp2
  go_ret
  exact ⟨by simp [numB, h], rfl⟩
 ·have hd : decide (1 ≤ n) = false := by simpa using h
  go_enter Tryz.func59, Tryz.ntmps59
  go_wp2
  go_ret
  exact ⟨by simp [numB, hd], rfl⟩
theorem tierB_no {ts : List (Int × Int)} {k : Nat} {f c : Int} (hf : (ts.getD k (0, 0)).1 = f) (hc : (ts.getD k (0, 0)).2 = c) (h : c < 1 ∨ 1073741824 < c ∨ 4294967296 < f) : tierB ts k = false := by
 unfold tierB
 rw [hf, hc]
 rcases h with h | h | h
 ·have : decide (1 ≤ c) = false := by simp; omega
  simp [this]
 ·have : decide (c ≤ 1073741824) = false := by simp; omega
  simp [this]
 ·have : decide (f ≤ 4294967296) = false := by simp; omega
  simp [this]
theorem tierB_zero {ts : List (Int × Int)} {f c : Int} (hf : (ts.getD 0 (0, 0)).1 = f) (hc : (ts.getD 0 (0, 0)).2 = c) (h1 : 1 ≤ c) (h2 : c ≤ 1073741824) (h3 : f ≤ 4294967296) : tierB ts 0 = (f == 0) := by
 unfold tierB
 rw [hf, hc]
 simp [h1, h2, h3]
theorem tierB_succ {ts : List (Int × Int)} {k : Nat} {f c q : Int} (hk : ¬ k = 0) (hf : (ts.getD k (0, 0)).1 = f) (hc : (ts.getD k (0, 0)).2 = c) (hq : (ts.getD (k - 1) (0, 0)).1 = q) (h1 : 1 ≤ c) (h2 : c ≤ 1073741824) (h3 : f ≤ 4294967296) : tierB ts k = decide (q < f) := by
 unfold tierB
 rw [hf, hc, hq]
 simp [h1, h2, h3, hk]
theorem arePrices_some (b off len cap : Nat) (ts : List (Int × Int)) (w : World) (hl : ts.length = len) (h1 : 1 ≤ len) (h4 : len ≤ 4)
 (hcell : ∀ i, i < len → w.cell? (aq b (off + i * 2)) = some (iv (ts.getD i (0, 0)).1) ∧ w.cell? (aq b (off + i * 2 + 1)) = some (iv (ts.getD i (0, 0)).2)) :
 Calls Tryz.prog 58 #[.slice (some (aq b off)) len cap] w fun e w' => e = .returned (.bool (pricesB ts)) ∧ Below w.heap.size w w' := by
 have h1' : (0 : Int) < (len : Int) := by omega
 have hd1 : decide ((len : Int) < 1) = false := by simp; omega
 have hd2 : decide (4 < (len : Int)) = false := by simp; omega
 have hc0 := (hcell 0 (by omega)).1
 simp only [Nat.zero_mul, Nat.add_zero] at hc0
 have hbw : b < w.heap.size := World.block_lt_of_cell? w _ hc0
 generalize hf0 : (ts.getD 0 (0, 0)).1 = f0 at hc0
 have HF0 : Hid ((ts.getD 0 (0, 0)).1 = f0) := hf0
 clear hf0
 by_cases hz : f0 = 0
 ·subst hz
  go_enter Tryz.func58, Tryz.ntmps58
  go_wp2
  clear hc0
  go_loopw [3] (fun i wr => ∃ k : Nat, k ≤ len ∧ i = iv k ∧ Hid (∀ j, j < k → tierB ts j = true) ∧ Below w.heap.size w wr) (fun i _ => len - (intOf i).toNat)
  case atStart => exact ⟨0, Nat.zero_le _, rfl, fun _ h => by omega, Below.refl _ _⟩
  case round =>
   obtain ⟨k, hk, rfl, hall, hbel⟩ := hrel
   by_cases hlt : k < len
   ·have hkl : k < ts.length := by omega
    have hcf := (hbel.cell (p := (aq b (off + k * 2))) hbw).trans (hcell k hlt).1
    have hcc := (hbel.cell (p := (aq b (off + k * 2 + 1))) hbw).trans (hcell k hlt).2
    generalize hf : (ts.getD k (0, 0)).1 = f at hcf
    generalize hc : (ts.getD k (0, 0)).2 = c at hcc
    have HF : Hid ((ts.getD k (0, 0)).1 = f) := hf
    have HC : Hid ((ts.getD k (0, 0)).2 = c) := hc
    clear hf hc
    by_cases b1 : 1 ≤ c
    ·by_cases b2 : c ≤ 1073741824
     ·by_cases b3 : f ≤ 4294967296
      ·by_cases hk0 : k = 0
       ·subst hk0
        have HT : Hid (tierB ts 0 = true) := by unfold Hid; rw [tierB_zero HF.out HC.out b1 b2 b3, ← HF.out, HF0.out]; rfl
        simp only [Nat.zero_mul, Nat.add_zero] at hcf hcc
        clear hcell
        go_wp2
        go_quiet (fail)
        go_wp2
        go_roundw
        case rel => exact ⟨1, by omega, rfl, all_succ hall.out HT.out, Below.trans hbel ⟨rfl, rfl, rfl, Nat.le_refl _, fun _ _ => rfl⟩⟩
        case measure => simp [intOf]; omega
       ·obtain ⟨m, rfl⟩ : ∃ m, k = m + 1 := ⟨k - 1, by omega⟩
        have hcq := (hbel.cell (p := (aq b (off + m * 2))) hbw).trans (hcell m (by omega)).1
        generalize hq : (ts.getD m (0, 0)).1 = q at hcq
        have HT : Hid (tierB ts (m + 1) = decide (q < f)) := tierB_succ hk0 HF.out HC.out hq b1 b2 b3
        have hkp : (0 : Int) < (m : Int) + 1 := by omega
        clear hq hcell
        by_cases hqf : q < f
        ·have HT' : Hid (tierB ts (m + 1) = true) := by unfold Hid; rw [HT.out]; simpa using hqf
         go_wp2
         go_quiet (fail)
         go_wp2
         go_roundw
         case rel => exact ⟨m + 1 + 1, by omega, by go_num, all_succ hall.out HT'.out, Below.trans hbel ⟨rfl, rfl, rfl, Nat.le_refl _, fun _ _ => rfl⟩⟩
         case measure => simp [intOf]; omega
        ·have HN : Hid (pricesB ts = false) := pricesB_not hkl (by rw [HT.out]; simpa using hqf)
         go_wp2
         go_quiet (fail)
         go_wp2
         go_ret
         exact ⟨by rw [HN.out]; rfl, Below.trans hbel ⟨rfl, rfl, rfl, Nat.le_refl _, fun _ _ => rfl⟩⟩
      ·have HN : Hid (pricesB ts = false) := pricesB_not hkl (tierB_no HF.out HC.out (.inr (.inr (by omega))))
       clear hcell
       go_wp2
       go_ret
       exact ⟨by rw [HN.out]; rfl, hbel⟩
     ·have HN : Hid (pricesB ts = false) := pricesB_not hkl (tierB_no HF.out HC.out (.inr (.inl (by omega))))
      clear hcell
      go_wp2
      go_ret
      exact ⟨by rw [HN.out]; rfl, hbel⟩
    ·have HN : Hid (pricesB ts = false) := pricesB_not hkl (tierB_no HF.out HC.out (.inl (by omega)))
     clear hcell
     go_wp2
     go_ret
     exact ⟨by rw [HN.out]; rfl, hbel⟩
   ·have HN : Hid (pricesB ts = true) := pricesB_yes (by omega) (by omega) (fun j hj => hall.out j (by omega))
    clear hcell
    go_wp2
    go_ret
    exact ⟨by rw [HN.out]; rfl, hbel⟩
 ·have HN : Hid (pricesB ts = false) := pricesB_not (k := 0) (by omega) (by
   by_cases hb : 1 ≤ (ts.getD 0 (0, 0)).2 ∧ (ts.getD 0 (0, 0)).2 ≤ 1073741824 ∧ f0 ≤ 4294967296
   ·rw [tierB_zero HF0.out rfl hb.1 hb.2.1 hb.2.2]; simpa using hz
   ·exact tierB_no HF0.out rfl (by omega))
  have hz' : (f0 == 0) = false := by simpa using hz
  clear hcell
  go_enter Tryz.func58, Tryz.ntmps58
  go_wp2
  go_ret
  exact ⟨by rw [HN.out]; rfl, Below.refl _ _⟩
theorem arePrices_any (a : Option Addr) (len cap : Nat) (ts : List (Int × Int)) (w : World) (h : tiersAt w a len cap ts) :
 Calls Tryz.prog 58 #[.slice a len cap] w fun e w' => e = .returned (.bool (pricesB ts)) ∧ Below w.heap.size w w' := by
 obtain ⟨hl, hlc, hm, hn, hc⟩ := h
 by_cases h1 : len < 1
 ·have HN : Hid (pricesB ts = false) := pricesB_short (by omega)
  have hd1 : decide ((len : Int) < 1) = true := by simp; omega
  go_enter Tryz.func58, Tryz.ntmps58
  go_wp2
  go_ret
  exact ⟨by rw [HN.out]; rfl, Below.refl _ _⟩
 by_cases h4 : 4 < len
 ·have HN : Hid (pricesB ts = false) := pricesB_short (by omega)
  have hd1 : decide ((len : Int) < 1) = false := by simp; omega
  have hd4 : decide (4 < (len : Int)) = true := by simp; omega
  go_enter Tryz.func58, Tryz.ntmps58
  go_wp2
  go_ret
  exact ⟨by rw [HN.out]; rfl, Below.refl _ _⟩
 ·obtain ⟨b, off, rfl, _, hcell⟩ := hc (fun e => by rw [e] at hl; simp at hl; omega)
  exact arePrices_some b off len cap ts w hl (by omega) (by omega) hcell
theorem areNumbers_7 (b : Nat) (n0 n1 n2 n3 n4 n5 n6 : Int) (w : World) (h0 : w.cell? (aq b 0) = some (iv n0)) (h1 : w.cell? (aq b 1) = some (iv n1)) (h2 : w.cell? (aq b 2) = some (iv n2)) (h3 : w.cell? (aq b 3) = some (iv n3)) (h4 : w.cell? (aq b 4) = some (iv n4)) (h5 : w.cell? (aq b 5) = some (iv n5)) (h6 : w.cell? (aq b 6) = some (iv n6)) :
 Calls Tryz.prog 57 #[.slice (some (aq b 0)) 7 7] w fun e w' => e = .returned (.bool ([n0, n1, n2, n3, n4, n5, n6].all numB)) ∧ w = w' :=
 areNumbers_any b 0 7 [n0, n1, n2, n3, n4, n5, n6] w (by simp) (fun i hi => by
  match i, hi with
  | 0, _ => simpa using h0
  | 1, _ => simpa using h1
  | 2, _ => simpa using h2
  | 3, _ => simpa using h3
  | 4, _ => simpa using h4
  | 5, _ => simpa using h5
  | 6, _ => simpa using h6)
def cfgB (ns : List Int) (ts : List (Int × Int)) : Bool := ns.all numB && pricesB ts
def errV (b : Bool) : Int := if b then 0 else 1
theorem check_any (n0 n1 n2 n3 n4 n5 n6 : Int) (a : Option Addr) (len cap : Nat) (ts : List (Int × Int)) (w : World) (h : tiersAt w a len cap ts) :
 Calls Tryz.prog 34 #[.agg #[iv n0, iv n1, iv n2, iv n3, iv n4, iv n5, iv n6, .slice a len cap]] w fun e w' => e = .returned (iv (errV (cfgB [n0, n1, n2, n3, n4, n5, n6] ts))) ∧ Below w.heap.size w w' := by
 have HT : Hid (tiersAt w a len cap ts) := h
 clear h
 by_cases hn : [n0, n1, n2, n3, n4, n5, n6].all numB = true
 ·have HN : Hid ([n0, n1, n2, n3, n4, n5, n6].all numB = true) := hn
  clear hn
  by_cases hp : pricesB ts = true
  ·have HP : Hid (pricesB ts = true) := hp
   have HE : Hid (errV (cfgB [n0, n1, n2, n3, n4, n5, n6] ts) = 0) := by unfold Hid cfgB; rw [HN.out, hp]; rfl
   clear hp
   go_enter Tryz.func34, Tryz.ntmps34
   go_wp2_with (first
    | (go_at_call 57; refine (areNumbers_7 _ n0 n1 n2 n3 n4 n5 n6 _ (by simp [go_sem]) (by simp [go_sem]) (by simp [go_sem]) (by simp [go_sem]) (by simp [go_sem]) (by simp [go_sem]) (by simp [go_sem])).mono ?_; rintro e w' ⟨rfl, rfl⟩; rw [HN.out])
    | (go_at_call 58; refine (arePrices_any a len cap ts _ (HT.out.below (B := w.heap.size) bL (Nat.le_refl _))).mono ?_; rintro e w2 ⟨rfl, b2⟩; rw [HP.out]))
   go_ret
   exact ⟨by rw [HE.out]; rfl, Below.trans bL (b2.mono (by simp <;> omega))⟩
  ·have HP : Hid (pricesB ts = false) := by unfold Hid; simpa using hp
   have HE : Hid (errV (cfgB [n0, n1, n2, n3, n4, n5, n6] ts) = 1) := by unfold Hid cfgB; rw [HN.out, HP.out]; rfl
   clear hp
   go_enter Tryz.func34, Tryz.ntmps34
   go_wp2_with (first
    | (go_at_call 57; refine (areNumbers_7 _ n0 n1 n2 n3 n4 n5 n6 _ (by simp [go_sem]) (by simp [go_sem]) (by simp [go_sem]) (by simp [go_sem]) (by simp [go_sem]) (by simp [go_sem]) (by simp [go_sem])).mono ?_; rintro e w' ⟨rfl, rfl⟩; rw [HN.out])
    | (go_at_call 58; refine (arePrices_any a len cap ts _ (HT.out.below (B := w.heap.size) bL (Nat.le_refl _))).mono ?_; rintro e w2 ⟨rfl, b2⟩; rw [HP.out]))
   go_ret
   exact ⟨by rw [HE.out]; rfl, Below.trans bL (b2.mono (by simp <;> omega))⟩
 ·have HN : Hid ([n0, n1, n2, n3, n4, n5, n6].all numB = false) := by unfold Hid; simpa using hn
  have HE : Hid (errV (cfgB [n0, n1, n2, n3, n4, n5, n6] ts) = 1) := by unfold Hid cfgB; rw [HN.out]; rfl
  clear hn
  go_enter Tryz.func34, Tryz.ntmps34
  go_wp2_with (go_at_call 57; refine (areNumbers_7 _ n0 n1 n2 n3 n4 n5 n6 _ (by simp [go_sem]) (by simp [go_sem]) (by simp [go_sem]) (by simp [go_sem]) (by simp [go_sem]) (by simp [go_sem]) (by simp [go_sem])).mono ?_; rintro e w' ⟨rfl, rfl⟩; rw [HN.out])
  go_ret
  exact ⟨by rw [HE.out]; rfl, bL⟩
theorem rtier_any (b off len cap k : Nat) (ts : List (Int × Int)) (w : World) (hlt : k < len) (h4 : len ≤ 4)
 (hcell : ∀ i, i < len → w.cell? (aq b (off + i * 2)) = some (iv (ts.getD i (0, 0)).1) ∧ w.cell? (aq b (off + i * 2 + 1)) = some (iv (ts.getD i (0, 0)).2)) :
 Calls Tryz.prog 60 #[.slice (some (aq b off)) len cap, iv k] w fun e w' => e = .returned (.bool (tierB ts k)) ∧ Below w.heap.size w w' := by
 have hcf := (hcell k hlt).1
 have hcc := (hcell k hlt).2
 have hbw : b < w.heap.size := World.block_lt_of_cell? w _ hcf
 generalize hf : (ts.getD k (0, 0)).1 = f at hcf
 generalize hc : (ts.getD k (0, 0)).2 = c at hcc
 have HF : Hid ((ts.getD k (0, 0)).1 = f) := hf
 have HC : Hid ((ts.getD k (0, 0)).2 = c) := hc
 clear hf hc
 by_cases b1 : 1 ≤ c
 ·have d1 : decide (c < 1) = false := by simp; omega
  by_cases b2 : c ≤ 1073741824
  ·have d2 : decide (1073741824 < c) = false := by simp; omega
   by_cases b3 : f ≤ 4294967296
   ·have d3 : decide (4294967296 < f) = false := by simp; omega
    by_cases hk0 : k = 0
    ·subst hk0
     have HT : Hid (tierB ts 0 = (f == 0)) := tierB_zero HF.out HC.out b1 b2 b3
     simp only [Nat.zero_mul, Nat.add_zero] at hcf hcc
     have hpos : (0 : Int) < (len : Int) := by omega
     clear hcell
     go_enter Tryz.func60, Tryz.ntmps60
     go_wp2
     go_ret
     exact ⟨by rw [HT.out]; rfl, bL⟩
    ·obtain ⟨m, rfl⟩ : ∃ m, k = m + 1 := ⟨k - 1, by omega⟩
     have hcq := (hcell m (by omega)).1
     generalize hq : (ts.getD m (0, 0)).1 = q at hcq
     have HT : Hid (tierB ts (m + 1) = decide (q < f)) := tierB_succ hk0 HF.out HC.out hq b1 b2 b3
     have hkp : (((m : Int) + 1) == 0) = false := by simp; omega
     clear hq hcell
     go_enter Tryz.func60, Tryz.ntmps60
     go_wp2
     go_quiet (fail)
     go_wp2
     go_ret
     exact ⟨by rw [HT.out]; rfl, below_drewN ((Below.refl _ _).alloc (Nat.le_refl _) _)⟩
   ·have d3 : decide (4294967296 < f) = true := by simp; omega
    have HT : Hid (tierB ts k = false) := tierB_no HF.out HC.out (.inr (.inr (by omega)))
    clear hcell
    go_enter Tryz.func60, Tryz.ntmps60
    go_wp2
    go_ret
    exact ⟨by rw [HT.out]; rfl, bL⟩
  ·have d2 : decide (1073741824 < c) = true := by simp; omega
   have HT : Hid (tierB ts k = false) := tierB_no HF.out HC.out (.inr (.inl (by omega)))
   clear hcell
   go_enter Tryz.func60, Tryz.ntmps60
   go_wp2
   go_ret
   exact ⟨by rw [HT.out]; rfl, bL⟩
 ·have d1 : decide (c < 1) = true := by simp; omega
  have HT : Hid (tierB ts k = false) := tierB_no HF.out HC.out (.inl (by omega))
  clear hcell
  go_enter Tryz.func60, Tryz.ntmps60
  go_wp2
  go_ret
  exact ⟨by rw [HT.out]; rfl, bL⟩
end Go.Proofs.YtfhncfghblkgeabGreat
