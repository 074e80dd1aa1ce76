/-
  Tiers in memory; what a right configuration is; arePrices, number, tier.
-/
import Derived.Test.YtfhncfghblkgeaaGreatLeaf2
namespace Go.Proofs.YtfhncfghblkgeaaGreat
open Go.RowKit

theorem below_drewN {B n : Nat} {w w1 : World} (h : Below B w w1) : Below B w (w1.drewN n) := h.trans ⟨rfl, rfl, rfl, Nat.le_refl _, fun _ _ => rfl⟩

/-- A slice of tiers: what it reads as. -/
def tiersAt (w : World) (a : Option Addr) (len cap : Nat) (ts : List (Int × Int)) : Prop :=
  ts.length = len ∧ len ≤ cap ∧ cap * 16 ≤ 140737488355328 ∧ (a = none → len = 0 ∧ cap = 0) ∧
  (ts ≠ [] → ∃ b off, a = some ⟨b, off, none⟩ ∧ b < w.heap.size ∧ ∀ i, i < len → w.cell? ⟨b, off + i * 2, none⟩ = some (.int .i64 (ts.getD i (0, 0)).1) ∧ w.cell? ⟨b, off + i * 2 + 1, none⟩ = some (.int .i64 (ts.getD i (0, 0)).2))

theorem tiersAt.below {w w' : World} {a : Option Addr} {len cap B : Nat} {ts : List (Int × Int)} (h : tiersAt w a len cap ts) (hb : Below B w w') (hB : w.heap.size ≤ B) : tiersAt w' a len cap ts := by
  obtain ⟨h1, h2, h3, h4, h5⟩ := h
  refine ⟨h1, h2, h3, h4, fun hn => ?_⟩
  obtain ⟨b, off, ha, hbw, hc⟩ := h5 hn
  exact ⟨b, off, ha, Nat.lt_of_lt_of_le hbw hb.size, fun i hi => ⟨(hb.cell (p := ⟨b, off + i * 2, none⟩) (Nat.lt_of_lt_of_le hbw hB)).trans (hc i hi).1, (hb.cell (p := ⟨b, off + i * 2 + 1, none⟩) (Nat.lt_of_lt_of_le hbw hB)).trans (hc i hi).2⟩⟩

/-- May the tier with index i be? -/
def tierB (ts : List (Int × Int)) (i : Nat) : Bool :=
  decide (1 ≤ (ts.getD i (0, 0)).2) && decide ((ts.getD i (0, 0)).2 ≤ 1073741824) && decide ((ts.getD i (0, 0)).1 ≤ 4294967296) &&
    (if i = 0 then (ts.getD i (0, 0)).1 == 0 else decide ((ts.getD (i - 1) (0, 0)).1 < (ts.getD i (0, 0)).1))

def pricesB (ts : List (Int × Int)) : Bool := decide (1 ≤ ts.length) && decide (ts.length ≤ 4) && (List.range ts.length).all (tierB ts)

theorem pricesB_short {ts : List (Int × Int)} (h : ¬ (1 ≤ ts.length ∧ ts.length ≤ 4)) : pricesB ts = false := by
  unfold pricesB
  by_cases h1 : 1 ≤ ts.length
  · have : ¬ ts.length ≤ 4 := fun h2 => h ⟨h1, h2⟩
    simp [this]
  · simp [h1]
theorem pricesB_not {ts : List (Int × Int)} {k : Nat} (hk : k < ts.length) (h : tierB ts k = false) : pricesB ts = false := by
  unfold pricesB
  have : (List.range ts.length).all (tierB ts) = false := by
    rw [List.all_eq_false]
    exact ⟨k, List.mem_range.2 hk, by simp [h]⟩
  simp [this]
theorem pricesB_yes {ts : List (Int × Int)} (h1 : 1 ≤ ts.length) (h4 : ts.length ≤ 4) (h : ∀ j, j < ts.length → tierB ts j = true) : pricesB ts = true := by
  unfold pricesB
  have : (List.range ts.length).all (tierB ts) = true := by
    rw [List.all_eq_true]
    exact fun j hj => h j (List.mem_range.1 hj)
  simp [this, h1, h4]

theorem all_succ {p : Nat → Bool} {k : Nat} (h : ∀ j, j < k → p j = true) (hk : p k = true) : ∀ j, j < k + 1 → p j = true := by
  intro j hj
  by_cases e : j = k
  · rw [e]; exact hk
  · exact h j (by omega)

set_option maxHeartbeats 400000 in
theorem rnumber_any (n : Int) (w : World) :
    Calls Tryz.prog 92 #[.int .i64 n] w fun e w' => e = .returned (.bool (numB n)) ∧ w = w' := by
  by_cases h : 1 ≤ n
  · go_enter Tryz.func92, Tryz.ntmps92
    go_wp2
    go_ret
    exact ⟨by simp [numB, h], rfl⟩
  · have hd : decide (1 ≤ n) = false := by simpa using h
    go_enter Tryz.func92, Tryz.ntmps92
    go_wp2
    go_ret
    exact ⟨by simp [numB, hd], rfl⟩

theorem tierB_no {ts : List (Int × Int)} {k : Nat} {f c : Int} (hf : (ts.getD k (0, 0)).1 = f) (hc : (ts.getD k (0, 0)).2 = c) (h : c < 1 ∨ 1073741824 < c ∨ 4294967296 < f) : tierB ts k = false := by
  unfold tierB
  rw [hf, hc]
  rcases h with h | h | h
  · have : decide (1 ≤ c) = false := by simp; omega
    simp [this]
  · have : decide (c ≤ 1073741824) = false := by simp; omega
    simp [this]
  · have : decide (f ≤ 4294967296) = false := by simp; omega
    simp [this]
theorem tierB_zero {ts : List (Int × Int)} {f c : Int} (hf : (ts.getD 0 (0, 0)).1 = f) (hc : (ts.getD 0 (0, 0)).2 = c) (h1 : 1 ≤ c) (h2 : c ≤ 1073741824) (h3 : f ≤ 4294967296) : tierB ts 0 = (f == 0) := by
  unfold tierB
  rw [hf, hc]
  simp [h1, h2, h3]
theorem tierB_succ {ts : List (Int × Int)} {k : Nat} {f c q : Int} (hk : ¬ k = 0) (hf : (ts.getD k (0, 0)).1 = f) (hc : (ts.getD k (0, 0)).2 = c) (hq : (ts.getD (k - 1) (0, 0)).1 = q) (h1 : 1 ≤ c) (h2 : c ≤ 1073741824) (h3 : f ≤ 4294967296) : tierB ts k = decide (q < f) := by
  unfold tierB
  rw [hf, hc, hq]
  simp [h1, h2, h3, hk]

set_option maxRecDepth 100000 in
set_option maxHeartbeats 1000000 in
theorem arePrices_some (b off len cap : Nat) (ts : List (Int × Int)) (w : World) (hl : ts.length = len) (h1 : 1 ≤ len) (h4 : len ≤ 4)
    (hcell : ∀ i, i < len → w.cell? ⟨b, off + i * 2, none⟩ = some (.int .i64 (ts.getD i (0, 0)).1) ∧ w.cell? ⟨b, off + i * 2 + 1, none⟩ = some (.int .i64 (ts.getD i (0, 0)).2)) :
    Calls Tryz.prog 91 #[.slice (some ⟨b, off, none⟩) len cap] w fun e w' => e = .returned (.bool (pricesB ts)) ∧ Below w.heap.size w w' := by
  have h1' : (0 : Int) < (len : Int) := by omega
  have hd1 : decide ((len : Int) < 1) = false := by simp; omega
  have hd2 : decide (4 < (len : Int)) = false := by simp; omega
  have hc0 := (hcell 0 (by omega)).1
  simp only [Nat.zero_mul, Nat.add_zero] at hc0
  have hbw : b < w.heap.size := World.block_lt_of_cell? w _ hc0
  generalize hf0 : (ts.getD 0 (0, 0)).1 = f0 at hc0
  have HF0 : Hid ((ts.getD 0 (0, 0)).1 = f0) := hf0
  clear hf0
  by_cases hz : f0 = 0
  · subst hz
    go_enter Tryz.func91, Tryz.ntmps91
    go_wp2
    clear hc0
    go_loopw [3] (fun i wr => ∃ k : Nat, k ≤ len ∧ i = .int .i64 k ∧ Hid (∀ j, j < k → tierB ts j = true) ∧ Below w.heap.size w wr) (fun i _ => len - (intOf i).toNat)
    case atStart => exact ⟨0, Nat.zero_le _, rfl, fun _ h => by omega, Below.refl _ _⟩
    case round =>
      obtain ⟨k, hk, rfl, hall, hbel⟩ := hrel
      by_cases hlt : k < len
      · have hkl : k < ts.length := by omega
        have hcf := (hbel.cell (p := ⟨b, off + k * 2, none⟩) hbw).trans (hcell k hlt).1
        have hcc := (hbel.cell (p := ⟨b, off + k * 2 + 1, none⟩) hbw).trans (hcell k hlt).2
        generalize hf : (ts.getD k (0, 0)).1 = f at hcf
        generalize hc : (ts.getD k (0, 0)).2 = c at hcc
        have HF : Hid ((ts.getD k (0, 0)).1 = f) := hf
        have HC : Hid ((ts.getD k (0, 0)).2 = c) := hc
        clear hf hc
        by_cases b1 : 1 ≤ c
        · by_cases b2 : c ≤ 1073741824
          · by_cases b3 : f ≤ 4294967296
            · by_cases hk0 : k = 0
              · subst hk0
                have HT : Hid (tierB ts 0 = true) := by unfold Hid; rw [tierB_zero HF.out HC.out b1 b2 b3, ← HF.out, HF0.out]; rfl
                simp only [Nat.zero_mul, Nat.add_zero] at hcf hcc
                clear hcell
                go_wp2
                go_quiet (fail)
                go_wp2
                go_roundw
                case rel => exact ⟨1, by omega, rfl, all_succ hall.out HT.out, Below.trans hbel ⟨rfl, rfl, rfl, Nat.le_refl _, fun _ _ => rfl⟩⟩
                case measure => simp [intOf]; omega
              · obtain ⟨m, rfl⟩ : ∃ m, k = m + 1 := ⟨k - 1, by omega⟩
                have hcq := (hbel.cell (p := ⟨b, off + m * 2, none⟩) hbw).trans (hcell m (by omega)).1
                generalize hq : (ts.getD m (0, 0)).1 = q at hcq
                have HT : Hid (tierB ts (m + 1) = decide (q < f)) := tierB_succ hk0 HF.out HC.out hq b1 b2 b3
                have hkp : (0 : Int) < (m : Int) + 1 := by omega
                clear hq hcell
                by_cases hqf : q < f
                · have HT' : Hid (tierB ts (m + 1) = true) := by unfold Hid; rw [HT.out]; simpa using hqf
                  go_wp2
                  go_quiet (fail)
                  go_wp2
                  go_roundw
                  case rel => exact ⟨m + 1 + 1, by omega, by go_num, all_succ hall.out HT'.out, Below.trans hbel ⟨rfl, rfl, rfl, Nat.le_refl _, fun _ _ => rfl⟩⟩
                  case measure => simp [intOf]; omega
                · have HN : Hid (pricesB ts = false) := pricesB_not hkl (by rw [HT.out]; simpa using hqf)
                  go_wp2
                  go_quiet (fail)
                  go_wp2
                  go_ret
                  exact ⟨by rw [HN.out]; rfl, Below.trans hbel ⟨rfl, rfl, rfl, Nat.le_refl _, fun _ _ => rfl⟩⟩
            · have HN : Hid (pricesB ts = false) := pricesB_not hkl (tierB_no HF.out HC.out (.inr (.inr (by omega))))
              clear hcell
              go_wp2
              go_ret
              exact ⟨by rw [HN.out]; rfl, hbel⟩
          · have HN : Hid (pricesB ts = false) := pricesB_not hkl (tierB_no HF.out HC.out (.inr (.inl (by omega))))
            clear hcell
            go_wp2
            go_ret
            exact ⟨by rw [HN.out]; rfl, hbel⟩
        · have HN : Hid (pricesB ts = false) := pricesB_not hkl (tierB_no HF.out HC.out (.inl (by omega)))
          clear hcell
          go_wp2
          go_ret
          exact ⟨by rw [HN.out]; rfl, hbel⟩
      · have HN : Hid (pricesB ts = true) := pricesB_yes (by omega) (by omega) (fun j hj => hall.out j (by omega))
        clear hcell
        go_wp2
        go_ret
        exact ⟨by rw [HN.out]; rfl, hbel⟩
  · have HN : Hid (pricesB ts = false) := pricesB_not (k := 0) (by omega) (by
      by_cases hb : 1 ≤ (ts.getD 0 (0, 0)).2 ∧ (ts.getD 0 (0, 0)).2 ≤ 1073741824 ∧ f0 ≤ 4294967296
      · rw [tierB_zero HF0.out rfl hb.1 hb.2.1 hb.2.2]; simpa using hz
      · exact tierB_no HF0.out rfl (by omega))
    have hz' : (f0 == 0) = false := by simpa using hz
    clear hcell
    go_enter Tryz.func91, Tryz.ntmps91
    go_wp2
    go_ret
    exact ⟨by rw [HN.out]; rfl, Below.refl _ _⟩

end Go.Proofs.YtfhncfghblkgeaaGreat
