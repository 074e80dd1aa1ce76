/-
  Reading numbers back out of groups of seven bits: the plain facts.
-/
import Derived.Test.YtfhncfghblkgeaaGreatLeaf
namespace Go.Proofs.YtfhncfghblkgeaaGreat

/-- The number that groups make, the lowest first. -/
def valL : List Int → Nat
  | [] => 0
  | x :: r => (x % 128).toNat + 128 * valL r

theorem valL_snoc : ∀ (g : List Int) (x : Int), valL (g ++ [x]) = valL g + (x % 128).toNat * 128 ^ g.length
  | [], x => by simp [valL]
  | y :: g, x => by
    have h := valL_snoc g x
    simp only [List.cons_append, valL, List.length_cons, Nat.pow_succ]
    rw [h]
    have : (x % 128).toNat * (128 ^ g.length * 128) = 128 * ((x % 128).toNat * 128 ^ g.length) := by
      rw [Nat.mul_comm (128 ^ g.length) 128, Nat.mul_left_comm]
    omega

theorem valL_lt : ∀ (g : List Int), valL g < 128 ^ g.length
  | [] => by simp [valL]
  | y :: g => by
    have h := valL_lt g
    simp only [valL, List.length_cons, Nat.pow_succ]
    omega

/-- Groups that go on. -/
def goOn (g : List Int) : Prop := ∀ y ∈ g, 128 ≤ y ∧ y < 256

theorem valL_pos {g : List Int} {x : Int} (h0 : 0 < x) (h1 : x < 128) : 1 ≤ valL (g ++ [x]) := by
  rw [valL_snoc]
  have : 1 ≤ (x % 128).toNat := by omega
  have hp : 1 ≤ 128 ^ g.length := Nat.one_le_pow _ _ (by omega)
  have := Nat.mul_le_mul this hp
  omega

theorem code_valL : ∀ (g : List Int) (x : Int), goOn g → 0 ≤ x → x < 128 → (g = [] ∨ x ≠ 0) → code (valL (g ++ [x])) = g ++ [x]
  | [], x, _, h0, h1, _ => by
    have e : (x % 128).toNat = x.toNat := by omega
    simp only [List.nil_append, valL, Nat.mul_zero, Nat.add_zero, e]
    rw [code_small (by omega)]
    simp; omega
  | y :: g, x, hg, h0, h1, hx => by
    have hx0 : x ≠ 0 := by simpa using hx
    have hv := valL_pos (g := g) (x := x) (by omega) h1
    have hy := hg y (by simp)
    have ih := code_valL g x (fun z hz => hg z (by simp [hz])) h0 h1 (.inr hx0)
    have e : valL (y :: g ++ [x]) = (y % 128).toNat + 128 * valL (g ++ [x]) := rfl
    rw [e, code_great (by omega)]
    have e1 : ((y % 128).toNat + 128 * valL (g ++ [x])) % 128 = (y % 128).toNat := by omega
    have e2 : ((y % 128).toNat + 128 * valL (g ++ [x])) / 128 = valL (g ++ [x]) := by omega
    rw [e1, e2, ih]
    have e3 : (((y % 128).toNat + 128 : Nat) : Int) = y := by omega
    rw [e3]; rfl

/-- What a number's groups look like. -/
theorem code_shape : ∀ (n k : Nat), n ≤ k → ∃ (g : List Int) (x : Int), code n = g ++ [x] ∧ goOn g ∧ 0 ≤ x ∧ x < 128 ∧ (g = [] ∨ x ≠ 0) ∧ (n = 0 ∨ x ≠ 0)
  | n, 0, h => ⟨[], (n : Int), by rw [code_small (by omega)]; rfl, fun _ h => by simp at h, by omega, by omega, .inl rfl, .inl (by omega)⟩
  | n, k + 1, h => by
    by_cases hn : n < 128
    · refine ⟨[], (n : Int), by rw [code_small hn]; rfl, fun _ h => by simp at h, by omega, by omega, .inl rfl, ?_⟩
      by_cases h0 : n = 0
      · exact .inl h0
      · exact .inr (by omega)
    · obtain ⟨g, x, e, hg, h0, h1, hx, hz⟩ := code_shape (n / 128) k (by omega)
      have hx0 : x ≠ 0 := by rcases hz with hz | hz; · omega
                             · exact hz
      refine ⟨((n % 128 + 128 : Nat) : Int) :: g, x, by rw [code_great (by omega), e]; rfl, ?_, h0, h1, .inr hx0, .inr hx0⟩
      intro y hy
      rcases List.mem_cons.1 hy with rfl | hy
      · omega
      · exact hg y hy

/-- Groups end where a byte is below 128. -/
theorem ends_same : ∀ (g1 g2 : List Int) (x1 x2 : Int) (r1 r2 : List Int), goOn g1 → goOn g2 → x1 < 128 → x2 < 128 → g1 ++ x1 :: r1 = g2 ++ x2 :: r2 → g1 = g2 ∧ x1 = x2 ∧ r1 = r2
  | [], [], _, _, _, _, _, _, _, _, h => by simpa using h
  | [], y :: g2, x1, _, _, _, _, h2, hx, _, h => by
    simp at h
    have := h2 y (by simp)
    omega
  | y :: g1, [], _, x2, _, _, h1, _, _, hx, h => by
    simp at h
    have := h1 y (by simp)
    omega
  | y :: g1, z :: g2, x1, x2, r1, r2, h1, h2, hx1, hx2, h => by
    simp at h
    obtain ⟨rfl, h⟩ := h
    obtain ⟨rfl, rfl, rfl⟩ := ends_same g1 g2 x1 x2 r1 r2 (fun a ha => h1 a (by simp [ha])) (fun a ha => h2 a (by simp [ha])) hx1 hx2 h
    exact ⟨rfl, rfl, rfl⟩

theorem valL_code (n : Nat) : valL (code n) = n := by
  suffices H : ∀ (k n : Nat), n ≤ k → valL (code n) = n from H n n (Nat.le_refl _)
  intro k
  induction k with
  | zero => intro n h; rw [code_small (by omega)]; simp [valL]; omega
  | succ k ih =>
    intro n h
    by_cases hn : n < 128
    · rw [code_small hn]; simp [valL]; omega
    · rw [code_great (by omega)]
      simp only [valL]
      rw [ih (n / 128) (by omega)]
      omega

/-- No number's groups are the beginning of another's. -/
theorem code_inj {m n : Nat} {r s : List Int} (h : code m ++ r = code n ++ s) : m = n ∧ r = s := by
  obtain ⟨g1, x1, e1, h1, _, l1, _⟩ := code_shape m m (Nat.le_refl _)
  obtain ⟨g2, x2, e2, h2, _, l2, _⟩ := code_shape n n (Nat.le_refl _)
  have h' := h
  rw [e1, e2] at h'
  simp only [List.append_assoc, List.singleton_append] at h'
  obtain ⟨rfl, rfl, rfl⟩ := ends_same g1 g2 x1 x2 r s h1 h2 l1 l2 h'
  refine ⟨?_, rfl⟩
  rw [← valL_code m, ← valL_code n, e1, e2]

/-- What reading a number at the beginning answers. -/
def RN (l : List Int) (n len : Nat) : Prop :=
  (len = 0 ∧ n = 0 ∧ ∀ (m : Nat) (r : List Int), m < 34359738368 → l ≠ code m ++ r) ∨ (∃ r, n < 34359738368 ∧ len = (code n).length ∧ l = code n ++ r)

theorem code_len5 {n : Nat} (h : n < 34359738368) : (code n).length ≤ 5 := code_len_le 4 n (Nat.lt_of_lt_of_le h (by decide))

theorem rn_stop {l : List Int} {k : Nat} (hg : goOn (l.take k)) (hk : k = l.length ∨ k = 5) : RN l 0 0 := by
  refine .inl ⟨rfl, rfl, fun m r hm e => ?_⟩
  have h5 := code_len5 hm
  obtain ⟨g, x, ec, hgo, h0, h1, _⟩ := code_shape m m (Nat.le_refl _)
  rw [ec] at e h5
  simp at h5
  have hlen : g.length < l.length := by rw [e]; simp
  have hx : l[g.length]? = some x := by rw [e]; simp
  have hmem : x ∈ l.take k := by
    apply List.mem_of_getElem? (i := g.length)
    rw [List.getElem?_take, if_pos (by omega)]
    exact hx
  have := hg x hmem
  omega

theorem rn_zero {l : List Int} {k : Nat} (hg : goOn (l.take k)) (hk : k < l.length) (h0 : 0 < k) (hz : l.getD k 0 = 0) : RN l 0 0 := by
  refine .inl ⟨rfl, rfl, fun m r _ e => ?_⟩
  obtain ⟨g, x, ec, hgo, _, h1, hx, _⟩ := code_shape m m (Nat.le_refl _)
  rw [ec] at e
  simp only [List.append_assoc, List.singleton_append] at e
  have el : l = l.take k ++ 0 :: l.drop (k + 1) := by
    conv => lhs; rw [← List.take_append_drop k l]
    congr 1
    rw [List.drop_eq_getElem_cons hk]
    simp [List.getD, List.getElem?_eq_getElem hk] at hz
    rw [hz]
  rw [el] at e
  obtain ⟨e1, e2, _⟩ := ends_same _ _ _ _ _ _ hg hgo (by omega) h1 e
  rcases hx with hx | hx
  · rw [hx] at e1
    have := congrArg List.length e1
    simp only [List.length_take, List.length_nil] at this
    omega
  · exact hx e2.symm

theorem rn_yes {l : List Int} {k : Nat} {x : Int} (hg : goOn (l.take k)) (hk : k < l.length) (h5 : k < 5) (hx : l.getD k 0 = x) (h0 : 0 ≤ x) (h1 : x < 128) (hz : k = 0 ∨ x ≠ 0) :
    RN l (valL (l.take k) + (x % 128).toNat * 128 ^ k) (k + 1) := by
  have hl : (l.take k).length = k := by simp; omega
  have ev : valL (l.take k) + (x % 128).toNat * 128 ^ k = valL (l.take k ++ [x]) := by rw [valL_snoc, hl]
  have ec : code (valL (l.take k ++ [x])) = l.take k ++ [x] := code_valL _ _ hg h0 h1 (by
    rcases hz with rfl | hz
    · exact .inl (by simp)
    · exact .inr hz)
  rw [ev]
  refine .inr ⟨l.drop (k + 1), ?_, by rw [ec]; simp; omega, ?_⟩
  · refine Nat.lt_of_lt_of_le (valL_lt _) ?_
    simp only [List.length_append, hl, List.length_singleton]
    exact Nat.le_trans (Nat.pow_le_pow_right (by omega) (show k + 1 ≤ 5 by omega)) (by decide)
  · rw [ec]
    conv => lhs; rw [← List.take_append_drop k l]
    rw [List.append_assoc]
    congr 1
    rw [List.drop_eq_getElem_cons hk]
    simp [List.getD, List.getElem?_eq_getElem hk] at hx
    simp [hx]

theorem goOn_snoc {l : List Int} {k : Nat} {x : Int} (hg : goOn (l.take k)) (hk : k < l.length) (hx : l.getD k 0 = x) (h0 : 128 ≤ x) (h1 : x < 256) : goOn (l.take (k + 1)) := by
  intro y hy
  rw [List.take_succ_eq_append_getElem hk] at hy
  simp [List.getD, List.getElem?_eq_getElem hk] at hx
  rcases List.mem_append.1 hy with hy | hy
  · exact hg y hy
  · simp [hx] at hy
    omega
theorem valL_take {l : List Int} {k : Nat} {x : Int} (hk : k < l.length) (hx : l.getD k 0 = x) : valL (l.take (k + 1)) = valL (l.take k) + (x % 128).toNat * 128 ^ k := by
  rw [List.take_succ_eq_append_getElem hk, valL_snoc]
  simp [List.getD, List.getElem?_eq_getElem hk] at hx
  rw [hx]
  simp [Nat.min_eq_left (Nat.le_of_lt hk)]

theorem rn_yes' {l : List Int} {k v W X : Nat} (hv : v = valL (l.take k)) (hW : W = 128 ^ k) (hg : goOn (l.take k)) (hk : k < l.length) (h5 : k < 5) (hx : l.getD k 0 = (X : Int)) (h1 : X < 128) (hz : k = 0 ∨ X ≠ 0) : RN l (v + X % 128 * W) (k + 1) := by
  have := rn_yes hg hk h5 hx (by omega) (by omega) (by rcases hz with h | h; · exact .inl h
                                                       · exact .inr (by omega))
  have e : ((X : Int) % 128).toNat = X % 128 := by omega
  rw [e, ← hv, ← hW] at this
  exact this
theorem valL_take' {l : List Int} {k v W X : Nat} (hv : v = valL (l.take k)) (hW : W = 128 ^ k) (hk : k < l.length) (hx : l.getD k 0 = (X : Int)) : v + X % 128 * W = valL (l.take (k + 1)) ∧ W * 128 = 128 ^ (k + 1) := by
  have e : ((X : Int) % 128).toNat = X % 128 := by omega
  rw [valL_take hk hx, e, ← hv, ← hW, Nat.pow_succ, ← hW]
  exact ⟨rfl, rfl⟩

end Go.Proofs.YtfhncfghblkgeaaGreat
