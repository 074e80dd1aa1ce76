/-
  Numbers read whatever their groups: the plain facts.
-/
import Derived.Test.YtfhncfghblkgeaaGreatRead2
namespace Go.Proofs.YtfhncfghblkgeaaGreat

/-- What a loose reading has read so far: the numbers ms, then the groups cur. -/
def NP (tl : List Int) (p : Nat) (ms : List Nat) (cur : List Int) : Prop :=
  goOn cur ∧ ∃ D, tl.take p = D ++ cur ∧ ∀ ns : List Nat, (∀ n ∈ ns, n < 34359738368) → tl = codes ns → ∃ ns2, ns = ms ++ ns2 ∧ D = codes ms

/-- What a loose reading answers: if the bytes are the groups of up to three numbers, these. -/
def RNS (tl : List Int) (ms : List Nat) : Prop := ∀ ns : List Nat, ns.length ≤ 3 → (∀ n ∈ ns, n < 34359738368) → tl = codes ns → ms = ns

theorem np_start (tl : List Int) : NP tl 0 [] [] := ⟨fun _ h => by simp at h, [], by simp, fun ns _ _ => ⟨ns, rfl, rfl⟩⟩

theorem take_next {tl : List Int} {p : Nat} {x : Int} (hp : p < tl.length) (hx : tl.getD p 0 = x) : tl.take (p + 1) = tl.take p ++ [x] := by
  rw [List.take_succ_eq_append_getElem hp]
  simp [List.getD, List.getElem?_eq_getElem hp] at hx
  rw [hx]
theorem split_next {tl : List Int} {p : Nat} {x : Int} (hp : p < tl.length) (hx : tl.getD p 0 = x) : tl = tl.take p ++ x :: tl.drop (p + 1) := by
  conv => lhs; rw [← List.take_append_drop p tl]
  congr 1
  rw [List.drop_eq_getElem_cons hp]
  simp [List.getD, List.getElem?_eq_getElem hp] at hx
  rw [hx]

theorem np_more {tl : List Int} {p : Nat} {ms : List Nat} {cur : List Int} {x : Int} (h : NP tl p ms cur) (hp : p < tl.length) (hx : tl.getD p 0 = x) (h0 : 128 ≤ x) (h1 : x < 256) : NP tl (p + 1) ms (cur ++ [x]) := by
  obtain ⟨hg, D, hd, hn⟩ := h
  refine ⟨fun y hy => ?_, D, by rw [take_next hp hx, hd, List.append_assoc], hn⟩
  rcases List.mem_append.1 hy with hy | hy
  · exact hg y hy
  · simp at hy; omega

theorem codes_cons (m : Nat) (ns : List Nat) : codes (m :: ns) = code m ++ codes ns := rfl

theorem np_num {tl : List Int} {p : Nat} {ms : List Nat} {cur : List Int} {x : Int} (h : NP tl p ms cur) (hp : p < tl.length) (hx : tl.getD p 0 = x) (h1 : x < 128) : NP tl (p + 1) (ms ++ [valL (cur ++ [x])]) [] := by
  obtain ⟨hg, D, hd, hn⟩ := h
  refine ⟨fun _ h => by simp at h, D ++ (cur ++ [x]), by rw [take_next hp hx, hd]; simp, fun ns hb e => ?_⟩
  obtain ⟨ns2, e1, e2⟩ := hn ns hb e
  have hs := split_next hp hx
  rw [hd, List.append_assoc] at hs
  have e' : D ++ (cur ++ x :: tl.drop (p + 1)) = codes ms ++ codes ns2 := by rw [← hs, e, e1]; simp [codes]
  rw [e2] at e'
  have e3 := List.append_cancel_left e'
  match ns2 with
  | [] => simp [codes] at e3
  | m :: ns3 =>
    rw [codes_cons] at e3
    obtain ⟨g, y, ec, hgo, _, hy1, _⟩ := code_shape m m (Nat.le_refl _)
    rw [ec] at e3
    simp only [List.append_assoc, List.singleton_append] at e3
    obtain ⟨rfl, rfl, _⟩ := ends_same _ _ _ _ _ _ hg hgo h1 hy1 e3
    have em : m = valL (cur ++ [x]) := by rw [← ec, valL_code]
    subst em
    exact ⟨ns3, by rw [e1]; simp, by rw [e2, codes_snoc, ec]⟩

theorem low_in {m : Nat} {cur rest r : List Int} (hg : goOn cur) (e : cur ++ rest = code m ++ r) (hl : (code m).length ≤ cur.length) : False := by
  obtain ⟨g, y, ec, _, _, hy1, _⟩ := code_shape m m (Nat.le_refl _)
  rw [ec] at e hl
  simp at hl
  have h1 : (cur ++ rest)[g.length]? = some y := by rw [e]; simp
  rw [List.getElem?_append_left (by omega)] at h1
  have := hg y (List.mem_of_getElem? h1)
  omega

theorem np_long {tl : List Int} {p : Nat} {ms : List Nat} {cur : List Int} (h : NP tl p ms cur) (hc : 5 ≤ cur.length) : RNS tl ms := by
  obtain ⟨hg, D, hd, hn⟩ := h
  intro ns _ hb e
  obtain ⟨ns2, e1, e2⟩ := hn ns hb e
  exfalso
  have hs : tl = D ++ (cur ++ tl.drop p) := by rw [← List.append_assoc, ← hd, List.take_append_drop]
  have e' : D ++ (cur ++ tl.drop p) = codes ms ++ codes ns2 := by rw [← hs, e, e1]; simp [codes]
  rw [e2] at e'
  have e3 := List.append_cancel_left e'
  match ns2, e1 with
  | [], _ =>
    have := congrArg List.length e3
    rw [List.length_append] at this
    simp only [codes, List.flatMap_nil, List.length_nil] at this
    omega
  | m :: ns3, e1 =>
    rw [codes_cons] at e3
    exact low_in hg e3 (Nat.le_trans (code_len5 (hb m (by rw [e1]; simp))) hc)

theorem np_end {tl : List Int} {ms : List Nat} {cur : List Int} (h : NP tl tl.length ms cur) : RNS tl ms := by
  obtain ⟨hg, D, hd, hn⟩ := h
  intro ns _ hb e
  obtain ⟨ns2, e1, e2⟩ := hn ns hb e
  rw [List.take_of_length_le (Nat.le_refl _)] at hd
  have e' : D ++ cur = codes ms ++ codes ns2 := by rw [← hd, e, e1]; simp [codes]
  rw [e2] at e'
  have e3 := List.append_cancel_left e'
  match ns2, e1, e3 with
  | [], e1, _ => rw [e1]; simp
  | m :: ns3, _, e3 =>
    exfalso
    rw [codes_cons] at e3
    exact low_in (rest := []) hg (by rw [List.append_nil]; exact e3) (by rw [e3]; simp)

theorem codes_len : ∀ (ns : List Nat), (∀ n ∈ ns, n < 34359738368) → (codes ns).length ≤ 5 * ns.length
  | [], _ => by simp [codes]
  | n :: ns, h => by
    have h1 := code_len5 (h n (by simp))
    have h2 := codes_len ns (fun m hm => h m (by simp [hm]))
    rw [codes_cons]
    simp; omega

theorem np_far {tl : List Int} {ms : List Nat} (hp : 19 ≤ tl.length) : RNS tl ms := by
  intro ns hl hb e
  have := codes_len ns hb
  rw [← e] at this
  omega

end Go.Proofs.YtfhncfghblkgeaaGreat
