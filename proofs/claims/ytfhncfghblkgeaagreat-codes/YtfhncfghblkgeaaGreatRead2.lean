/-
  The walk: readNumbers.
-/
import Derived.Test.YtfhncfghblkgeaaGreatRead1
import Derived.Test.YtfhncfghblkgeaaGreatPackBase
namespace Go.Proofs.YtfhncfghblkgeaaGreat
open Go.RowKit

theorem Tryz.infoInt : (Tryz.prog.info? 3).map (fun i => (i.zero, i.size, i.bytes)) = some (some (.int .i64 0), 1, 8) := by kernel_rfl

theorem rn_nil : RN [] 0 0 := rn_stop (k := 0) (fun _ h => by simp at h) (.inl rfl)

set_option maxHeartbeats 400000 in
theorem readNumber_nil (a : Option Addr) (cap : Nat) (w : World) :
    Calls Tryz.prog 130 #[.slice a 0 cap] w fun e w' => ∃ n k : Nat, e = .returned (.tuple #[.int .i64 n, .int .i64 k]) ∧ RN [] n k ∧ w = w' := by
  go_enter Tryz.func130, Tryz.ntmps130
  go_wp2
  go_loop [4, 5, 6] (fun _ _ i => i = .int .i64 0) (fun _ _ _ => 0)
  case atStart => rfl
  case round =>
    subst hrel
    go_wp2
    go_ret2
    exact ⟨0, 0, rfl, rn_nil, rfl⟩

theorem readNumber_any (a : Option Addr) (len cap : Nat) (l : List Int) (w : World) (h : sliceOf w a len cap l) :
    Calls Tryz.prog 130 #[.slice a len cap] w fun e w' => ∃ n k : Nat, e = .returned (.tuple #[.int .i64 n, .int .i64 k]) ∧ RN l n k ∧ w = w' := by
  obtain ⟨hl, hlc, hm, hb, hc⟩ := h
  by_cases h0 : l = []
  · subst h0
    simp at hl
    subst hl
    exact readNumber_nil a cap w
  · obtain ⟨b, off, rfl, _, hcell⟩ := hc h0
    exact readNumber_some b off len cap l w hl hb hcell

/-- All groups of numbers. -/
def codes (ns : List Nat) : List Int := ns.flatMap code

theorem codes_prefix : ∀ (ns ms : List Nat) (rest : List Int), ns.length ≤ ms.length → codes ns ++ rest = codes ms → ∃ ms', ms = ns ++ ms' ∧ rest = codes ms'
  | [], ms, rest, _, h => ⟨ms, rfl, by simpa [codes] using h⟩
  | n :: ns, [], rest, hl, _ => by simp at hl
  | n :: ns, m :: ms, rest, hl, h => by
    have h' : code n ++ (codes ns ++ rest) = code m ++ codes ms := by simpa [codes, List.append_assoc] using h
    obtain ⟨rfl, h2⟩ := code_inj h'
    obtain ⟨ms', rfl, hr⟩ := codes_prefix ns ms rest (by simpa using hl) h2
    exact ⟨ms', rfl, hr⟩

theorem codes_snoc (ns : List Nat) (n : Nat) : codes (ns ++ [n]) = codes ns ++ code n := by simp [codes]

theorem sliceOf_below {w w' : World} {a : Option Addr} {len cap : Nat} {l : List Int} (h : sliceOf w a len cap l) (hb : Below w.heap.size w w') : sliceOf w' a len cap l := by
  obtain ⟨h1, h2, h3, h4, h5⟩ := h
  refine ⟨h1, h2, h3, h4, fun hn => ?_⟩
  obtain ⟨b, off, ha, hb', hc⟩ := h5 hn
  exact ⟨b, off, ha, Nat.lt_of_lt_of_le hb' hb.size, fun i hi => (hb.cell (p := ⟨b, off + i, none⟩) hb').trans (hc i hi)⟩

/-- The slice behind the first k bytes. -/
theorem sliceOf_drop {w : World} {b off len cap k : Nat} {g r : List Int} (h : sliceOf w (some ⟨b, off, none⟩) len cap (g ++ r)) (hk : g.length = k) : sliceOf w (if cap = k then some ⟨b, off, none⟩ else some ⟨b, off + k, none⟩) (len - k) (cap - k) r := by
  obtain ⟨h1, h2, h3, h4, h5⟩ := h
  simp at h1
  refine ⟨by omega, by omega, by omega, fun x hx => h4 x (by simp [hx]), fun hn => ?_⟩
  have hrl : 0 < r.length := List.length_pos_iff.2 hn
  obtain ⟨b', off', ha, hb', hc⟩ := h5 (by simp [hn])
  simp at ha
  obtain ⟨rfl, rfl⟩ := ha
  refine ⟨b, off + k, by rw [if_neg (by omega)], hb', fun i hi => ?_⟩
  have := hc (k + i) (by omega)
  rw [Nat.add_assoc, this]
  congr 2
  simp [List.getD, List.getElem?_append_right (show g.length ≤ k + i by omega)]
  congr 2
  omega

/-- Numbers as cells. -/
def intsV (ns : List Nat) : List Value := ns.map fun n : Nat => Value.int .i64 (n : Int)
theorem intsV_snoc (ns : List Nat) (n : Nat) : intsV (ns ++ [n]) = intsV ns ++ [.int .i64 (n : Int)] := by simp [intsV]

/-- What readNumbers answers. -/
def readAns (w' : World) (B count : Nat) (l : List Int) (v : Value) (ok : Bool) : Prop :=
  (ok = true → ∃ ns : List Nat, ns.length = count ∧ (∀ n ∈ ns, n < 34359738368) ∧ l = codes ns ∧ w'.ownsRow B 3 1 v ns.length (intsV ns)) ∧
  (ok = false → ∀ ns : List Nat, ns.length = count → (∀ n ∈ ns, n < 34359738368) → l ≠ codes ns)

theorem no_more {ns : List Nat} {count : Nat} {l rest : List Int} (hl : l = codes ns ++ rest) (hn : ns.length < count) (h : ∀ (m : Nat) (r : List Int), m < 34359738368 → rest ≠ code m ++ r) :
    ∀ ms : List Nat, ms.length = count → (∀ n ∈ ms, n < 34359738368) → l ≠ codes ms := by
  intro ms hms hb e
  obtain ⟨ms', rfl, hr⟩ := codes_prefix ns ms rest (by omega) (hl.symm.trans e)
  match ms' with
  | [] => simp at hms; omega
  | m :: ms' => exact h m (codes ms') (hb m (by simp)) (by rw [hr]; simp [codes])

theorem no_rest {ns : List Nat} {count : Nat} {l rest : List Int} (hl : l = codes ns ++ rest) (hn : ns.length = count) (h : rest ≠ []) :
    ∀ ms : List Nat, ms.length = count → (∀ n ∈ ms, n < 34359738368) → l ≠ codes ms := by
  intro ms hms _ e
  obtain ⟨ms', rfl, hr⟩ := codes_prefix ns ms rest (by omega) (hl.symm.trans e)
  match ms' with
  | [] => exact h (by rw [hr]; rfl)
  | m :: ms' => simp at hms; omega

set_option maxRecDepth 100000 in
set_option maxHeartbeats 1000000 in
theorem readNumbers_any (a : Option Addr) (len cap count : Nat) (l : List Int) (w : World) (hc : count ≤ 3) (h : sliceOf w a len cap l) :
    Calls Tryz.prog 97 #[.slice a len cap, .int .i64 count] w fun e w' => ∃ v ok, e = .returned (.tuple #[v, .bool ok]) ∧ readAns w' w.heap.size count l v ok ∧ Below w.heap.size w w' := by
  obtain ⟨i0, hi, hz0, hz1, hz2⟩ := info_parts Tryz.infoInt
  have HS : Hid (sliceOf w a len cap l) := h
  clear h
  generalize hB : w.heap.size = B
  have HB : Hid (w.heap.size = B) := hB
  go_enter Tryz.func97, Tryz.ntmps97
  go_wp2_with fail
  clear hB
  go_loopw [0, 6, 7] (fun b v i wr => ∃ (ns : List Nat) (a' : Option Addr) (len' cap' : Nat) (rest : List Int), ns.length ≤ count ∧ b = .slice a' len' cap' ∧ i = .int .i64 ns.length ∧ Hid (sliceOf w a' len' cap' rest) ∧ Hid (l = codes ns ++ rest) ∧ Hid (∀ n ∈ ns, n < 34359738368) ∧ wr.ownsRow B 3 1 v ns.length (intsV ns) ∧ Below B w wr) (fun _ _ i _ => count - (intOf i).toNat)
  case atStart =>
    exact ⟨[], a, len, cap, l, Nat.zero_le _, rfl, rfl, HS, rfl, fun _ h => by simp at h, by have := ownsRow_empty w B 3 (by rw [HB.out]; exact Nat.le_refl _); rw [HB.out] at this; exact this, (Below.refl _ _).alloc (by rw [HB.out]; exact Nat.le_refl _) _⟩
  case round =>
    obtain ⟨ns, a', len', cap', rest, hns, rfl, rfl, hs, hl, hnb, hown, hbel⟩ := hrel
    have hsz : B ≤ wr.heap.size := by have := hbel.size; rw [HB.out] at this; exact this
    by_cases hlt : ns.length < count
    · go_wp2_with fail
      refine (readNumber_any a' len' cap' rest _ (sliceOf_below hs.out (by rw [HB.out]; exact hbel))).mono ?_
      rintro e w1 ⟨n, k, rfl, hrn, rfl⟩
      rcases hrn with ⟨rfl, rfl, hno⟩ | ⟨r, hn, hk, hr⟩
      · have HN : Hid (∀ ms : List Nat, ms.length = count → (∀ n ∈ ms, n < 34359738368) → l ≠ codes ms) := no_more hl hlt hno
        clear hno
        go_wp2
        go_ret2
        exact ⟨_, _, rfl, ⟨fun h => by simp at h, fun _ => HN.out⟩, hbel⟩
      · have hkp : 1 ≤ k := by rw [hk]; exact code_pos n
        obtain ⟨hrl, hlc, _, _, hcl⟩ := hs.out
        obtain ⟨b, off, rfl, _, _⟩ := hcl (by rw [hr]; have := code_pos n; intro e; have := congrArg List.length e; simp at this; simp [this.1] at *)
        have hkl : k ≤ len' := by rw [hr] at hrl; simp at hrl; omega
        have HD : Hid (sliceOf w (if cap' = k then some ⟨b, off, none⟩ else some ⟨b, off + k, none⟩) (len' - k) (cap' - k) r) := sliceOf_drop (by rw [← hr]; exact hs.out) hk.symm
        have HL : Hid (l = codes (ns ++ [n]) ++ r) := by unfold Hid; rw [codes_snoc, List.append_assoc, ← hr]; exact hl
        have HNB : Hid (∀ m ∈ ns ++ [n], m < 34359738368) := by
          intro m hm
          rcases List.mem_append.1 hm with h | h
          · exact hnb.out m h
          · simp at h; omega
        have HO : Hid (∀ k, u6.ownBlock = some k → B ≤ k ∧ k < wr.heap.size) := World.ownsRow.lt hown
        have hcap0 : (k : Int) ≤ (len' : Int) := by omega
        clear hs hl hr hk hcl hnb hrl
        by_cases hcap : cap' = k
        · subst hcap
          rw [if_pos rfl, show len' - cap' = 0 by omega, Nat.sub_self] at HD
          go_wp2_with (at_builtin; refine wpList_append_own _ rfl _ _ 25 rfl B 3 i0 (.int .i64 0) 1 8 Tryz.underlying25 hi hz0 hz1 hz2 rfl (by decide) _ _ _ rfl (hown.alloc _) ⟨wr.heap.size, 0, none⟩ 1 1 [.int .i64 n] rfl rfl ?c1 ?c2 ?c3 ?c4 ?c5 ?_)
          case c1 => exact cell_one_new _ _ _
          case c2 => intro u hu; simp at hu; subst hu; rfl
          case c3 => unfold maxLen; omega
          case c4 => omega
          case c5 => simp; omega
          intro v' w1 hown' hgrow _
          clear hown
          go_wp2
          go_roundw
          case rel =>
            refine ⟨ns ++ [n], _, _, _, r, by simp <;> omega, rfl, by simp, HD, HL, HNB, ?_, ?_⟩
            · rw [intsV_snoc]; simpa using hown'
            · exact (hbel.alloc hsz _).grown hgrow (by simp; omega) (fun k hk => (HO.out k hk).1)
          case measure => simp [intOf]; omega
        · rw [if_neg hcap] at HD
          go_wp2_with (at_builtin; refine wpList_append_own _ rfl _ _ 25 rfl B 3 i0 (.int .i64 0) 1 8 Tryz.underlying25 hi hz0 hz1 hz2 rfl (by decide) _ _ _ rfl (hown.alloc _) ⟨wr.heap.size, 0, none⟩ 1 1 [.int .i64 n] rfl rfl ?c1 ?c2 ?c3 ?c4 ?c5 ?_)
          case c1 => exact cell_one_new _ _ _
          case c2 => intro u hu; simp at hu; subst hu; rfl
          case c3 => unfold maxLen; omega
          case c4 => omega
          case c5 => simp; omega
          intro v' w1 hown' hgrow _
          clear hown
          go_wp2
          go_roundw
          case rel =>
            refine ⟨ns ++ [n], _, _, _, r, by simp <;> omega, rfl, by simp, HD, HL, HNB, ?_, ?_⟩
            · rw [intsV_snoc]; simpa using hown'
            · exact (hbel.alloc hsz _).grown hgrow (by simp; omega) (fun k hk => (HO.out k hk).1)
          case measure => simp [intOf]; omega
    · have hce : ns.length = count := by omega
      have hrl : rest.length = len' := hs.out.1
      by_cases h0 : len' = 0
      · have hr0 : rest = [] := List.eq_nil_of_length_eq_zero (by omega)
        subst hr0
        have HL : Hid (l = codes ns) := by unfold Hid; have := hl.out; simpa using this
        clear hl hs
        subst h0
        go_wp2
        go_ret2
        exact ⟨_, _, rfl, ⟨fun _ => ⟨ns, hce, hnb.out, HL.out, hown⟩, fun h => by simp at h⟩, hbel⟩
      · have HN : Hid (∀ ms : List Nat, ms.length = count → (∀ n ∈ ms, n < 34359738368) → l ≠ codes ms) := no_rest hl hce (fun e => h0 (by rw [← hrl, e]; rfl))
        have h0' : ((len' : Int) == 0) = false := by simp; omega
        clear hl hs
        go_wp2
        go_ret2
        exact ⟨_, _, rfl, ⟨fun h => by simp at h, fun _ => HN.out⟩, hbel⟩

end Go.Proofs.YtfhncfghblkgeaaGreat
