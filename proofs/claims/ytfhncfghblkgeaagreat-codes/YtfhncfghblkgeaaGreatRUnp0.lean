/-
  saleref.same; what saleref.Unpack leans on.
-/
import Derived.Test.YtfhncfghblkgeaaGreatRNums
import Derived.Test.YtfhncfghblkgeaaGreatRPack
import Derived.Test.YtfhncfghblkgeaaGreatBack0
namespace Go.Proofs.YtfhncfghblkgeaaGreat
open Go.RowKit

theorem conv_slice {w : World} {a : Option Addr} {len cap : Nat} {l : List Int} (h : sliceOf w a len cap l) : (convert 92 9 (.slice a len cap)).run Tryz.prog w = .ok (.string (strOfNums l)) w := by
  obtain ⟨hl, _, _, _, hc⟩ := h
  by_cases h0 : l = []
  · subst h0
    simp at hl
    subst hl
    cases a with
    | none => exact run_convert_bytes_nil w 92 5 Tryz.underlying92 Tryz.underlying5 0 cap 9 Tryz.underlying9
    | some x =>
      rw [run_convert_bytes_string w 92 9 5 _ 0 cap Tryz.underlying92 Tryz.underlying5 Tryz.underlying9, run_bytesToString w x 0 cap [] (by simpa using run_loadCells_list (P := Tryz.prog) w x [] (by simp))]
      rfl
  · obtain ⟨b, off, rfl, _, hcell⟩ := hc h0
    exact run_convert_bytes_arg w 92 5 Tryz.underlying92 Tryz.underlying5 b off len cap l hl hcell 9 Tryz.underlying9

theorem byte_inj : ∀ (a b : List Int), (∀ x ∈ a, 0 ≤ x ∧ x < 256) → (∀ x ∈ b, 0 ≤ x ∧ x < 256) → (a.map fun n => UInt8.ofNat n.toNat) = (b.map fun n => UInt8.ofNat n.toNat) → a = b
  | [], [], _, _, _ => rfl
  | [], _ :: _, _, _, h => by simp at h
  | _ :: _, [], _, _, h => by simp at h
  | x :: a, y :: b, ha, hb, h => by
    simp only [List.map_cons, List.cons.injEq] at h
    have hx := ha x (by simp)
    have hy := hb y (by simp)
    have e : x = y := by
      have := congrArg UInt8.toNat h.1
      simp at this
      omega
    rw [e, byte_inj a b (fun z hz => ha z (by simp [hz])) (fun z hz => hb z (by simp [hz])) h.2]

theorem str_eq {a b : List Int} (ha : ∀ x ∈ a, 0 ≤ x ∧ x < 256) (hb : ∀ x ∈ b, 0 ≤ x ∧ x < 256) : ((strOfNums a).toList == (strOfNums b).toList) = decide (a = b) := by
  rw [ByteArray.toList_eq, ByteArray.toList_eq, strOfNums_data, strOfNums_data]
  by_cases h : a = b
  · subst h; simp
  · have : ¬ (a.map fun n => UInt8.ofNat n.toNat) = (b.map fun n => UInt8.ofNat n.toNat) := fun e => h (byte_inj a b ha hb e)
    simp [h, this]

set_option maxHeartbeats 400000 in
theorem same_any (a b : Option Addr) (la ca lb cb : Nat) (x y : List Int) (w : World) (ha : sliceOf w a la ca x) (hb : sliceOf w b lb cb y) :
    Calls Tryz.prog 110 #[.slice a la ca, .slice b lb cb] w fun e w' => e = .returned (.bool (decide (x = y))) ∧ w = w' := by
  have e1 := conv_slice ha
  have e2 := conv_slice hb
  have HE : Hid (((strOfNums x).toList == (strOfNums y).toList) = decide (x = y)) := str_eq ha.2.2.2.1 hb.2.2.2.1
  clear ha hb
  go_enter Tryz.func110, Tryz.ntmps110
  go_wp2
  go_ret
  exact ⟨by rw [← HE.out]; rfl, rfl⟩

/-- The request that the reference makes of a kind and numbers. -/
def refReq (x : Int) (ms : List Nat) : Int × Int × Int × Int × Int :=
  if x = 4 ∧ ms.length = 2 then (4, 0, (ms.getD 0 0 : Int), 0, (ms.getD 1 0 : Int))
  else if x = 1 ∧ ms.length = 3 then (1, (ms.getD 0 0 : Int), (ms.getD 1 0 : Int), (ms.getD 2 0 : Int), 0)
  else if ms.length = 3 then (x, (ms.getD 0 0 : Int), (ms.getD 1 0 : Int), 0, (ms.getD 2 0 : Int))
  else (x, 0, 0, 0, 0)

theorem ref_req {x : Int} {tl : List Int} {ms : List Nat} (hr : RNS tl ms) {k t c u o : Int} (h : isB k t c u o = true) (e : x :: tl = frameB k (numsOf k t c u o)) : refReq x ms = (k, t, c, u, o) := by
  have h0 := h
  obtain ⟨ha, hl, hp⟩ := isB_nums h
  rw [frameB_codes] at e
  simp only [List.cons.injEq] at e
  obtain ⟨rfl, e⟩ := e
  have hms := hr _ (by rw [List.length_map, hl]; unfold cnt; split <;> (try split) <;> (try split) <;> omega) (all_lt (by rw [toNat_back _ ha]; exact ha)) e
  subst hms
  have hb := toNat_back _ ha
  unfold isB at h0
  unfold numsOf at hb ⊢
  unfold refReq
  split at h0
  · next h1 =>
    subst h1
    simp at hb h0 ⊢
    omega
  · next h1 =>
    split at h0
    · next h2 =>
      rw [if_neg h1, if_pos h2] at hb ⊢
      simp at hb h0 ⊢
      simp [h1]
      omega
    · next h2 =>
      split at h0
      · next h4 =>
        subst h4
        simp at hb h0 ⊢
        omega
      · simp at h0

end Go.Proofs.YtfhncfghblkgeaaGreat
