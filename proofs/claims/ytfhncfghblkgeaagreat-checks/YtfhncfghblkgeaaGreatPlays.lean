/-
  The walk: plays, whatever a step keeps.
-/
import Derived.Test.YtfhncfghblkgeaaGreatPlay
import Derived.Test.YtfhncfghblkgeaaGreatWBase
namespace Go.Proofs.YtfhncfghblkgeaaGreat
open Go.RowKit

/-- A step of a script. -/
structure OpV where
  k : Int
  a : Int
  b : Int
  c : Int
  d : Int
  e : Int
  s : ByteArray

/-- A step as the program holds it. -/
def OpV.val (o : OpV) : Value := .agg #[.int .i64 o.k, .int .i64 o.a, .int .i64 o.b, .int .i64 o.c, .int .i64 o.d, .int .i64 o.e, .string o.s]

/-- A step of which nothing is said. -/
def op0 : OpV := ⟨0, 0, 0, 0, 0, 0, ByteArray.empty⟩

/-- A step in memory. -/
def opAt (w : World) (b i : Nat) (o : OpV) : Prop :=
  w.cell? ⟨b, i, none⟩ = some (.int .i64 o.k) ∧ w.cell? ⟨b, i + 1, none⟩ = some (.int .i64 o.a) ∧ w.cell? ⟨b, i + 2, none⟩ = some (.int .i64 o.b) ∧ w.cell? ⟨b, i + 3, none⟩ = some (.int .i64 o.c) ∧
  w.cell? ⟨b, i + 4, none⟩ = some (.int .i64 o.d) ∧ w.cell? ⟨b, i + 5, none⟩ = some (.int .i64 o.e) ∧ w.cell? ⟨b, i + 6, none⟩ = some (.string o.s)

/-- A script in memory. -/
def scriptAt (w : World) (a : Option Addr) (len : Nat) (ops : List OpV) : Prop :=
  ops.length = len ∧ (ops ≠ [] → ∃ b off, a = some ⟨b, off, none⟩ ∧ b < w.heap.size ∧ ∀ i, i < len → opAt w b (off + i * 7) (ops.getD i op0))

/-- Numbers in a row. -/
def rowAt (w : World) (b : Nat) (ns : List Int) : Prop := ns.length ≤ 100 ∧ b < w.heap.size ∧ ∀ i, i < ns.length → w.cell? ⟨b, 0 + i, none⟩ = some (.int .i64 (ns.getD i 0))

theorem rowAt.below {w w' : World} {b B : Nat} {ns : List Int} (h : rowAt w b ns) (hb : Below B w w') (hB : w.heap.size ≤ B) : rowAt w' b ns :=
  ⟨h.1, Nat.lt_of_lt_of_le h.2.1 hb.size, fun i hi => (hb.cell (p := ⟨b, 0 + i, none⟩) (Nat.lt_of_lt_of_le h.2.1 hB)).trans (h.2.2 i hi)⟩

theorem opAt.below {w w' : World} {b i B : Nat} {o : OpV} (h : opAt w b i o) (hb : Below B w w') (hB : b < B) : opAt w' b i o := by
  obtain ⟨h0, h1, h2, h3, h4, h5, h6⟩ := h
  exact ⟨(hb.cell (p := ⟨b, i, none⟩) hB).trans h0, (hb.cell (p := ⟨b, i + 1, none⟩) hB).trans h1, (hb.cell (p := ⟨b, i + 2, none⟩) hB).trans h2, (hb.cell (p := ⟨b, i + 3, none⟩) hB).trans h3, (hb.cell (p := ⟨b, i + 4, none⟩) hB).trans h4, (hb.cell (p := ⟨b, i + 5, none⟩) hB).trans h5, (hb.cell (p := ⟨b, i + 6, none⟩) hB).trans h6⟩

/-- Where the world's block of a script lies. -/
def worldPtr (w : World) : Value := .pointer (some ⟨w.heap.size, 0, none⟩)

set_option maxRecDepth 100000 in
set_option maxHeartbeats 2000000 in
theorem plays_any {α : Type} (Inv : Nat → α → World → Prop) (own : α → Nat → Prop) (w : World) (ac : Option Addr) (lc cc : Nat) (a : Option Addr) (len cap : Nat) (ops : List OpV) (bp cp bh ch : Nat) (play hold : List Int)
    (hs : scriptAt w a len ops) (hlen : len * 64 ≤ 140737488351232) (hp : rowAt w bp play) (hh : rowAt w bh hold)
    (hown : ∀ j σ w' b, Inv j σ w' → own σ b → b < w'.heap.size) (hinv : ∀ j σ w1 w2, Inv j σ w1 → Below w1.heap.size w1 w2 → Inv j σ w2) (hskip : ∀ j σ w1, Inv j σ w1 → Inv (j + 1) σ w1) (hbel : ∀ j σ w', Inv j σ w' → Below w.heap.size w w')
    (h0 : ∃ σ, Inv 0 σ (w.alloc (.cells #[.slice ac lc cc, .slice none 0 0, .slice none 0 0, .slice none 0 0, .slice none 0 0] 67)))
    (hstep : ∀ j σ w1 o, j < len → o ∈ ops → play.any (· == o.k) = true → Inv j σ w1 → Calls Tryz.prog 24 #[worldPtr w, o.val] w1 fun e w2 => e = .returned (.bool true) ∧ (∃ σ', Inv (j + 1) σ' w2) ∧ Same (own σ) w1 w2)
    (hlooks : ∀ j σ w1, j ≤ len → Inv j σ w1 → Calls Tryz.prog 25 #[worldPtr w] w1 fun e w2 => e = .returned (.bool true) ∧ Inv j σ w2) :
    Calls Tryz.prog 12 #[.slice ac lc cc, .slice a len cap, .slice (some ⟨bp, 0, none⟩) play.length cp, .slice (some ⟨bh, 0, none⟩) hold.length ch] w fun e w' => e = .returned (.bool true) ∧ Below w.heap.size w w' := by
  have HS : Hid (scriptAt w a len ops) := hs
  have HP : Hid (rowAt w bp play) := hp
  have HH : Hid (rowAt w bh hold) := hh
  have HOWN : Hid (∀ j σ w' b, Inv j σ w' → own σ b → b < w'.heap.size) := hown
  have HINV : Hid (∀ j σ w1 w2, Inv j σ w1 → Below w1.heap.size w1 w2 → Inv j σ w2) := hinv
  have HSK : Hid (∀ j σ w1, Inv j σ w1 → Inv (j + 1) σ w1) := hskip
  have HBEL : Hid (∀ j σ w', Inv j σ w' → Below w.heap.size w w') := hbel
  have HST : Hid (∀ j σ w1 o, j < len → o ∈ ops → play.any (· == o.k) = true → Inv j σ w1 → Calls Tryz.prog 24 #[worldPtr w, o.val] w1 fun e w2 => e = .returned (.bool true) ∧ (∃ σ', Inv (j + 1) σ' w2) ∧ Same (own σ) w1 w2) := hstep
  have HLK : Hid (∀ j σ w1, j ≤ len → Inv j σ w1 → Calls Tryz.prog 25 #[worldPtr w] w1 fun e w2 => e = .returned (.bool true) ∧ Inv j σ w2) := hlooks
  have H0 : Hid (∃ σ, Inv 0 σ (w.alloc (.cells #[.slice ac lc cc, .slice none 0 0, .slice none 0 0, .slice none 0 0, .slice none 0 0] 67))) := h0
  clear hs hp hh hown hinv hskip hbel h0 hstep hlooks
  go_enter Tryz.func12, Tryz.ntmps12
  go_wp2_with fail
  go_loopw [10] (fun i wr => ∃ j : Nat, j ≤ len ∧ i = .int .i64 j ∧ Hid (∃ σ, Inv j σ wr)) (fun i _ => len - (intOf i).toNat)
  case atStart => exact ⟨0, Nat.zero_le _, rfl, H0⟩
  case round =>
    obtain ⟨j, hj, rfl, σ, hI⟩ := hrel
    have HI : Hid (Inv j σ wr) := hI
    clear hI
    by_cases hlt : j < len
    · obtain ⟨hl, hsc⟩ := HS.out
      obtain ⟨b, off, rfl, hbw, hop⟩ := hsc (fun e => by rw [e] at hl; simp at hl; omega)
      have hmax : (j : Int) < 288230376151711744 := by omega
      have hb0 := HBEL.out j σ wr HI.out
      have hmem : Hid (ops.getD j op0 ∈ ops) := by unfold Hid; simp [List.getD, List.getElem?_eq_getElem (show j < ops.length by omega)]
      obtain ⟨e0, e1, e2, e3, e4, e5, e6⟩ := (hop j hlt).below hb0 hbw
      generalize ops.getD j op0 = o at hmem e0 e1 e2 e3 e4 e5 e6
      have hI1 : Hid (∀ O, Inv j σ (wr.alloc O)) := fun O => HINV.out j σ wr _ HI.out ((Below.refl _ _).alloc (Nat.le_refl _) O)
      have hwr : w.heap.size ≤ wr.heap.size := hb0.size
      clear hop hsc
      by_cases hin : play.any (· == o.k) = true
      · have HIN : Hid (play.any (· == o.k) = true) := hin
        clear hin
        have HPW : Hid (∀ O, rowAt (wr.alloc O) bp play) := fun O => HP.out.below (hb0.alloc hwr O) (Nat.le_refl _)
        go_wp2_with fail
        refine (among_any bp 0 cp play o.k _ HP.out.1 (HPW.out _).2.2).mono ?_
        rintro e w1 ⟨rfl, rfl⟩
        rw [HIN.out]
        go_wp2_with fail
        refine (HST.out j σ _ o hlt hmem.out HIN.out (hI1.out _)).mono ?_
        rintro e w2 ⟨rfl, ⟨σ', hI2⟩, hsame⟩
        have HI2 : Hid (Inv (j + 1) σ' w2) := hI2
        have hb2 := HBEL.out (j + 1) σ' w2 hI2
        have HH2 : Hid (rowAt w2 bh hold) := HH.out.below hb2 (Nat.le_refl _)
        have q0 : w2.cell? ⟨wr.heap.size, 0, none⟩ = some (.int .i64 o.k) := (hsame.cell (by simp) (fun h => by have := HOWN.out j σ wr _ HI.out h; omega)).trans (by simp [go_sem])
        clear hI2 hsame e0 e1 e2 e3 e4 e5 e6
        go_wp2_with fail
        refine (among_any bh 0 ch hold o.k _ HH2.out.1 HH2.out.2.2).mono ?_
        rintro e w3 ⟨rfl, rfl⟩
        go_wp2_with fail
        refine (HLK.out (j + 1) σ' _ hlt HI2.out).mono ?_
        rintro e w4 ⟨rfl, hI4⟩
        have HI4 : Hid (Inv (j + 1) σ' w4) := hI4
        clear hI4
        go_wp2
        go_roundw
        case rel => exact ⟨j + 1, by omega, by go_num, ⟨σ', HI4.out⟩⟩
        case measure => simp [intOf]; omega
      · have HIN : Hid (play.any (· == o.k) = false) := Bool.eq_false_iff.2 hin
        clear hin
        have HPW : Hid (∀ O, rowAt (wr.alloc O) bp play) := fun O => HP.out.below (hb0.alloc hwr O) (Nat.le_refl _)
        go_wp2_with fail
        refine (among_any bp 0 cp play o.k _ HP.out.1 (HPW.out _).2.2).mono ?_
        rintro e w1 ⟨rfl, rfl⟩
        rw [HIN.out]
        go_wp2
        go_roundw
        case rel => exact ⟨j + 1, by omega, by go_num, ⟨σ, HSK.out j σ _ (hI1.out _)⟩⟩
        case measure => simp [intOf]; omega
    · have hje : j = len := by omega
      subst hje
      have hbe := HBEL.out j σ wr HI.out
      go_wp2
      go_ret
      exact ⟨rfl, hbe⟩

end Go.Proofs.YtfhncfghblkgeaaGreat
