/-
  Rings: the loop over the steps; the statement. (Written by ringgen6.py.)
-/
import Derived.Test.YtfhncfghblkgeaaRing5
import Derived.Test.YtfhncfghblkgeaaOpenG
namespace Go.Proofs.Ytfhncfghblkgeaa
open Go.ChangeShapes Go.WideShapes Go.ChangeAt Go.RowKit

theorem Try.cellsRing : Try.prog.cellsOf 42 = 3 := by kernel_rfl
theorem Try.bytesRing : Try.prog.bytesOf 42 = 24 := by kernel_rfl

/-- A step's three numbers. -/
def ringAt (w : World) (b i : Nat) (r : Int × Int × Int) : Prop := w.cell? ⟨b, i, none⟩ = some (.int .i64 r.1) ∧ w.cell? ⟨b, i + 1, none⟩ = some (.int .i64 r.2.1) ∧ w.cell? ⟨b, i + 2, none⟩ = some (.int .i64 r.2.2)

/-- The steps that came in. -/
def ringsAt (w : World) (a : Option Addr) (len : Nat) : Prop := len * 24 ≤ 140737488351232 ∧ (0 < len → ∃ b off, a = some ⟨b, off, none⟩ ∧ b < w.heap.size ∧ ∀ i, i < len → ∃ r, ringAt w b (off + i * 3) r)

set_option maxRecDepth 100000 in
theorem rings_open {H : Type} {enc : TypeId × Value → H} {w : World} {held : Bool} {r : Reach} {b0 : Nat} {v : Value} {d : DataW H} {p : List MemPlace}
    (hv : Value.okWide Try.prog w r b0 33 v) (h : DataW.Trod enc Try.prog w 0 (fun _ => true) held 33 v d p) (hw : wOK 33 d) :
    ∃ (a : Option Addr) (len cap : Nat), v = .slice a len cap ∧ ringsAt w a len := by
  obtain ⟨a, len, cap, rfl⟩ := okWide_slice Try.underlying33 hv
  obtain ⟨fuel, hf⟩ := h
  rcases rows_open Try.underlying33 Try.underlying42 Try.cellsRing hf hw with ⟨rfl, rfl, rfl⟩ | ⟨ad, rfl, hlc, hb, hrow⟩
  · exact ⟨none, 0, 0, rfl, by omega, fun h => by omega⟩
  · rw [Try.bytesRing] at hb
    have hb' : len * 24 ≤ 140737488351232 := by simp only [reachBytes] at hb; omega
    by_cases h0 : len = 0
    · subst h0
      exact ⟨some ad, 0, cap, rfl, by omega, fun h => by omega⟩
    obtain ⟨b, off, rfl⟩ : ∃ b off, ad = ⟨b, off, none⟩ := by
      obtain ⟨cs, xs, n, hcl, hcc, _⟩ := hrow 0 (by omega)
      have := hcc 0 (by omega)
      rw [List.getElem?_eq_getElem (by omega)] at this
      exact addr_plain (by simpa using this)
    have hall : ∀ i, i < len → ∃ r, ringAt w b (off + i * 3) r := by
      intro i hi
      obtain ⟨cs, xs, n, hcl, hcc, hxl, hf, hwt⟩ := hrow i hi
      have hxl' : xs.length = 3 := hxl
      obtain ⟨n0, e0, _⟩ := int_field (k := 0) (by omega) (hf 0 _ rfl) (some_at hxl' (by omega))
      obtain ⟨n1, e1, _⟩ := int_field (k := 1) (by omega) (hf 1 _ rfl) (some_at hxl' (by omega))
      obtain ⟨n2, e2, _⟩ := int_field (k := 2) (by omega) (hf 2 _ rfl) (some_at hxl' (by omega))
      have hc : ∀ j, j < 3 → w.cell? ⟨b, off + i * 3 + j, none⟩ = cs[j]? := fun j hj => by rw [← hcc j hj, Addr.add_lit, Nat.add_assoc]
      exact ⟨(n0, n1, n2), (hc 0 (by omega)).trans e0, (hc 1 (by omega)).trans e1, (hc 2 (by omega)).trans e2⟩
    obtain ⟨r, hr, _⟩ := hall 0 (by omega)
    exact ⟨some ⟨b, off, none⟩, len, cap, rfl, hb', fun _ => ⟨b, off, rfl, World.block_lt_of_cell? w _ hr, hall⟩⟩

/-- A step, whatever it is. -/
theorem rings_step (B R x : Nat) (own : Nat → Prop) (v : Value) (now : Int) (L : List (Int × Int)) (kind id a : Int) (w : World) (hB : B ≤ w.heap.size) (h : ringSt w B R x own v now L) (hl : L.length * 16 + 16 ≤ 140737488351232) :
    Calls Try.prog 11 #[.pointer (some ⟨R, 0, none⟩), .pointer (some ⟨x, 0, none⟩), .agg #[.int .i64 kind, .int .i64 id, .int .i64 a]] w fun e w' => e = .returned (.bool true) ∧ ringAns w w' B R x own v (L.length + 1) := by
  by_cases h0 : kind = 0
  · subst h0
    by_cases ha : a ≤ now
    · exact rings_set_arg B R x own v now L id a w h hl ha
    · by_cases hq : 0 ≤ idxT L id
      · exact rings_set_taken B R x own v now L id a w h hl ha hq
      · exact rings_set_new B R x own v now L id a w hB h hl ha hq
  · by_cases h1 : kind = 1
    · subst h1
      by_cases hq : idxT L id < 0
      · exact rings_unset_none B R x own v now L id a w h hl hq
      · exact rings_unset_some B R x own v now L id a w h hl (idxT L id).toNat (by omega) (idxT_at (by omega)).1
    · have k0 : (kind == 0) = false := by simpa using h0
      have k1 : (kind == 1) = false := by simpa using h1
      by_cases ha : a < now
      · exact rings_adv_arg B R x own v now L id a w h hl kind k0 k1 ha
      · exact rings_adv_go B R x own v now L id a w h hl kind k0 k1 ha

theorem first_step (B R x : Nat) (own : Nat → Prop) (v : Value) (now : Int) (L : List (Int × Int)) (w : World) (h : ringSt w B R x own v now L) (hl : L.length * 16 + 16 ≤ 140737488351232) :
    Calls Try.prog 12 #[.pointer (some ⟨R, 0, none⟩), .pointer (some ⟨x, 0, none⟩)] w fun e w' => e = .returned (.bool true) ∧ Below w.heap.size w w' := by
  by_cases hne : L = []
  · subst hne
    exact pfirst_nil B R x own v now w h
  · exact pfirst_some B R x own v now L w h hne hl

/-- In the loop over the steps. -/
def ringInv (W wr : World) (R x k : Nat) : Prop :=
  ∃ own v now L, ringSt wr W.heap.size R x own v now L ∧ L.length ≤ k ∧ (∀ b, own b → W.heap.size ≤ b) ∧ (∀ b, v.ownBlock = some b → W.heap.size ≤ b) ∧ W.heap.size ≤ R ∧ Below W.heap.size W wr

theorem ringInv_below {W wr w2 : World} {R x k : Nat} (h : ringInv W wr R x k) (hb : Below wr.heap.size wr w2) : ringInv W w2 R x k := by
  obtain ⟨own, v, now, L, h1, h2, h3, h4, h5, h6⟩ := h
  exact ⟨own, v, now, L, ⟨pend_below h1.pend hb, pw_below h1.pw hb, h1.apart⟩, h2, h3, h4, h5, h6.trans (hb.mono h6.size)⟩

theorem ringInv_step {W wr w2 : World} {R x k : Nat} {own : Nat → Prop} {v : Value} {n : Nat} (hn : n ≤ k) (h3 : ∀ b, own b → W.heap.size ≤ b) (h4 : ∀ b, v.ownBlock = some b → W.heap.size ≤ b) (h5 : W.heap.size ≤ R) (h6 : Below W.heap.size W wr) (h : ringAns wr w2 W.heap.size R x own v n) : ringInv W w2 R x k := by
  obtain ⟨own', v', now', L', a1, a2, a3, a4, a5⟩ := h
  refine ⟨own', v', now', L', a1, by omega, fun b hb => (a4 b hb).elim (h3 b) (Nat.le_trans h6.size), fun b hb => (a5 b hb).elim (h4 b) (Nat.le_trans h6.size), h5, ?_⟩
  refine ⟨a3.os.trans h6.os, a3.tape.trans h6.tape, a3.output.trans h6.output, Nat.le_trans h6.size a3.size, fun b hb => ?_⟩
  rw [a3.block b (Nat.lt_of_lt_of_le hb h6.size) (fun e => by
    rcases e with e | e | e
    · have := h3 b e; omega
    · omega
    · have := h4 b e; omega)]
  exact h6.block b hb

/-- A step and the look behind it. -/
theorem rings_call {W wr : World} {R x k : Nat} (kind id a : Int) (h : ringInv W wr R x k) (hk : k * 16 + 32 ≤ 140737488351232) :
    ∀ w1, Below wr.heap.size wr w1 → Calls Try.prog 11 #[.pointer (some ⟨R, 0, none⟩), .pointer (some ⟨x, 0, none⟩), .agg #[.int .i64 kind, .int .i64 id, .int .i64 a]] w1 fun e w' => e = .returned (.bool true) ∧ ringInv W w' R x (k + 1) := by
  intro w1 hb
  obtain ⟨own, v, now, L, h1, h2, h3, h4, h5, h6⟩ := ringInv_below h hb
  exact (rings_step W.heap.size R x own v now L kind id a w1 h6.size h1 (by omega)).mono (by rintro e w' ⟨rfl, A⟩; exact ⟨rfl, ringInv_step (by omega) h3 h4 h5 h6 A⟩)

theorem first_call {W wr : World} {R x k : Nat} (h : ringInv W wr R x k) (hk : k * 16 + 16 ≤ 140737488351232) :
    ∀ w1, Below wr.heap.size wr w1 → Calls Try.prog 12 #[.pointer (some ⟨R, 0, none⟩), .pointer (some ⟨x, 0, none⟩)] w1 fun e w' => e = .returned (.bool true) ∧ ringInv W w' R x k := by
  intro w1 hb
  have hi := ringInv_below h hb
  obtain ⟨own, v, now, L, h1, h2, h3, h4, h5, h6⟩ := hi
  exact (first_step W.heap.size R x own v now L w1 h1 (by omega)).mono (by rintro e w' ⟨rfl, A⟩; exact ⟨rfl, ringInv_below ⟨own, v, now, L, h1, h2, h3, h4, h5, h6⟩ A⟩)

theorem ring_start {W w1 : World} {x : Nat} {own : Nat → Prop} {now : Int} (hp : pwW w1 x own now []) (ho : ∀ k, own k → W.heap.size ≤ k) (hb : Below W.heap.size W w1) :
    ringInv W (w1.alloc (.cells #[.int .i64 now, .slice none 0 0] 39)) w1.heap.size x 0 := by
  have lt := pwW_lt hp
  refine ⟨own, .slice none 0 0, now, [], ⟨⟨heap_alloc_new _ _, World.ownsRow_nil _ _ _ _⟩, pw_alloc _ hp, fun e => by have := lt _ e; omega, fun k hk => by simp [Value.ownBlock] at hk⟩, Nat.le_refl _, ho, fun k hk => by simp [Value.ownBlock] at hk, hb.size, hb.alloc hb.size _⟩

set_option maxRecDepth 100000 in
set_option maxHeartbeats 4000000 in
theorem rings_walk (now : Int) (a : Option Addr) (len cap : Nat) (w : World) (hs : ringsAt w a len) :
    Calls Try.prog 5 #[.int .i64 now, .slice a len cap] w fun e w' => e = .returned (.bool true) ∧ Below w.heap.size w w' := by
  have HNW : Hid (∀ W, Below w.heap.size w W → Calls Try.prog 10 #[.int .i64 now] W fun e w' => ∃ x own, e = .returned (.pointer (some ⟨x, 0, none⟩)) ∧ pwW w' x own now [] ∧ (∀ k, own k → W.heap.size ≤ k) ∧ Below W.heap.size W w') := fun W _ => new_any W now
  have hl := hs.1
  have HS : Hid (0 < len → ∃ b off, a = some ⟨b, off, none⟩ ∧ b < w.heap.size ∧ ∀ i, i < len → ∃ r, ringAt w b (off + i * 3) r) := hs.2
  clear hs
  go_enter Try.func5, Try.ntmps5
  go_wp2_with fail
  refine (HNW.out _ (by repeat (first | exact Below.refl _ _ | assumption | refine Below.drew ?_ | refine below_drawn ?_ _ | refine Below.alloc ?_ (by first | exact Nat.le_refl _ | omega | (simp <;> omega)) _))).mono ?_
  rintro e w1 ⟨x, own, rfl, hp, ho, hb⟩
  have I0 := ring_start hp ho hb
  clear hp ho hb HNW
  go_wp2_with fail
  go_loopw [7] (fun i wr => ∃ k : Nat, k ≤ len ∧ i = .int .i64 k ∧ Hid (ringInv w wr w1.heap.size x k)) (fun i _ => len - (intOf i).toNat)
  case atStart => exact ⟨0, Nat.zero_le _, rfl, I0⟩
  case round =>
    obtain ⟨k, hk, rfl, I⟩ := hrel
    have hbw : Below w.heap.size w wr := by obtain ⟨_, _, _, _, _, _, _, _, _, h⟩ := I.out; exact h
    by_cases hlt : k < len
    · obtain ⟨b, off, rfl, hbw', hcell⟩ := HS.out (by omega)
      obtain ⟨⟨kind, id, t⟩, c0, c1, c2⟩ := hcell k hlt
      simp only at c0 c1 c2
      have d0 := (hbw.cell (p := ⟨b, off + k * 3, none⟩) hbw').trans c0
      have d1 := (hbw.cell (p := ⟨b, off + k * 3 + 1, none⟩) hbw').trans c1
      have d2 := (hbw.cell (p := ⟨b, off + k * 3 + 2, none⟩) hbw').trans c2
      have HR := rings_call kind id t I.out (by omega)
      have HR' : Hid (∀ w1_1, Below wr.heap.size wr w1_1 → Calls Try.prog 11 #[.pointer (some ⟨w1.heap.size, 0, none⟩), .pointer (some ⟨x, 0, none⟩), .agg #[.int .i64 kind, .int .i64 id, .int .i64 t]] w1_1 fun e w' => e = .returned (.bool true) ∧ ringInv w w' w1.heap.size x (k + 1)) := HR
      have b0 : (0 : Int) ≤ (k : Int) := by omega
      have b1 : (k : Int) < (len : Int) := by omega
      clear c0 c1 c2 hcell HR I
      go_wp2_with (first
        | (go_at_call 11; refine (HR'.out _ (by repeat (first | exact Below.refl _ _ | assumption | refine Below.drew ?_ | refine below_drawn ?_ _ | refine Below.alloc ?_ (by first | exact Nat.le_refl _ | omega | (simp <;> omega)) _))).mono ?_; rintro e w2 ⟨rfl, I2⟩
           have HF : Hid (∀ w3, Below w2.heap.size w2 w3 → Calls Try.prog 12 #[.pointer (some ⟨w1.heap.size, 0, none⟩), .pointer (some ⟨x, 0, none⟩)] w3 fun e w' => e = .returned (.bool true) ∧ ringInv w w' w1.heap.size x (k + 1)) := first_call I2 (by omega))
        | (go_at_call 12; refine (HF.out _ (by repeat (first | exact Below.refl _ _ | assumption | refine Below.drew ?_ | refine below_drawn ?_ _ | refine Below.alloc ?_ (by first | exact Nat.le_refl _ | omega | (simp <;> omega)) _))).mono ?_; rintro e w3 ⟨rfl, I3⟩))
      exact ⟨⟨k + 1, by omega, by go_num, I3⟩, by simp [intOf]; omega⟩
    · go_wp2
      go_ret
      exact ⟨rfl, hbw⟩

set_option maxRecDepth 100000 in
theorem rings_lifted (os : Os) (started : os.Started) (H : Type) (enc : TypeId × Value → H) :
    ReturnsInHanded {} Try.checked os 5 .any (Rows.ringsSpec.pre6 enc Try.prog Try.f5 Rows.ringsRow.domain false) (Rows.ringsSpec.post enc Try.prog Try.f5 false true false false) := by
  refine returnsInHanded_of_change_sized (C := Try.checked) own started (by kernel_rfl) Try.func5
    (ChangeSpec.witness6 (enc := enc) (C := Try.checked) false ⟨#[], #[.int .i64 0, .slice none 0 0], []⟩ 8 (by kernel_rfl) (by kernel_rfl) (by kernel_rfl) (by kernel_rfl)) ?_
  intro W base args ds gs before hval0 hW hcnd hsz0 _
  have hval : ∀ (j : Nat) t v, Try.f5.params[j]? = some t → args[j]? = some v → Value.okWide Try.prog W .any base t v := hval0
  have hsz : (DataW.weightsEach Try.prog (Try.f5.params.toList ++ Rows.ringsSpec.plain.varTypes Try.prog) (ds ++ gs)).all (· ≤ reachBytes) = true := hsz0
  have hW' := hW
  obtain ⟨p, q, hA0, hV, rfl, hfz, hnd⟩ := hW
  have hA : DataW.TrodAll enc Try.prog W 0 (fun _ => true) true Try.f5.params.toList args.toList ds p := hA0
  rw [Try.params5] at hA hval hsz
  obtain ⟨v0, vs0, d0, ds0, p0, q0, hargs, rfl, rfl, h0, r0⟩ := trodAll_cons hA
  obtain ⟨v1, vs1, d1, ds1, p1, q1, rfl, rfl, rfl, h1, r1⟩ := trodAll_cons r0
  obtain ⟨rfl, rfl, rfl⟩ := trodAll_nil r1
  obtain rfl : args = #[v0, v1] := by cases args; simp_all
  obtain ⟨rfl, rfl⟩ := trodVars_none hV
  have k0 := h0
  have k1 := h1
  have lt0 : ∀ x ∈ p0, x.block < W.heap.size := by obtain ⟨m, hm⟩ := k0; exact DataW.trod_lt m _ _ _ hm
  have lt1 : ∀ x ∈ p1, x.block < W.heap.size := by obtain ⟨m, hm⟩ := k1; exact DataW.trod_lt m _ _ _ hm
  have w1 : wOK 33 d1 := fun x hx => by simpa using List.all_eq_true.1 hsz x (DataW.weights_mem_each (j := 1) rfl rfl x hx)
  obtain ⟨n, rfl⟩ := okWide_int Try.underlying3 (hval 0 3 v0 rfl rfl)
  obtain ⟨a, len, cap, rfl, hs⟩ := rings_open (hval 1 33 v1 rfl rfl) h1 w1
  clear hA0 hval0
  refine (rings_walk n a len cap W hs).mono fun e W' ⟨he, bel⟩ => ?_
  subst he
  exact ⟨_, rfl, _, _, _, [], _, [], hW', trodAll_mk1 (shut_bool Try.underlying4 _), (trodAll_cons_mk (Below.trod laidOut (by kernel_rfl) (of_decide_eq_true (by kernel_rfl)) k0 bel lt0) (trodAll_cons_mk (Below.trod laidOut (by kernel_rfl) (of_decide_eq_true (by kernel_rfl)) k1 bel lt1) trodAll_mk0)), rfl, bel.frame _, fun h => by cases h⟩

theorem rings_holds : Rows.RingsSaid :=
  OpenClaim.holds_of_wide 5 Try.f5 rfl rfl rfl rfl rfl rfl rfl ⟨rfl, rfl, rfl, rfl, rfl⟩ rfl rfl rfl rfl rfl (by kernel_rfl) Try.func5 (by kernel_rfl)
    (of_decide_eq_true (by kernel_rfl)) (by unfold Func.isWrapper; first | (rw [if_pos (by decide +kernel)]; kernel_rfl) | (rw [if_neg (by decide +kernel)]; exact ⟨rfl, rfl⟩))
    (fun os started H enc _ => rings_lifted os started H enc)

#print axioms rings_holds
end Go.Proofs.Ytfhncfghblkgeaa
