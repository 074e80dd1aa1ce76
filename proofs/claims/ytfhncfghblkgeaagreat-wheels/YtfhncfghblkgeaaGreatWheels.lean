/-
  The law Wheels: its walk, and the statement.
-/
import Derived.Test.YtfhncfghblkgeaaGreatScript
import Derived.Test.YtfhncfghblkgeaaGreatWheelsB
namespace Go.Proofs.YtfhncfghblkgeaaGreat
open Go.ChangeShapes Go.WideShapes Go.ChangeAt Go.RowKit
set_option linter.unusedVariables false

set_option maxRecDepth 100000 in
set_option maxHeartbeats 1000000 in
theorem step_timed (P : Nat) (o : OpV) (w : World) (hk : 4 ≤ o.k ∧ o.k ≤ 9) (Q : World → Prop)
    (HT : Hid (∀ W, Below w.heap.size w W → Calls Tryz.prog 47 #[.pointer (some ⟨P, 0, none⟩), o.val] W fun e w' => e = .returned (.bool true) ∧ Q w')) :
    Calls Tryz.prog 24 #[.pointer (some ⟨P, 0, none⟩), o.val] w fun e w' => e = .returned (.bool true) ∧ Q w' := by
  obtain ⟨k, oa, ob, oc, od, oe, os⟩ := o
  simp only at hk
  unfold OpV.val at HT ⊢
  simp only at HT ⊢
  have h2 : (k == 2) = false := by simp; omega
  have h3 : (k == 3) = false := by simp; omega
  have h4 : decide (4 ≤ k) = true := by simpa using hk.1
  have h9 : decide (k ≤ 9) = true := by simpa using hk.2
  obtain ⟨hk4, hk9⟩ := hk
  go_enter Tryz.func24, Tryz.ntmps24
  go_wp2_with (go_at_call 47; refine (HT.out _ (by repeat (first | exact Below.refl _ _ | refine Below.drew ?_ | refine below_drewN ?_ | refine Below.alloc ?_ (by first | exact Nat.le_refl _ | omega | (simp <;> omega)) _))).mono ?_; rintro e w1 ⟨rfl, hq⟩)
  go_ret
  exact ⟨rfl, hq⟩

theorem at_flat {w : World} {B g n cap : Nat} {Es : List TE} (h : w.ownsRow B 153 2 (.slice (some ⟨g, 0, none⟩) n cap) n (flatE Es)) {i : Nat} {e : TE} (hi : Es[i]? = some e) :
    w.cell? ⟨g, i * 2, none⟩ = some (.pointer (some ⟨e.x, 0, none⟩)) ∧ w.cell? ⟨g, i * 2 + 1, none⟩ = some (.pointer (some ⟨e.R, 0, none⟩)) := by
  have hf := flatE_at hi
  have c0 := h.cells (g := g) rfl _ _ hf.1
  have c1 := h.cells (g := g) rfl _ _ hf.2
  rw [Addr.add_lit, Nat.zero_add] at c0 c1
  exact ⟨c0, c1⟩

theorem timed_inv {W : World} {ac : Option Addr} {lc cc j : Nat} {σ : TS} {w : World} (h : invT W ac lc cc j σ w) (o : OpV) (hk : 4 ≤ o.k ∧ o.k ≤ 9) (ho : opOK o) (hj : j * 64 + 64 ≤ 140737488351232) :
    Calls Tryz.prog 47 #[.pointer (some ⟨W.heap.size, 0, none⟩), o.val] w fun e w' => e = .returned (.bool true) ∧ (∃ σ', invT W ac lc cc (j + 1) σ' w') ∧ Same (ownT W σ) w w' := by
  have hlE := h.lenE
  have hlD := h.lenD
  have hP : W.heap.size < w.heap.size := (Array.getElem?_eq_some_iff.1 h.world).1
  by_cases hk4 : o.k = 4
  · exact (timed_new timersW W.heap.size σ.Es.length _ _ σ.vt _ σ.vd (flatE σ.Es) o w hk4 h.world h.ts (by omega)).mono (by rintro e w' ⟨rfl, A⟩; exact ⟨rfl, invT_new h A⟩)
  · have h2 : w.cell? ⟨W.heap.size, 2, none⟩ = some σ.vt := by rw [Joins.cell_of_block h.world]; rfl
    by_cases hne : σ.Es.length = 0
    · obtain ⟨a, c, hv⟩ := own_slice h.ts
      rw [hne] at hv
      exact (timed_none W.heap.size o w a c (by omega) (by rw [h2, hv])).mono (by rintro e w' ⟨rfl, b⟩; exact ⟨rfl, invT_same h b⟩)
    · have hpos : 0 < σ.Es.length := by omega
      have hpick := pickN_lt o.a hpos
      obtain ⟨rt, cap, hvt⟩ : ∃ rt cap, σ.vt = .slice (some ⟨rt, 0, none⟩) σ.Es.length cap := by
        rcases h.ts.2 with ⟨_, h0⟩ | ⟨g, c, cur, hv, _⟩
        · omega
        · exact ⟨g, c, hv⟩
      have hi : σ.Es[pickN o.a σ.Es.length]? = some σ.Es[pickN o.a σ.Es.length] := List.getElem?_eq_getElem hpick
      generalize σ.Es[pickN o.a σ.Es.length] = e at hi
      have he := h.ent _ e hi
      have hts := h.ts
      rw [hvt] at hts h2
      obtain ⟨c0, c1⟩ := at_flat hts hi
      have hL := he.2.2.2
      have hfar := h.far _ e hi
      by_cases h5 : o.k = 5
      · exact (timed_set timersW W.heap.size (W.heap.size + 1) e.R e.x rt σ.Es.length cap e.own e.v e.now e.L o w h5 ho.2.1 h2 hpos (by omega) c0 c1 he.1 he.2.1 he.2.2.1 hP (by omega)).mono (by rintro _ w' ⟨rfl, A⟩; exact ⟨rfl, invT_pair h hi (by have := setL_len e.now e.L o.b o.c; omega) A⟩)
      by_cases h6 : o.k = 6
      · exact (timed_unset timersW W.heap.size (W.heap.size + 1) e.R e.x rt σ.Es.length cap e.own e.v e.now e.L o w h6 ho.2.1 h2 hpos (by omega) c0 c1 he.1 he.2.1 he.2.2.1 hP (by omega)).mono (by rintro _ w' ⟨rfl, A⟩; exact ⟨rfl, invT_pair h hi (by have := unsetL_len e.L o.b; omega) A⟩)
      by_cases h7 : o.k = 7
      · exact (timed_first timersW W.heap.size (W.heap.size + 1) e.R e.x rt σ.Es.length cap e.own e.v e.now e.L o w h7 ho.2.1 h2 hpos (by omega) c0 c1 he.1 he.2.1 he.2.2.1 hP (by omega)).mono (by rintro _ w' ⟨rfl, A⟩; exact ⟨rfl, invT_pair h hi (by omega) A⟩)
      by_cases h8 : o.k = 8
      · exact (timed_size timersW W.heap.size (W.heap.size + 1) e.R e.x rt σ.Es.length cap e.own e.v e.now e.L o w h8 ho.2.1 h2 hpos (by omega) c0 c1 he.1 he.2.1 he.2.2.1 hP (by omega)).mono (by rintro _ w' ⟨rfl, A⟩; exact ⟨rfl, invT_pair h hi (by omega) A⟩)
      · have h9 : o.k = 9 := by omega
        have hw := h.world
        rw [hvt] at hw
        refine (timed_advance timersW W.heap.size (W.heap.size + 1) e.R e.x rt σ.Es.length cap _ _ _ σ.vd σ.Ld e.own e.v e.now e.L o w h9 ho.2.1 hw h.dues (fun c => by have := (hfar _ (.inl c)).1; omega) (fun k hk c => (hfar k (.inl c)).2.2.1 hk) (by omega) hpos (by omega) c0 c1 he.1 he.2.1 he.2.2.1 hP (by omega)).mono ?_
        rintro _ w' ⟨rfl, A⟩
        rw [← hvt] at A
        exact ⟨rfl, invT_adv h hi (by have := advL_len e.now o.b e.L; omega) A⟩

theorem wheels_plays (W : World) (ac : Option Addr) (lc cc : Nat) (a : Option Addr) (len cap : Nat) (ops : List OpV) (bp bh : Nat) (hs : scriptAt W a len ops) (hok : ∀ o ∈ ops, opOK o) (hlen : len * 64 ≤ 140737488351232) (hp : rowAt W bp [4, 5, 6, 7, 8, 9]) (hh : rowAt W bh [4, 5, 6, 7, 8, 9]) :
    Calls Tryz.prog 12 #[.slice ac lc cc, .slice a len cap, .slice (some ⟨bp, 0, none⟩) 6 6, .slice (some ⟨bh, 0, none⟩) 6 6] W fun e w' => e = .returned (.bool true) ∧ Below W.heap.size W w' := by
  refine plays_any (invT W ac lc cc) (ownT W) W ac lc cc a len cap ops bp 6 bh 6 [4, 5, 6, 7, 8, 9] [4, 5, 6, 7, 8, 9] hs hlen hp hh (fun j σ w' b h hb => ownT_lt h hb) (fun j σ w1 w2 h hb => invT_below h hb) (fun j σ w1 h => invT_skip h) (fun _ _ _ h => h.bel) ⟨_, invT_start W ac lc cc⟩ ?_ ?_
  · intro j σ w1 o hj ho hk h
    have hk' : 4 ≤ o.k ∧ o.k ≤ 9 := by simp at hk; omega
    refine step_timed W.heap.size o w1 hk' _ (fun w2 hb => ?_)
    refine (timed_inv (invT_below h hb) o hk' (hok o ho) (by omega)).mono ?_
    rintro e w3 ⟨rfl, hi, hs3⟩
    exact ⟨rfl, hi, Same.trans (Same.of_below (own := fun _ => False) hb) hs3 (fun k _ e => e.elim False.elim id)⟩
  · intro j σ w1 hj h
    have c3 : w1.cell? ⟨W.heap.size, 3, none⟩ = some (.slice none 0 0) := by rw [Joins.cell_of_block h.world]; rfl
    have c4 : w1.cell? ⟨W.heap.size, 4, none⟩ = some σ.vd := by rw [Joins.cell_of_block h.world]; rfl
    have hlD := h.lenD
    rcases h.dues.2 with ⟨hv, h0⟩ | ⟨rb, cp, cur, hv, hrb, hh3, _⟩
    · rw [hv] at c4
      refine (looks_none W.heap.size w1 c3 c4).mono ?_
      rintro e w2 ⟨rfl, rfl⟩
      exact ⟨rfl, h⟩
    · rw [hv] at c4
      have hd := h.dues
      rw [hv] at hd
      refine (looks_dues W.heap.size rb σ.Ld.length cp σ.Ld w1 c3 c4 (by omega) (fun i hi => ?_) h.marks).mono ?_
      · have := hd.cells (g := rb) rfl i (σ.Ld.getD i undef) (by simp [List.getD, List.getElem?_eq_getElem hi])
        simpa [Addr.add_lit] using this
      · rintro e w2 ⟨rfl, b2⟩
        exact ⟨rfl, invT_below h b2⟩

set_option maxHeartbeats 1000000 in
theorem wheels_walk (ac : Option Addr) (lc cc : Nat) (a : Option Addr) (len cap : Nat) (ops : List OpV) (w : World) (hs : scriptAt w a len ops) (hok : ∀ o ∈ ops, opOK o) (hlen : len * 64 ≤ 140737488351232) :
    Calls Tryz.prog 5 #[.slice ac lc cc, .slice a len cap] w fun e w' => e = .returned (.bool true) ∧ Below w.heap.size w w' := by
  have HS : Hid (scriptAt w a len ops) := hs
  have HO : Hid (∀ o ∈ ops, opOK o) := hok
  clear hs hok
  go_enter Tryz.func5, Tryz.ntmps5
  go_wp2_with fail
  have hW : Below w.heap.size w (w.alloc (.cells #[.int .i64 4, .int .i64 5, .int .i64 6, .int .i64 7, .int .i64 8, .int .i64 9] 3)) := (Below.refl _ _).alloc (Nat.le_refl _) _
  have hrow : rowAt (w.alloc (.cells #[.int .i64 4, .int .i64 5, .int .i64 6, .int .i64 7, .int .i64 8, .int .i64 9] 3)) w.heap.size [4, 5, 6, 7, 8, 9] := ⟨by simp, by simp, fun i hi => by
    match i, hi with
    | 0, _ => simp [go_sem]
    | 1, _ => simp [go_sem]
    | 2, _ => simp [go_sem]
    | 3, _ => simp [go_sem]
    | 4, _ => simp [go_sem]
    | 5, _ => simp [go_sem]⟩
  refine (wheels_plays _ ac lc cc a len cap ops w.heap.size w.heap.size (HS.out.below hW (Nat.le_refl _)) HO.out hlen hrow hrow).mono ?_
  rintro e w2 ⟨rfl, b2⟩
  go_wp2
  go_ret
  exact ⟨rfl, hW.trans (b2.mono (by simp <;> omega))⟩

set_option maxRecDepth 100000 in
theorem wheels_lifted (os : Os) (started : os.Started) (H : Type) (enc : TypeId × Value → H) :
    ReturnsInHanded {} Tryz.checked os 5 .any (Rows.wheelsSpec.pre6 enc Tryz.prog Tryz.f5 Rows.wheelsRow.domain false) (Rows.wheelsSpec.post enc Tryz.prog Tryz.f5 false true false false) := by
  refine returnsInHanded_of_change_sized (C := Tryz.checked) own started (by kernel_rfl) Tryz.func5
    (ChangeSpec.witness6 (enc := enc) (C := Tryz.checked) false ⟨#[], #[.slice none 0 0, .slice none 0 0], []⟩ 8 (by kernel_rfl) (by kernel_rfl) (by kernel_rfl) (by kernel_rfl)) ?_
  intro W base args ds gs before hval0 hW hcnd hsz0 _
  have hval : ∀ (j : Nat) t v, Tryz.f5.params[j]? = some t → args[j]? = some v → Value.okWide Tryz.prog W .any base t v := hval0
  have hsz : (DataW.weightsEach Tryz.prog (Tryz.f5.params.toList ++ Rows.wheelsSpec.plain.varTypes Tryz.prog) (ds ++ gs)).all (· ≤ reachBytes) = true := hsz0
  have hW' := hW
  obtain ⟨p, q, hA0, hV, rfl, hfz, hnd⟩ := hW
  have hA : DataW.TrodAll enc Tryz.prog W 0 (fun _ => true) true Tryz.f5.params.toList args.toList ds p := hA0
  rw [Tryz.params5] at hA hval hsz
  obtain ⟨v0, vs0, d0, ds0, p0, q0, hargs, rfl, rfl, h0, r0⟩ := trodAll_cons hA
  obtain ⟨v1, vs1, d1, ds1, p1, q1, rfl, rfl, rfl, h1, r1⟩ := trodAll_cons r0
  obtain ⟨rfl, rfl, rfl⟩ := trodAll_nil r1
  obtain rfl : args = #[v0, v1] := by cases args; simp_all
  obtain ⟨rfl, rfl⟩ := trodVars_none hV
  have k0 := h0
  have k1 := h1
  have lt0 : ∀ x ∈ p0, x.block < W.heap.size := by obtain ⟨m, hm⟩ := k0; exact DataW.trod_lt m _ _ _ hm
  have lt1 : ∀ x ∈ p1, x.block < W.heap.size := by obtain ⟨m, hm⟩ := k1; exact DataW.trod_lt m _ _ _ hm
  have w0 : wOK 22 d0 := fun x hx => by simpa using List.all_eq_true.1 hsz x (DataW.weights_mem_each (j := 0) rfl rfl x hx)
  have w1 : wOK 23 d1 := fun x hx => by simpa using List.all_eq_true.1 hsz x (DataW.weights_mem_each (j := 1) rfl rfl x hx)
  obtain ⟨ac, lc, cc, rfl, hc⟩ := cfgs_open (hval 0 22 v0 rfl rfl) h0 w0
  obtain ⟨a, len, cap, ops, rfl, hs, hok, hl⟩ := script_open (hval 1 23 v1 rfl rfl) h1 w1
  clear hA0 hval0
  refine (wheels_walk ac lc cc a len cap ops W hs hok hl).mono fun e W' ⟨he, bel⟩ => ?_
  subst he
  exact ⟨_, rfl, _, _, _, [], _, [], hW', trodAll_mk1 (shut_bool Tryz.underlying4 _), (trodAll_cons_mk (Below.trod laidOut (by kernel_rfl) (of_decide_eq_true (by kernel_rfl)) k0 bel lt0) (trodAll_cons_mk (Below.trod laidOut (by kernel_rfl) (of_decide_eq_true (by kernel_rfl)) k1 bel lt1) trodAll_mk0)), rfl, bel.frame _, fun h => by cases h⟩

theorem wheels_holds : Rows.WheelsSaid :=
  OpenClaim.holds_of_wide 5 Tryz.f5 rfl rfl rfl rfl rfl rfl rfl ⟨rfl, rfl, rfl, rfl, rfl⟩ rfl rfl rfl rfl rfl (by kernel_rfl) Tryz.func5 (by kernel_rfl)
    (of_decide_eq_true (by kernel_rfl)) (by unfold Func.isWrapper; first | (rw [if_pos (by decide +kernel)]; kernel_rfl) | (rw [if_neg (by decide +kernel)]; exact ⟨rfl, rfl⟩))
    (fun os started H enc _ => wheels_lifted os started H enc)

#print axioms wheels_holds
end Go.Proofs.YtfhncfghblkgeaaGreat
