import Derived.Test.YtfhncfghblkgeabGreatL42
set_option maxRecDepth 100000
set_option maxHeartbeats 2000000
namespace Go.Proofs.YtfhncfghblkgeabGreat
open Go.RowKit
section
structure PSK (w : World) (x : Nat) (own : Nat → Prop) (S : Sal) : Prop where
 ps : PSW w x own S
 J : salJ S
 I : keepI S
def psk' (x : Nat) (S : Sal) (W : World) (o : Nat → Prop) : Prop := PSK W x o S
theorem keepPSK (x : Nat) (S : Sal) : Keeps (psk' x S) := ⟨fun h => sendW.lt h.ps, fun h hz hk => ⟨sendW.keep h.ps hz hk, h.J, h.I⟩⟩
theorem keepPSW (x : Nat) (S : Sal) : Keeps (fun W o => PSW W x o S) := ⟨fun h => sendW.lt h, fun h hz hk => sendW.keep h hz hk⟩
section
variable {w : World} {x : Nat} {own : Nat → Prop} {S : Sal}
theorem does_any (h : PSK w x own S) (p : Stp) (hp : p.fine) :
 Calls Tryz.prog 15 #[pt x 0, p.val] w fun e w' => e = .returned (.tuple #[(S.does p).1.val, .bool true]) ∧ ansP (psk' x (S.does p).2) w w' own := by
 obtain ⟨h1, hJ, hI⟩ := h
 obtain ⟨⟨n1, n2⟩, ⟨k1, k2⟩, ⟨t1, t2⟩, ⟨c1, c2⟩, ⟨u1, u2⟩, ⟨o1, o2⟩⟩ := hp
 have hR := h1.2
 have h0 := hJ.I.now
 unfold Sal.does
 by_cases hs : 0 ≤ p.k ∧ p.k < 256
 ·have hS : ∀ W, Calls Tryz.prog 26 #[.agg #[iv p.k, iv p.t, iv p.c, iv p.u, iv p.o]] W fun e w' => e = .returned (.bool true) ∧ Below W.heap.size W w' := fun W => by
   have := small_any p.k p.t p.c p.u p.o W
   rw [decide_eq_true hs.1, decide_eq_true hs.2] at this
   exact this
  rw [if_pos hs]
  by_cases hk : p.k = 0
  ·rw [if_pos hk]
   obtain ⟨n, k, t, c, u, o⟩ := p
   simp only at *
   subst hk
   have hJ' := tick_salJ hJ n
   refine (does_tick x n t c u o S.now (S.tick n).2.now (S.tick n).1.1 (S.tick n).1.2 w own (fun W o => PSW W x o S) (fun W o => PSW W x o (S.tick n).2) (keepPSW _ _) (keepPSW _ _) h1 h0 ?_ hS (fun W o hp => tickW.clock hp hJ) (fun W o hp => tickW.tick n n1 (by omega) hp hJ) (fun W o hp => tickW.clock hp hJ')).mono ?_
   ·unfold Sal.tick
    by_cases hn : n < 0
    ·rw [if_pos hn]; exact .inl ⟨hn, rfl, rfl, rfl⟩
    ·rw [if_neg hn]
     by_cases hlt : n < 4611686018427387904 - S.now
     ·rw [if_pos hlt]; exact .inr (.inl ⟨hn, hlt, rfl, rfl, tickTo_at _ _⟩)
     ·rw [if_neg hlt]; exact .inr (.inr ⟨hn, hlt, rfl, rfl, tickTo_at _ _⟩)
   ·rintro e w' ⟨rfl, hq⟩
    exact ⟨rfl, ansP_mono hq (fun W o hp => ⟨hp, hJ', tick_keepI hI n⟩)⟩
  ·rw [if_neg hk]
   have hbne : (p.k != 0) = true := by simpa using hk
   have HF : ∀ W, Calls Tryz.prog 28 #[.agg #[iv p.k, iv p.t, iv p.c, iv p.u, iv p.o]] W fun e w' => ∃ ba bl bc, e = .returned (.slice ba bl bc) ∧ sliceOf w' ba bl bc p.bytes ∧ Below W.heap.size W w' := fun W => by
    refine (framedI p.k p.t p.c p.u p.o W hs.1 hs.2 t2 c2 u2 o2).mono ?_
    rintro e w' ⟨v, rfl, hown, hb⟩
    obtain ⟨g, cap, rfl, hs'⟩ := bytesAt_slice (bytesAt_of hown (by unfold frameB; simp)) (p.bytes_byte hs)
    exact ⟨_, _, _, rfl, hs', hb⟩
   have hSend : ∀ W o ba bl bc, PSW W x o S → sliceOf W ba bl bc p.bytes → Calls Tryz.prog 27 #[pt x 0, .slice ba bl bc] W fun e w' => e = .returned (S.sendK p).1.val ∧ ansP (fun W o => PSW W x o (S.sendK p).2) W w' o := fun W o ba bl bc hps hsl => by
    unfold Sal.sendK
    rcases p.un with ⟨hb, hun⟩ | ⟨hb, hun⟩
    ·rw [if_pos hb]
     exact sendW.send hps hJ hsl hun
    ·rw [if_neg (by rw [hb]; decide)]
     have := sendW.send hps hJ hsl hun
     unfold Sal.send at this
     rw [if_pos (by decide)] at this
     exact this
   have hfit : ∀ W, Calls Tryz.prog 29 #[.agg #[iv p.k, iv p.t, iv p.c, iv p.u, iv p.o], .agg #[iv (S.sendK p).1.kind, iv (S.sendK p).1.order, iv (S.sendK p).1.cents, iv (S.sendK p).1.upto]] W fun e w' => e = .returned (.bool true) ∧ Below W.heap.size W w' := fun W => by
    cases hb : p.ok
    ·have e : (S.sendK p).1 = ⟨1, 0, 0, 0⟩ := by unfold Sal.sendK; rw [hb]; rfl
     rw [e]
     exact fits_no p.k p.t p.c p.u p.o W hb
    ·exact fits_yes p.k p.t p.c p.u p.o _ _ _ _ W hb (sendK_fit hI hR h0.1 hb).1
   have hI' : keepI (S.sendK p).2 := by
    cases hb : p.ok
    ·have e : (S.sendK p).2 = S := by unfold Sal.sendK; rw [hb]; rfl
     rw [e]; exact hI
    ·exact (sendK_fit hI hR h0.1 hb).2
   refine (does_send x p.n p.k p.t p.c p.u p.o (S.sendK p).1.kind (S.sendK p).1.order (S.sendK p).1.cents (S.sendK p).1.upto w own (fun W o => PSW W x o S) (fun W o => PSW W x o (S.sendK p).2) (keepPSW _ _) (keepPSW _ _) h1 hbne (fun W ba bl bc => sliceOf W ba bl bc p.bytes) hS HF hSend hfit).mono ?_
   rintro e w' ⟨rfl, hq⟩
   exact ⟨rfl, ansP_mono hq (fun W o hp => ⟨hp, sendK_salJ hJ p, hI'⟩)⟩
 ·rw [if_neg hs]
  refine (does_out x p.n p.k p.t p.c p.u p.o w own (fun W o => PSW W x o S) (keepPSW _ _) h1 (fun W => ?_)).mono ?_
  ·have := small_any p.k p.t p.c p.u p.o W
   rw [show (decide (0 ≤ p.k) && decide (p.k < 256)) = false by simpa using hs] at this
   exact this
  ·rintro e w' ⟨rfl, hq⟩
   exact ⟨rfl, ansP_mono hq (fun W o hp => ⟨hp, hJ, hI⟩)⟩
end
end
structure OpenOK (PS : World → Nat → (Nat → Prop) → Sal → Prop) : Prop where
 no : ∀ {w : World} {n0 n1 n2 n3 n4 n5 n6 : Int} {a : Option Addr} {len cap : Nat} {ts : List (Int × Int)}, tiersAt w a len cap ts → cfgB [n0, n1, n2, n3, n4, n5, n6] ts = false → Calls Tryz.prog 18 #[.agg #[iv n0, iv n1, iv n2, iv n3, iv n4, iv n5, iv n6, .slice a len cap]] w fun e w' => e = .returned (.tuple #[.pointer none, iv 1]) ∧ Below w.heap.size w w'
 yes : ∀ {w : World} {n0 n1 n2 n3 n4 n5 n6 : Int} {a : Option Addr} {len cap : Nat} {ts : List (Int × Int)}, tiersAt w a len cap ts → cfgB [n0, n1, n2, n3, n4, n5, n6] ts = true → Calls Tryz.prog 18 #[.agg #[iv n0, iv n1, iv n2, iv n3, iv n4, iv n5, iv n6, .slice a len cap]] w fun e w' => ∃ x own, e = .returned (.tuple #[pt x 0, iv 0]) ∧ PS w' x own ⟨⟨n0, n1, n2, n3, n4, n5, n6, ts⟩, 0, [], []⟩ ∧ (∀ k, own k → w.heap.size ≤ k) ∧ Below w.heap.size w w'
theorem joined_walk (at' : Int) (n : Nat) (v0 v1 v2 v3 v4 v5 v6 v7 : Value) (sa : Option Addr) (sc : Nat) (ps : List Stp) (w : World) (Q : Nat → World → (Nat → Prop) → Prop) (KQ : ∀ x, Keeps (Q x)) (P Pm Pt : Nat → Nat → Nat → World → (Nat → Prop) → Prop) (KP : ∀ a b j, Keeps (P a b j)) (KPm : ∀ a b j, Keeps (Pm a b j)) (KPt : ∀ a b j, Keeps (Pt a b j)) (rep : Nat → Rep) (fst : Nat → Int) (hn : n ≤ 4611686018427387904) (hps : stepsAt w sa n ps)
 (HO : Hid (∀ W, Below w.heap.size w W → Calls Tryz.prog 7 #[.agg #[v0, v1, v2, v3, v4, v5, v6, v7, .slice sa n sc]] W fun e w' => ∃ x own, e = .returned (.tuple #[pt x 0, .bool true]) ∧ Q x w' own ∧ (∀ k, own k → W.heap.size ≤ k) ∧ Below W.heap.size W w'))
 (HP0 : Hid (∀ a b W o1 o2 o, Q a W o1 → Q b W o2 → (∀ k, o1 k → ¬ o2 k) → (∀ k, o k ↔ o1 k ∨ o2 k) → P a b 0 W o))
 (HDa : Hid (∀ a b j, j < n → ∀ W o, P a b j W o → Calls Tryz.prog 15 #[pt a 0, .agg #[iv (ps.getD j stp0).n, iv (ps.getD j stp0).k, iv (ps.getD j stp0).t, iv (ps.getD j stp0).c, iv (ps.getD j stp0).u, iv (ps.getD j stp0).o]] W fun e w' => e = .returned (.tuple #[.agg #[iv (rep j).kind, iv (rep j).order, iv (rep j).cents, iv (rep j).upto], .bool true]) ∧ ansP (Pm a b j) W w' o))
 (HFst : Hid (∀ j, j < n → (ps.getD j stp0).k = 0 → 0 < (ps.getD j stp0).n → (0 ≤ fst j ∧ fst j ≤ (ps.getD j stp0).n ∧ (ps.getD j stp0).n < 9223372036854775808)))
 (HPk : Hid (∀ j, j < n → (ps.getD j stp0).k = 0 → 0 < (ps.getD j stp0).n → ∀ W, Calls Tryz.prog 9 #[iv at', iv (ps.getD j stp0).n] W fun e w' => e = .returned (iv (fst j)) ∧ Below W.heap.size W w'))
 (HDb1 : Hid (∀ a b j, j < n → (ps.getD j stp0).k = 0 → 0 < (ps.getD j stp0).n → ∀ W o, Pm a b j W o → Calls Tryz.prog 15 #[pt b 0, .agg #[iv (fst j), iv 0, iv 0, iv 0, iv 0, iv 0]] W fun e w' => e = .returned (.tuple #[.agg #[iv 0, iv 0, iv 0, iv 0], .bool true]) ∧ ansP (Pt a b j) W w' o))
 (HDb2 : Hid (∀ a b j, j < n → (ps.getD j stp0).k = 0 → 0 < (ps.getD j stp0).n → ∀ W o, Pt a b j W o → Calls Tryz.prog 15 #[pt b 0, .agg #[iv ((ps.getD j stp0).n - fst j), iv (ps.getD j stp0).k, iv (ps.getD j stp0).t, iv (ps.getD j stp0).c, iv (ps.getD j stp0).u, iv (ps.getD j stp0).o]] W fun e w' => e = .returned (.tuple #[.agg #[iv (rep j).kind, iv (rep j).order, iv (rep j).cents, iv (rep j).upto], .bool true]) ∧ ansP (P a b (j + 1)) W w' o))
 (HDb : Hid (∀ a b j, j < n → ¬ ((ps.getD j stp0).k = 0 ∧ 0 < (ps.getD j stp0).n) → ∀ W o, Pm a b j W o → Calls Tryz.prog 15 #[pt b 0, .agg #[iv (ps.getD j stp0).n, iv (ps.getD j stp0).k, iv (ps.getD j stp0).t, iv (ps.getD j stp0).c, iv (ps.getD j stp0).u, iv (ps.getD j stp0).o]] W fun e w' => e = .returned (.tuple #[.agg #[iv (rep j).kind, iv (rep j).order, iv (rep j).cents, iv (rep j).upto], .bool true]) ∧ ansP (P a b (j + 1)) W w' o))
 (HAl : Hid (∀ a b j W o, j ≤ n → P a b j W o → stepsAt W sa n ps → (∀ c off, sa = some (aq c off) → ps ≠ [] → ¬ o c) → Calls Tryz.prog 14 #[.agg #[v0, v1, v2, v3, v4, v5, v6, v7, .slice sa n sc], pt a 0, pt b 0] W fun e w' => e = .returned (.bool true) ∧ ansP (P a b j) W w' o)) :
 Calls Tryz.prog 4 #[.agg #[v0, v1, v2, v3, v4, v5, v6, v7, .slice sa n sc], iv at'] w fun e w' => e = .returned (.bool true) ∧ Below w.heap.size w w' := by
 have hlen : ps.length = n := hps.1
 go_enter Tryz.func4, Tryz.ntmps4
 go_wp2_with fail
 refine (HO.out _ ((Below.refl _ _).alloc (Nat.le_refl _) _)).mono ?_
 rintro e W1 ⟨xa, oa, rfl, hqa, hfa, b1⟩
 have hb1 : Below w.heap.size w W1 := Below.trans ((Below.refl _ _).alloc (Nat.le_refl _) _) (b1.mono (by simp))
 have x1 : Hid _ := (b1.block w.heap.size (by simp)).trans (heap_alloc_new w (.cells #[v0, v1, v2, v3, v4, v5, v6, v7, .slice sa n sc] 27))
 have hfa1 : ∀ k, oa k → w.heap.size + 1 ≤ k := fun k e => Nat.le_trans (by simp) (hfa k e)
 obtain ⟨k0, k1, k2, k3, k4, k5, k6, k7, k8⟩ := nineK x1.out
 have l1 : w.heap.size < W1.heap.size := (blt x1.out)
 replace hqa : Hid _ := hqa
 replace hfa1 : Hid _ := hfa1
 replace hb1 : Hid _ := hb1
 clear b1 hfa
 go_wp2_with fail
 refine (HO.out _ hb1.out).mono ?_
 rintro e W2 ⟨xb, ob, rfl, hqb, hfb, b2⟩
 clear k0 k1 k2 k3 k4 k5 k6 k7 k8
 have hb2 : Hid (Below w.heap.size w W2) := hb1.out.trans (b2.mono hb1.out.size)
 have x2 : Hid _ := (b2.block w.heap.size l1).trans x1.out
 have hqa2 : Q xa W2 oa := (KQ xa).keep hqa.out b2.size (fun k e => b2.block k ((KQ xa).lt hqa.out k e))
 have hdis2 : ∀ k, oa k → ¬ ob k := fun k e c => by
  have h1 := (KQ xa).lt hqa.out k e
  have h2 := hfb k c
  omega
 obtain ⟨own2, hiff⟩ : ∃ own2 : Nat → Prop, ∀ k, own2 k ↔ oa k ∨ ob k := ⟨fun k => oa k ∨ ob k, fun _ => Iff.rfl⟩
 have hown : Hid (∀ k, own2 k → w.heap.size + 1 ≤ k) := fun k e => ((hiff k).1 e).elim (hfa1.out k) (fun e => by have := hfb k e; omega)
 have hp2 : Hid (P xa xb 0 W2 own2) := HP0.out xa xb W2 oa ob own2 hqa2 hqb hdis2 hiff
 have l2 : w.heap.size < W2.heap.size := (blt x2.out)
 have HS2 : Hid (∀ W, Same own2 W2 W → stepsAt W sa n ps) := fun W hs => ⟨hps.1, fun hne => by
  obtain ⟨b, off, e, hb, hc⟩ := hps.2 hne
  have hbW := hb2.out.block b hb
  have hk := (hs.block b (by omega) (fun c => by have := hown.out b c; omega)).trans hbW
  exact ⟨b, off, e, by have := hs.size; omega, fun i hi => stpAt_keep (hc i hi) hk⟩⟩
 have HX2 : Hid (∀ W, Same own2 W2 W → W.heap[w.heap.size]? = some (.cells #[v0, v1, v2, v3, v4, v5, v6, v7, .slice sa n sc] 27 (0, 0))) := fun W hs => (hs.block _ l2 (fun e => by have := hown.out _ e; omega)).trans x2.out
 have HD2 : Hid (∀ b off, sa = some (aq b off) → ps ≠ [] → ¬ own2 b) := fun b off e hne c => by
  obtain ⟨b', off', e', hb, _⟩ := hps.2 hne
  rw [e] at e'
  simp only [Option.some.injEq, Addr.mk.injEq] at e'
  have := hown.out b c
  omega
 have HE2 : Hid (∀ W, ansP (P xa xb n) W2 W own2 → Below w.heap.size w W) := fun W h => by
  obtain ⟨_, _, hs, _⟩ := h
  exact hb2.out.trans (hs.toBelow hb2.out.size (fun k e => by have := hown.out k e; omega))
 have HW2 : Hid (∀ k, own2 k → k < W2.heap.size) := (KP xa xb 0).lt hp2.out
 obtain ⟨k0, k1, k2, k3, k4, k5, k6, k7, k8⟩ := nineK x2.out
 clear hqa2 hqb hdis2 hfb b2 hqa hfa1 hb1 x1 hown l1 hiff
 go_wp2_with fail
 clear k0 k1 k2 k3 k4 k5 k6 k7 k8
 have hT2 : Hid (seenL (P xa xb 0) W2 own2 (fun _ => False) W2) := seenL_start (KP xa xb 0) hp2.out (Below.refl _ _) (fun _ e => e.elim)
 go_loopw [8] (fun i wr => ∃ j : Nat, j ≤ n ∧ i = iv j ∧ Hid (seenL (P xa xb j) W2 own2 (fun _ => False) wr)) (fun i _ => n - (intOf i).toNat)
 case atStart => exact ⟨0, Nat.zero_le _, rfl, hT2⟩
 case round =>
  obtain ⟨j, hj, rfl, HK⟩ := hrel
  clear hT2 hp2 HP0 HO hb2 x2 l2
  have HXj : Hid _ := HX2.out
  by_cases hlt : j < n
  ·obtain ⟨b, off, hsa, _, _⟩ := (HS2.out wr (seenL_same HK.out)).2 (by intro e; rw [e] at hlen; simp at hlen; omega)
   have HAj : Hid (∀ W, seenL (P xa xb (j + 1)) W2 own2 (fun _ => False) W → Calls Tryz.prog 14 #[.agg #[v0, v1, v2, v3, v4, v5, v6, v7, .slice sa n sc], pt xa 0, pt xb 0] W fun e w' => e = .returned (.bool true) ∧ seenL (P xa xb (j + 1)) W2 own2 (fun _ => False) w') := fun W hW => by
    have hst := HS2.out W (seenL_same hW)
    obtain ⟨o1, a1, a2, a3, a4⟩ := hW
    refine (HAl.out xa xb (j + 1) W o1 (by omega) a1 hst (fun c off e hne c2 => ?_)).mono ?_
    ·rcases a3 c c2 with c3 | c3
     ·exact HD2.out c off e hne c3
     ·obtain ⟨b2, off2, e2, hb2, _⟩ := (HS2.out W2 ⟨rfl, rfl, rfl, Nat.le_refl _, fun _ _ _ => rfl⟩).2 hne
      rw [e] at e2
      simp only [Option.some.injEq, Addr.mk.injEq] at e2
      omega
    ·rintro e w' ⟨rfl, o2, c1, c2, c3⟩
     have z1 := a2.size
     exact ⟨rfl, o2, c1, Same.trans a2 c2 (fun k hk e => e.elim id (fun e => (a3 k e).elim id (fun e => by omega))), fun k e => (c3 k e).elim (fun d => (a3 k d).imp id (fun e => e)) (fun e => .inr ⟨by omega, id⟩), fun _ e => e.elim⟩
   have HDaj : Hid (∀ oz W, seenL (P xa xb j) W2 own2 (fun k => False ∨ k = oz) W → _) := fun oz W hW => seenL_call (loc := (fun k => False ∨ k = oz)) HW2.out (HDa.out xa xb j hlt) W hW
   have HDbj : Hid (¬ ((ps.getD j stp0).k = 0 ∧ 0 < (ps.getD j stp0).n) → ∀ oz pz W, seenL (Pm xa xb j) W2 own2 (fun k => (False ∨ k = oz) ∨ k = pz) W → _) := fun hc oz pz W hW => seenL_call (loc := (fun k => (False ∨ k = oz) ∨ k = pz)) HW2.out (HDb.out xa xb j hlt hc) W hW
   have HPkj : Hid _ := HPk.out j hlt
   have HD1j : Hid ((ps.getD j stp0).k = 0 → 0 < (ps.getD j stp0).n → ∀ oz pz W, seenL (Pm xa xb j) W2 own2 (fun k => (False ∨ k = oz) ∨ k = pz) W → _) := fun h1 h2 oz pz W hW => seenL_call (loc := (fun k => (False ∨ k = oz) ∨ k = pz)) HW2.out (HDb1.out xa xb j hlt h1 h2) W hW
   have HD2j : Hid ((ps.getD j stp0).k = 0 → 0 < (ps.getD j stp0).n → ∀ oz pz W, seenL (Pt xa xb j) W2 own2 (fun k => (False ∨ k = oz) ∨ k = pz) W → _) := fun h1 h2 oz pz W hW => seenL_call (loc := (fun k => (False ∨ k = oz) ∨ k = pz)) HW2.out (HDb2.out xa xb j hlt h1 h2) W hW
   have HFj : Hid _ := HFst.out j hlt
   have bj0 : (0 : Int) ≤ (j : Int) := by omega
   have bj1 : (j : Int) < (n : Int) := by omega
   have hwj : IntKind.i64.wrap ((j : Int) + 1) = (j : Int) + 1 := wrap_in (by omega) (by omega)
   have HSj : Hid (∀ W, Same own2 W2 W → b < W.heap.size ∧ stpAt W b (off + j * 6) (ps.getD j stp0)) := by
    intro W hs
    obtain ⟨b', off', e, hb', hc⟩ := (HS2.out W hs).2 (by intro e; rw [e] at hlen; simp at hlen; omega)
    rw [hsa] at e
    simp only [Option.some.injEq, Addr.mk.injEq] at e
    obtain ⟨rfl, rfl, _⟩ := e
    exact ⟨hb', hc j hlt⟩
   have KPj := KP xa xb j
   have KMj := KPm xa xb j
   have KTj := KPt xa xb j
   have KPj1 := KP xa xb (j + 1)
   have HNX : Hid (∀ wr', seenL (P xa xb (j + 1)) W2 own2 (fun _ => False) wr' → ∃ j' : Nat, j' ≤ n ∧ Value.int .i64 ((j : Int) + 1) = iv j' ∧ Hid (seenL (P xa xb j') W2 own2 (fun _ => False) wr')) := fun wr' h => ⟨j + 1, by omega, by simp, h⟩
   generalize ps.getD j stp0 = pj at HDaj HDbj HSj HPkj HD1j HD2j HFj
   obtain ⟨pn, pk, pt, pc, pu, po⟩ := pj
   generalize rep j = rj at HDaj HDbj HD2j
   obtain ⟨r1, r2, r3, r4⟩ := rj
   generalize fst j = fj at HPkj HD1j HD2j HFj
   simp only at HDaj HDbj HSj HPkj HD1j HD2j HFj
   subst hsa
   clear HDa HDb HAl HS2 HX2 HD2 HE2 HPk HDb1 HDb2 HFst
   generalize P xa xb j = Pj at HK HDaj KPj
   generalize Pm xa xb j = Mj at HDaj HDbj KMj HD1j
   generalize Pt xa xb j = Tj at HD1j HD2j KTj
   generalize P xa xb (j + 1) = Pj1 at HDbj KPj1 HNX HAj HD2j
   obtain ⟨k0, k1, k2, k3, k4, k5, k6, k7, k8⟩ := nineK (HXj.out wr (seenL_same HK.out))
   obtain ⟨hb, s0, s1, s2, s3, s4, s5⟩ := HSj.out wr (seenL_same HK.out)
   have lx : w.heap.size < wr.heap.size := (Array.getElem?_eq_some_iff.1 (HXj.out wr (seenL_same HK.out))).1
   have hTo : Hid (seenL Pj W2 own2 (fun k => False ∨ k = wr.heap.size) (wr.alloc (.cells #[iv pn, iv pk, iv pt, iv pc, iv pu, iv po] 41))) := seenL_alloc KPj HK.out _
   have oo : Hid ((wr.alloc (.cells #[iv pn, iv pk, iv pt, iv pc, iv pu, iv po] 41)).heap[wr.heap.size]? = some (.cells #[iv pn, iv pk, iv pt, iv pc, iv pu, iv po] 41 (0, 0))) := heap_alloc_new wr _
   go_wp2_with fail
   generalize wr.alloc (.cells #[iv pn, iv pk, iv pt, iv pc, iv pu, iv po] 41) = Wo at hTo oo ⊢
   clear k0 k1 k2 k3 k4 k5 k6 k7 k8 hb s0 s1 s2 s3 s4 s5 lx
   clear HK
   generalize wr.heap.size = oz at hTo oo ⊢
   refine (HDaj.out _ _ (seenL_below KPj hTo.out bL)).mono ?_
   rintro e V1 ⟨rfl, hV1, hk⟩
   have ob1 : Hid _ := (hk _ (.inr rfl)).trans oo.out
   obtain ⟨o0, o1, o2, o3, o4, o5⟩ := six_cells ob1.out
   have lo1 : oz < V1.heap.size := (blt ob1.out)
   have hne1 : V1.heap.size ≠ oz := by omega
   have hU1 : Hid (seenL Mj W2 own2 (fun k => (False ∨ k = oz) ∨ k = V1.heap.size) (V1.alloc (.cells #[iv r1, iv r2, iv r3, iv r4] 33))) := seenL_alloc KMj hV1 _
   have ob1' : Hid ((V1.alloc (.cells #[iv r1, iv r2, iv r3, iv r4] 33)).heap[oz]? = _) := (Below.heap_alloc _ _ _ lo1).trans ob1.out
   have p1 : Hid ((V1.alloc (.cells #[iv r1, iv r2, iv r3, iv r4] 33)).heap[V1.heap.size]? = some (.cells #[iv r1, iv r2, iv r3, iv r4] 33 (0, 0))) := heap_alloc_new V1 _
   clear hk hV1 HDaj hTo oo ob1
   by_cases hc0 : pk = 0
   ·by_cases hc1 : 0 < pn
    ·obtain ⟨hf0, hf1, hf2⟩ := HFj.out hc0 hc1
     have HPk1 : Hid _ := HPkj.out hc0 hc1
     have HD1 : Hid _ := HD1j.out hc0 hc1
     have HD2' : Hid _ := HD2j.out hc0 hc1
     have hwf : IntKind.i64.wrap (pn - fj) = pn - fj := wrap_in (by omega) (by omega)
     clear HPkj HD1j HD2j HDbj HFj
     subst hc0
     go_wp2_with fail
     generalize V1.alloc (.cells #[iv r1, iv r2, iv r3, iv r4] 33) = U1 at hU1 ob1' p1 ⊢
     clear o0 o1 o2 o3 o4 o5 lo1
     generalize V1.heap.size = pz at hU1 p1 hne1 ⊢
     refine (HPk1.out _).mono ?_
     rintro e V2 ⟨rfl, b2⟩
     have hT2 : Hid _ := seenL_below KMj hU1.out b2
     have ob2 : Hid _ := (b2.block _ (blt ob1'.out)).trans ob1'.out
     have p2 : Hid _ := (b2.block _ (blt p1.out)).trans p1.out
     clear b2 HPk1 hU1 ob1' p1
     go_wp2_with fail
     refine (HD1.out _ _ _ (seenL_below KMj hT2.out bL)).mono ?_
     rintro e V3 ⟨rfl, hV3, hk⟩
     have ob3 : Hid _ := (hk _ (.inl (.inr rfl))).trans ob2.out
     have p3 : Hid _ := (hk _ (.inr rfl)).trans p2.out
     obtain ⟨o0, o1, o2, o3, o4, o5⟩ := six_cells ob3.out
     have lo3 : oz < V3.heap.size := (blt ob3.out)
     have fo := row_free ob3.out 0
     have hT3 : Hid (seenL Tj W2 own2 (fun k => (False ∨ k = oz) ∨ k = pz) (V3.setCell (aq oz 0) (iv (pn - fj)))) := seenL_set KTj hV3 HW2.out (.inl (.inr rfl)) _
     have p3s : Hid ((V3.setCell (aq oz 0) (iv (pn - fj))).heap[pz]? = _) := (Below.heap_setCell _ (aq oz 0) _ _ (show pz ≠ oz from hne1)).trans p3.out
     clear hk hV3 HD1 hT2 ob2 p2 ob3 p3
     go_wp2_with fail
     generalize V3.setCell (aq oz 0) (iv (pn - fj)) = U3 at hT3 p3s ⊢
     clear o0 o1 o2 o3 o4 o5 lo3 fo
     refine (HD2'.out _ _ _ (seenL_below KTj hT3.out bL)).mono ?_
     rintro e V4 ⟨rfl, hV4, hk⟩
     clear HD2' hT3
     have p4 : Hid _ := (hk _ (.inr rfl)).trans p3s.out
     obtain ⟨q0, q1, q2, q3⟩ := fourK p4.out
     have lp4 : pz < V4.heap.size := (blt p4.out)
     have ne4 : V4.heap.size ≠ pz := by omega
     have hU4 : Hid (seenL Pj1 W2 own2 (fun _ => False) (V4.alloc (.cells #[iv r1, iv r2, iv r3, iv r4] 33))) := seenL_drop (seenL_alloc KPj1 hV4 _)
     obtain ⟨k0, k1, k2, k3, k4, k5, k6, k7, k8⟩ := nineK (HXj.out V4 (seenL_same hV4))
     have lx : w.heap.size < V4.heap.size := (Array.getElem?_eq_some_iff.1 (HXj.out V4 (seenL_same hV4))).1
     clear hk hV4 HSj
     go_wp2_with fail
     refine (HAj.out _ (seenL_below KPj1 hU4.out bL)).mono ?_
     rintro e V5 ⟨rfl, hV5⟩
     clear k0 k1 k2 k3 k4 k5 k6 k7 k8 lx q0 q1 q2 q3 lp4 ne4 hU4 HAj
     replace hV5 : Hid _ := hV5
     go_wp2_with fail
     go_roundw
     case rel => first | exact HNX.out _ (seenL_below KPj1 hV5.out bL) | (rw [hwj]; exact HNX.out _ (seenL_below KPj1 hV5.out bL))
     case measure => simp [intOf]; omega
    ·have HDbk : Hid _ := HDbj.out (fun c => hc1 c.2) oz V1.heap.size
     clear HDbj HPkj HD1j HD2j HFj
     subst hc0
     go_wp2_with fail
     generalize V1.alloc (.cells #[iv r1, iv r2, iv r3, iv r4] 33) = U1 at hU1 ob1' p1 ⊢
     generalize V1.heap.size = pz at hU1 p1 hne1 HDbk ⊢
     refine (HDbk.out _ (seenL_below KMj hU1.out bL)).mono ?_
     rintro e V4 ⟨rfl, hV4, hk⟩
     clear HDbk o0 o1 o2 o3 o4 o5 hU1
     have p4 : Hid _ := (hk _ (.inr rfl)).trans p1.out
     obtain ⟨q0, q1, q2, q3⟩ := fourK p4.out
     have lp4 : pz < V4.heap.size := (blt p4.out)
     have ne4 : V4.heap.size ≠ pz := by omega
     have hU4 : Hid (seenL Pj1 W2 own2 (fun _ => False) (V4.alloc (.cells #[iv r1, iv r2, iv r3, iv r4] 33))) := seenL_drop (seenL_alloc KPj1 hV4 _)
     obtain ⟨k0, k1, k2, k3, k4, k5, k6, k7, k8⟩ := nineK (HXj.out V4 (seenL_same hV4))
     have lx : w.heap.size < V4.heap.size := (Array.getElem?_eq_some_iff.1 (HXj.out V4 (seenL_same hV4))).1
     clear hk hV4 HSj
     go_wp2_with fail
     refine (HAj.out _ (seenL_below KPj1 hU4.out bL)).mono ?_
     rintro e V5 ⟨rfl, hV5⟩
     clear k0 k1 k2 k3 k4 k5 k6 k7 k8 lx q0 q1 q2 q3 lp4 ne4 hU4 HAj
     replace hV5 : Hid _ := hV5
     go_wp2_with fail
     go_roundw
     case rel => first | exact HNX.out _ (seenL_below KPj1 hV5.out bL) | (rw [hwj]; exact HNX.out _ (seenL_below KPj1 hV5.out bL))
     case measure => simp [intOf]; omega
   ·have HDbk : Hid _ := HDbj.out (fun c => hc0 c.1) oz V1.heap.size
    have e0 : (pk == 0) = false := by simpa using hc0
    clear HDbj HPkj HD1j HD2j HFj
    go_wp2_with fail
    generalize V1.alloc (.cells #[iv r1, iv r2, iv r3, iv r4] 33) = U1 at hU1 ob1' p1 ⊢
    generalize V1.heap.size = pz at hU1 p1 hne1 HDbk ⊢
    refine (HDbk.out _ (seenL_below KMj hU1.out bL)).mono ?_
    rintro e V4 ⟨rfl, hV4, hk⟩
    clear HDbk o0 o1 o2 o3 o4 o5 hU1
    have p4 : Hid _ := (hk _ (.inr rfl)).trans p1.out
    obtain ⟨q0, q1, q2, q3⟩ := fourK p4.out
    have lp4 : pz < V4.heap.size := (blt p4.out)
    have ne4 : V4.heap.size ≠ pz := by omega
    have hU4 : Hid (seenL Pj1 W2 own2 (fun _ => False) (V4.alloc (.cells #[iv r1, iv r2, iv r3, iv r4] 33))) := seenL_drop (seenL_alloc KPj1 hV4 _)
    obtain ⟨k0, k1, k2, k3, k4, k5, k6, k7, k8⟩ := nineK (HXj.out V4 (seenL_same hV4))
    have lx : w.heap.size < V4.heap.size := (Array.getElem?_eq_some_iff.1 (HXj.out V4 (seenL_same hV4))).1
    clear hk hV4 HSj
    go_wp2_with fail
    refine (HAj.out _ (seenL_below KPj1 hU4.out bL)).mono ?_
    rintro e V5 ⟨rfl, hV5⟩
    clear k0 k1 k2 k3 k4 k5 k6 k7 k8 lx q0 q1 q2 q3 lp4 ne4 hU4 HAj
    replace hV5 : Hid _ := hV5
    go_wp2_with fail
    go_roundw
    case rel => first | exact HNX.out _ (seenL_below KPj1 hV5.out bL) | (rw [hwj]; exact HNX.out _ (seenL_below KPj1 hV5.out bL))
    case measure => simp [intOf]; omega
  ·have hje : j = n := by omega
   subst hje
   have hE : Hid _ := HE2.out _ (seenL_end HK.out)
   obtain ⟨k0, k1, k2, k3, k4, k5, k6, k7, k8⟩ := nineK (HX2.out wr (seenL_same HK.out))
   have lx : w.heap.size < wr.heap.size := (Array.getElem?_eq_some_iff.1 (HX2.out wr (seenL_same HK.out))).1
   clear HAl HDa HDb HS2 HX2 HD2 HXj HPk HDb1 HDb2 HFst
   go_wp2
   refine bodyPost_ret (v := .bool true) (by simp [results, Tryz.results4, go_sem]) rfl ⟨rfl, bL⟩
theorem joined_none (v0 v1 v2 v3 v4 v5 v6 v7 : Value) (sa : Option Addr) (n sc : Nat) (at' : Int) (w : World)
 (HO : Hid (∀ W, Below w.heap.size w W → Calls Tryz.prog 7 #[.agg #[v0, v1, v2, v3, v4, v5, v6, v7, .slice sa n sc]] W fun e w' => e = .returned (.tuple #[.pointer none, .bool true]) ∧ Below W.heap.size W w')) :
 Calls Tryz.prog 4 #[.agg #[v0, v1, v2, v3, v4, v5, v6, v7, .slice sa n sc], iv at'] w fun e w' => e = .returned (.bool true) ∧ Below w.heap.size w w' := by
 go_enter Tryz.func4, Tryz.ntmps4
 go_wp2_with fail
 refine (HO.out _ ((Below.refl _ _).alloc (Nat.le_refl _) _)).mono ?_
 rintro e W1 ⟨rfl, b1⟩
 have hb1 : Hid (Below w.heap.size w W1) := Below.trans ((Below.refl _ _).alloc (Nat.le_refl _) _) (b1.mono (by simp))
 clear b1 HO
 go_wp2
 refine bodyPost_ret (v := .bool true) (by simp [results, Tryz.results4, go_sem]) rfl ⟨rfl, bL⟩
end Go.Proofs.YtfhncfghblkgeabGreat
