/-
  The walk: timed at First, whatever the program's timers are.
-/
import Derived.Test.YtfhncfghblkgeaaGreatTimed
namespace Go.Proofs.YtfhncfghblkgeaaGreat
open Go.RowKit

set_option maxRecDepth 100000 in
set_option maxHeartbeats 2000000 in
theorem timed_first {PW : World → Nat → (Nat → Prop) → Int → List (Int × Int) → Prop} (T : TimersAll PW) (P B R x rt n cap : Nat) (own : Nat → Prop) (v : Value) (now : Int) (L : List (Int × Int)) (o : OpV) (w : World) (hk : o.k = 7) (ho : -9223372036854775808 ≤ o.a ∧ o.a ≤ 9223372036854775807)
    (h2 : w.cell? ⟨P, 2, none⟩ = some (.slice (some ⟨rt, 0, none⟩) n cap)) (hn : 0 < n) (hn' : n < 4611686018427387904) (hx : w.cell? ⟨rt, pickN o.a n * 2, none⟩ = some (.pointer (some ⟨x, 0, none⟩))) (hR : w.cell? ⟨rt, pickN o.a n * 2 + 1, none⟩ = some (.pointer (some ⟨R, 0, none⟩)))
    (hp : PW w x own now L) (hr : rwAt w B R now v L) (ha : apart R v own) (hB : B ≤ w.heap.size) (hl : L.length * 16 + 16 ≤ 140737488351232) :
    Calls Tryz.prog 47 #[.pointer (some ⟨P, 0, none⟩), o.val] w fun e w' => e = .returned (.bool true) ∧ pairAns PW w w' B R x own v now (L) := by
  obtain ⟨k, oa, ob, oc, od, oe, os⟩ := o
  simp only at hk ho hx hR
  subst hk
  unfold OpV.val
  simp only
  have hpw : P < w.heap.size := World.block_lt_of_cell? w _ h2
  have hrw : rt < w.heap.size := World.block_lt_of_cell? w _ hx
  have HIN : Hid (PW w x own now L ∧ rwAt w B R now v L ∧ apart R v own) := ⟨hp, hr, ha⟩
  have hlen : ((n : Int) == 0) = false := by simp; omega
  have hr' : pickN oa n < n := pickN_lt oa hn
  have HPK : Hid (∀ w' : World, Calls Tryz.prog 48 #[.int .i64 oa, .int .i64 n] w' fun e w2 => e = .returned (.int .i64 (pickN oa n)) ∧ w' = w2) := fun w' => pick_any oa n w' ho hn hn'
  generalize pickN oa n = r at hr' HPK hx hR
  have HCALL : Hid (∀ W0, Below w.heap.size w W0 → Calls Tryz.prog 79 #[.pointer (some ⟨x, 0, none⟩)] W0 fun e w1 => e = .returned (.tuple #[.agg #[.int .i64 (firstT L).1, .int .i64 (firstT L).2], .bool (firstB L)]) ∧ (∀ w2, rwAns w1 w2 B R v now L → pairAns PW w w2 B R x own v now L) ∧ rwAt w1 B R now v L ∧ B ≤ w1.heap.size ∧ ∀ b o, w.heap.size ≤ b → b < W0.heap.size → w1.cell? ⟨b, o, none⟩ = W0.cell? ⟨b, o, none⟩) := by
    intro W0 hb
    refine (T.first (T.keep hp hb.size (fun k hk => hb.block k (T.lt hp k hk))) hl).mono ?_
    rintro e w1 ⟨rfl, h1⟩
    exact ⟨rfl, pw_behind T hp hr ha hB hb h1⟩
  clear hp hr ha HIN
  go_enter Tryz.func47, Tryz.ntmps47
  go_wp2_with fail
  have hrn : (r : Int) < (n : Int) := by omega
  go_region_held3 (fun w' => w'.cell? ⟨P, 2, none⟩ = some (.slice (some ⟨rt, 0, none⟩) n cap) ∧ w'.cell? ⟨w.heap.size, 1, none⟩ = some (.int .i64 oa) ∧ w'.cell? ⟨rt, r * 2, none⟩ = some (.pointer (some ⟨x, 0, none⟩)) ∧ w'.cell? ⟨rt, r * 2 + 1, none⟩ = some (.pointer (some ⟨R, 0, none⟩))) (simp [go_sem, *])
    (first
      | (go_at_call 48; refine (HPK.out _).mono ?_; rintro e w' ⟨rfl, rfl⟩))
  all_goals
    go_wp2_with fail
    refine (HCALL.out _ (by repeat (first | exact Below.refl _ _ | refine Below.drew ?_ | refine Below.alloc ?_ (by first | exact Nat.le_refl _ | (simp <;> omega)) _ | refine Below.setCell ?_ (by first | exact Nat.le_refl _ | (simp <;> omega)) _))).mono ?_
    rintro e w1 ⟨rfl, hans, hr1, hB1, hcell⟩
    have qr : w1.cell? ⟨w.heap.size + 1, 1, none⟩ = some (.pointer (some ⟨R, 0, none⟩)) := (hcell (w.heap.size + 1) 1 (by omega) (by simp <;> omega)).trans (by simp [go_sem])
    have hz1 : w.heap.size + 1 < w1.heap.size := World.block_lt_of_cell? w1 _ qr
    have HRC : Hid (∀ W1, Below w1.heap.size w1 W1 → Calls Tryz.prog 80 #[.pointer (some ⟨R, 0, none⟩)] W1 fun e w' => e = .returned (.tuple #[.agg #[.int .i64 (firstT L).1, .int .i64 (firstT L).2], .bool (firstB L)]) ∧ Below W1.heap.size W1 w' ∧ Below w1.heap.size w1 w') := fun W1 hb => (rfirst_any B R now v L W1 (rw_behind hr1 (Same.of_below (own := fun _ => False) hb) ⟨id, fun _ _ => id⟩) (by omega)).mono (fun e w' h => ⟨h.1, h.2, hb.trans (h.2.mono hb.size)⟩)
    have HANS : Hid (∀ w2, Below w1.heap.size w1 w2 → pairAns PW w w2 B R x own v now L) := fun w2 hb => hans w2 (rwAns.same hr1 hb)
    clear hcell hans hr1
    generalize firstT L = ft at HRC
    generalize firstB L = fb at HRC
    obtain ⟨d0, d1⟩ := ft
    simp only at HRC
    go_wp2_with fail
    refine (HRC.out _ ((Below.refl _ _).alloc (Nat.le_refl _) _)).mono ?_
    rintro e w2 ⟨rfl, b2, b12⟩
    have z0 : w2.cell? ⟨w1.heap.size, 0, none⟩ = some (.int .i64 d0) := (b2.cell (p := ⟨w1.heap.size, 0, none⟩) (by simp)).trans (by simp [go_sem])
    have z1 : w2.cell? ⟨w1.heap.size, 1, none⟩ = some (.int .i64 d1) := (b2.cell (p := ⟨w1.heap.size, 1, none⟩) (by simp)).trans (by simp [go_sem])
    have hz2 : w1.heap.size < w2.heap.size := World.block_lt_of_cell? w2 _ z0
    have HANS3 : Hid (∀ O, pairAns PW w (w2.alloc O) B R x own v now L) := fun O => HANS.out _ (b12.alloc b12.size O)
    clear b2 b12
    go_wp2
    go_ret
    exact ⟨rfl, HANS3.out _⟩

end Go.Proofs.YtfhncfghblkgeaaGreat
