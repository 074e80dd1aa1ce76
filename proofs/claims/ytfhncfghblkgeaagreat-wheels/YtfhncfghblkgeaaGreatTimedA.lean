/-
  The walk: timed at Advance, whatever the program's timers are.
-/
import Derived.Test.YtfhncfghblkgeaaGreatTimed
namespace Go.Proofs.YtfhncfghblkgeaaGreat
open Go.RowKit

theorem advdAns_up {PW : World → Nat → (Nat → Prop) → Int → List (Int × Int) → Prop} {w W0 w' : World} {P B R x : Nat} {own : Nat → Prop} {c0 c1 c2 c3 vd v : Value} {Ld : List Value} {now : Int} {L : List (Int × Int)} (hb : Below w.heap.size w W0) (h : advdAns PW W0 w' P B R x own c0 c1 c2 c3 vd v Ld now L) : advdAns PW w w' P B R x own c0 c1 c2 c3 vd v Ld now L := by
  obtain ⟨m, vd', v', own', h1, h2, h3, h4, h5, h6, h7, h8, h9, h10, h11, h12⟩ := h
  have z := hb.size
  exact ⟨m, vd', v', own', h1, h2, h3, h4, h5, Same.trans (Same.of_below (own := fun _ => False) hb) h6 (fun k _ e => e.elim False.elim id), fun k hk => (h7 k hk).imp id (by omega), fun k hk => (h8 k hk).imp id (by omega), fun k hk => (h9 k hk).imp id (by omega), fun k hk => ⟨by have := (h10 k hk).1; omega, (h10 k hk).2⟩, h11, h12⟩

set_option maxRecDepth 100000 in
set_option maxHeartbeats 2000000 in
theorem timed_advance {PW : World → Nat → (Nat → Prop) → Int → List (Int × Int) → Prop} (T : TimersAll PW) (P B R x rt n cap : Nat) (c0 c1 c3 vd : Value) (Ld : List Value) (own : Nat → Prop) (v : Value) (now : Int) (L : List (Int × Int)) (o : OpV) (w : World) (hk : o.k = 9) (ho : -9223372036854775808 ≤ o.a ∧ o.a ≤ 9223372036854775807)
    (hw : w.heap[P]? = some (.cells #[c0, c1, .slice (some ⟨rt, 0, none⟩) n cap, c3, vd] 67 (0, 0))) (hd : w.ownsRow (P + 1) 129 1 vd Ld.length Ld) (n1 : ¬ own P) (n2 : ∀ k, vd.ownBlock = some k → ¬ own k) (hld : Ld.length * 64 ≤ 140737488351232) (hn : 0 < n) (hn' : n < 4611686018427387904) (hx : w.cell? ⟨rt, pickN o.a n * 2, none⟩ = some (.pointer (some ⟨x, 0, none⟩))) (hR : w.cell? ⟨rt, pickN o.a n * 2 + 1, none⟩ = some (.pointer (some ⟨R, 0, none⟩)))
    (hp : PW w x own now L) (hr : rwAt w B R now v L) (ha : apart R v own) (hB : B ≤ w.heap.size) (hl : L.length * 16 + 16 ≤ 140737488351232) :
    Calls Tryz.prog 47 #[.pointer (some ⟨P, 0, none⟩), o.val] w fun e w' => e = .returned (.bool true) ∧ advdAns PW w w' P B R x own c0 c1 (.slice (some ⟨rt, 0, none⟩) n cap) c3 vd v Ld (advT now o.b) (advL now o.b L) := by
  obtain ⟨_, _, h2, _, _⟩ := world_cells hw
  obtain ⟨k, oa, ob, oc, od, oe, os⟩ := o
  simp only at hk ho hx hR
  subst hk
  unfold OpV.val
  simp only
  have hpw : P < w.heap.size := World.block_lt_of_cell? w _ h2
  have hrw : rt < w.heap.size := World.block_lt_of_cell? w _ hx
  have HIN : Hid (PW w x own now L ∧ rwAt w B R now v L ∧ apart R v own) := ⟨hp, hr, ha⟩
  have hlen : ((n : Int) == 0) = false := by simp; omega
  have hr' : pickN oa n < n := pickN_lt oa hn
  have HPK : Hid (∀ w' : World, Calls Tryz.prog 48 #[.int .i64 oa, .int .i64 n] w' fun e w2 => e = .returned (.int .i64 (pickN oa n)) ∧ w' = w2) := fun w' => pick_any oa n w' ho hn hn'
  generalize pickN oa n = r at hr' HPK hx hR
  have HCALL : Hid (∀ W0, Below w.heap.size w W0 → Calls Tryz.prog 82 #[.pointer (some ⟨P, 0, none⟩), .agg #[.pointer (some ⟨x, 0, none⟩), .pointer (some ⟨R, 0, none⟩)], .int .i64 ob] W0 fun e w1 => e = .returned (.bool true) ∧ advdAns PW w w1 P B R x own c0 c1 (.slice (some ⟨rt, 0, none⟩) n cap) c3 vd v Ld (advT now ob) (advL now ob L)) := by
    intro W0 hb
    have hs0 : Same (fun _ => False) w W0 := Same.of_below hb
    refine (advanced_any T.toTimers P B R x own c0 c1 _ c3 vd v Ld now ob L W0 ((hb.block P hpw).trans hw) (ownsRow_below hd hb (Nat.le_refl _)) (T.keep hp hb.size (fun k hk => hb.block k (T.lt hp k hk))) (rw_behind hr hs0 ⟨id, fun _ _ => id⟩) (Nat.le_trans hB hb.size) hl hld n1 n2 ha.1 ha.2).mono ?_
    rintro e w1 ⟨rfl, h1⟩
    exact ⟨rfl, advdAns_up hb h1⟩
  clear hp hr ha hw hd n1 n2 HIN
  go_enter Tryz.func47, Tryz.ntmps47
  go_wp2_with fail
  have hrn : (r : Int) < (n : Int) := by omega
  go_region_held3 (fun w' => w'.cell? ⟨P, 2, none⟩ = some (.slice (some ⟨rt, 0, none⟩) n cap) ∧ w'.cell? ⟨w.heap.size, 1, none⟩ = some (.int .i64 oa) ∧ w'.cell? ⟨rt, r * 2, none⟩ = some (.pointer (some ⟨x, 0, none⟩)) ∧ w'.cell? ⟨rt, r * 2 + 1, none⟩ = some (.pointer (some ⟨R, 0, none⟩))) (simp [go_sem, *])
    (first
      | (go_at_call 48; refine (HPK.out _).mono ?_; rintro e w' ⟨rfl, rfl⟩))
  all_goals
    go_wp2_with fail
    refine (HCALL.out _ (by repeat (first | exact Below.refl _ _ | refine Below.drew ?_ | refine Below.alloc ?_ (by first | exact Nat.le_refl _ | (simp <;> omega)) _ | refine Below.setCell ?_ (by first | exact Nat.le_refl _ | (simp <;> omega)) _))).mono ?_
    rintro e w1 ⟨rfl, h1⟩
    have H1 : Hid (advdAns PW w w1 P B R x own c0 c1 (.slice (some ⟨rt, 0, none⟩) n cap) c3 vd v Ld (advT now ob) (advL now ob L)) := h1
    clear h1
    go_wp2
    go_ret
    exact ⟨rfl, H1.out⟩

end Go.Proofs.YtfhncfghblkgeaaGreat
