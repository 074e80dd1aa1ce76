/-
  The walks: saleref.Code, saleref.Frame.
-/
import Derived.Test.YtfhncfghblkgeaaGreatPackBase
namespace Go.Proofs.YtfhncfghblkgeaaGreat
open Go.RowKit

/-- What Code leaves. -/
def codeAns (w w' : World) (n : Nat) (v : Value) : Prop :=
  ∃ g cap, v = .slice (some ⟨g, 0, none⟩) (code n).length cap ∧ w'.ownsRow w.heap.size 5 1 v (code n).length ((code n).map (Value.int .u8)) ∧ Below w.heap.size w w'

theorem codeAns_of {w w' : World} {n : Nat} {v : Value} (h : w'.ownsRow w.heap.size 5 1 v (code n).length ((code n).map (Value.int .u8))) (hb : Below w.heap.size w w') : codeAns w w' n v := by
  have hp := code_pos n
  rcases h.2 with ⟨_, h0⟩ | ⟨g, cap, cur, rfl, _⟩
  · omega
  · exact ⟨g, cap, rfl, h, hb⟩

set_option maxRecDepth 100000 in
set_option maxHeartbeats 1000000 in
theorem rcode_step (n : Nat) (w : World) (hn : n < 9223372036854775808) (ih : ∀ m, m < n → ∀ w', Calls Tryz.prog 141 #[.int .i64 m] w' fun e w2 => ∃ v, e = .returned v ∧ codeAns w' w2 m v) :
    Calls Tryz.prog 141 #[.int .i64 n] w fun e w' => ∃ v, e = .returned v ∧ codeAns w w' n v := by
  have IH : Hid (∀ m, m < n → ∀ w', Calls Tryz.prog 141 #[.int .i64 m] w' fun e w2 => ∃ v, e = .returned v ∧ codeAns w' w2 m v) := ih
  clear ih
  obtain ⟨i0, hi, hz0, hz1, hz2⟩ := info_parts Tryz.infoU8
  by_cases hlt : n < 128
  · have HC : Hid (code n = [(n : Int)]) := code_small hlt
    go_enter Tryz.func141, Tryz.ntmps141
    go_wp2
    go_ret
    refine ⟨_, rfl, codeAns_of ?_ ((Below.refl _ _).alloc (Nat.le_refl _) _)⟩
    rw [HC.out]
    exact ownsRow_one rfl _
  · have HC : Hid (code n = ((n % 128 + 128 : Nat) : Int) :: code (n / 128)) := code_great (by omega)
    have hl9 : (code (n / 128)).length ≤ 9 := code_len9 (by omega)
    go_enter Tryz.func141, Tryz.ntmps141
    go_wp2_with fail
    have e128 : ((n : Int) / 128) = ((n / 128 : Nat) : Int) := by omega
    rw [e128]
    refine (IH.out (n / 128) (by omega) _).mono ?_
    rintro e w1 ⟨v1, rfl, g, cap, rfl, hown, b1⟩
    have hg1 := World.ownsRow.lt hown g rfl
    have hcells : Hid (∀ j u, ((code (n / 128)).map (Value.int .u8))[j]? = some u → (w1.alloc (.cells #[.int .u8 ((n : Int) % 128 + 128)] 5)).cell? ((⟨g, 0, none⟩ : Addr).add j) = some u) := fun j u hu => by
      have := hown.cells (g := g) rfl j u hu
      rw [Addr.add_lit] at this ⊢
      rw [← this]
      exact World.cell?_of_block (a := ⟨g, 0 + j, none⟩) (Below.heap_alloc w1 _ g hg1.2)
    have hone : Hid ((w1.alloc (.cells #[.int .u8 ((n : Int) % 128 + 128)] 5)).ownsRow w.heap.size 5 1 (.slice (some ⟨w1.heap.size, 0, none⟩) 1 1) 1 [.int .u8 ((n : Int) % 128 + 128)]) := ownsRow_mono (ownsRow_one rfl _) b1.size
    clear hown e128
    go_wp2_with (at_builtin; refine wpList_append_own _ rfl _ _ 92 rfl w.heap.size 5 i0 (.int .u8 0) 1 1 Tryz.underlying92 hi hz0 hz1 hz2 rfl (by decide) _ _ _ rfl hone.out ⟨g, 0, none⟩ _ _ ((code (n / 128)).map (Value.int .u8)) rfl (by simp) hcells.out (ints_oneCell _ _) (by unfold maxLen; omega) (by omega) (by have := b1.size; simp; omega) ?_)
    intro v' w3 hown3 hgrow _
    have hbel : Below w.heap.size w w3 := (b1.alloc b1.size _).grown hgrow (by have := b1.size; simp; omega) (fun k hk => by simp [Value.ownBlock] at hk; have := b1.size; omega)
    clear hgrow hcells hone
    go_wp2
    go_ret
    refine ⟨_, rfl, codeAns_of ?_ hbel⟩
    rw [HC.out]
    have e1 : 1 + (code (n / 128)).length = (((n % 128 + 128 : Nat) : Int) :: code (n / 128)).length := by simp; omega
    rw [← e1]
    simpa using hown3

theorem rcode_any : ∀ (k n : Nat) (w : World), n ≤ k → n < 9223372036854775808 → Calls Tryz.prog 141 #[.int .i64 n] w fun e w' => ∃ v, e = .returned v ∧ codeAns w w' n v
  | 0, n, w, h, hn => rcode_step n w hn (fun m hm => by omega)
  | k + 1, n, w, h, hn => rcode_step n w hn (fun m hm w' => rcode_any k m w' (by omega) (by omega))

end Go.Proofs.YtfhncfghblkgeaaGreat
