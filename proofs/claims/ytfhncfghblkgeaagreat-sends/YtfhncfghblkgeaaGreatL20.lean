import Derived.Test.YtfhncfghblkgeaaGreatL19
set_option maxRecDepth 100000
set_option maxHeartbeats 2000000
namespace Go.Proofs.YtfhncfghblkgeaaGreat
open Go.RowKit
def UN (l : List Int) (k t c u o err : Int) : Prop :=
 (err = 0 ∧ isB k t c u o = true ∧ l = frameB k (numsOf k t c u o)) ∨
 (err = 2 ∧ k = 0 ∧ t = 0 ∧ c = 0 ∧ u = 0 ∧ o = 0 ∧ ∀ k t c u o : Int, isB k t c u o = true → l ≠ frameB k (numsOf k t c u o))
theorem unp_open {w : World} {b off len cap : Nat} {x : Int} {tl : List Int} (h : sliceOf w (some (aq b off)) len cap (x :: tl)) :
 1 ≤ len ∧ len ≤ cap ∧ cap ≤ maxLen ∧ w.cell? (aq b off) = some (.int .u8 x) ∧ sliceOf w (if cap = 1 then some (aq b off) else some (aq b (off + 1))) (len - 1) (cap - 1) tl := by
 have hd := sliceOf_drop (g := [x]) (r := tl) (k := 1) h rfl
 obtain ⟨h1, h2, h3, h4, h5⟩ := h
 simp at h1
 obtain ⟨b', off', ha, hb', hc⟩ := h5 (by simp)
 simp at ha
 obtain ⟨rfl, rfl⟩ := ha
 exact ⟨by omega, h2, h3, by simpa using hc 0 (by omega), hd⟩
theorem readNumbers_3 (a : Option Addr) (len cap : Nat) (l : List Int) (w : World) (h : sliceOf w a len cap l) :
 Calls Tryz.prog 97 #[.slice a len cap, iv 3] w fun e w' => ∃ v ok, e = .returned (.tuple #[v, .bool ok]) ∧ readAns w' w.heap.size 3 l v ok ∧ Below w.heap.size w w' :=
 readNumbers_any a len cap 3 l w (by omega) h
theorem readNumbers_2 (a : Option Addr) (len cap : Nat) (l : List Int) (w : World) (h : sliceOf w a len cap l) :
 Calls Tryz.prog 97 #[.slice a len cap, iv 2] w fun e w' => ∃ v ok, e = .returned (.tuple #[v, .bool ok]) ∧ readAns w' w.heap.size 2 l v ok ∧ Below w.heap.size w w' :=
 readNumbers_any a len cap 2 l w (by omega) h
theorem below_set5 {B b : Nat} {w w2 : World} {v0 v1 v2 v3 v4 : Value} (h : Below B w w2) (hb : B ≤ b) :
 Below B w (((((w2.setCell (aq b 0) v0).setCell (aq b 1) v1).setCell (aq b 2) v2).setCell (aq b 3) v3).setCell (aq b 4) v4) :=
 ((((h.setCell (p := (aq b 0)) hb v0).setCell (p := (aq b 1)) hb v1).setCell (p := (aq b 2)) hb v2).setCell (p := (aq b 3)) hb v3).setCell (p := (aq b 4)) hb v4
def cnt (k : Int) : Nat := if k = 1 then 3 else if k = 2 ∨ k = 3 then 3 else if k = 4 then 2 else 0
theorem isB_nums {k t c u o : Int} (h : isB k t c u o = true) : (numsOf k t c u o).all numB = true ∧ (numsOf k t c u o).length = cnt k ∧ 0 < cnt k := by
 unfold isB at h
 unfold numsOf cnt
 split at h
 ·next h1 => simp [h1] at h ⊢; simp [h]
 ·next h1 =>
  split at h
  ·next h2 => simp [h1, h2] at h ⊢; simp [h]
  ·next h2 =>
   split at h
   ·next h4 => simp [h4] at h ⊢; simp [h]
   ·simp at h
theorem flat_codes : ∀ (ns : List Int), ns.flatMap (fun n => code n.toNat) = codes (ns.map Int.toNat)
 | [] => rfl
 | n :: ns => by
   have := flat_codes ns
   simp only [List.flatMap_cons, List.map_cons, codes] at this ⊢
   rw [this]
theorem frameB_codes (k : Int) (ns : List Int) : frameB k ns = k :: codes (ns.map Int.toNat) := by
 unfold frameB; rw [flat_codes]
theorem toNat_back : ∀ (ns : List Int), ns.all numB = true → ((ns.map Int.toNat).map fun n : Nat => (n : Int)) = ns
 | [], _ => rfl
 | n :: ns, h => by
   simp at h
   obtain ⟨m, rfl, _, _⟩ := numB_nat h.1
   have := toNat_back ns (by simp; exact h.2)
   simp only [List.map_cons, this]
   simp
theorem un_req {k k' t c u o : Int} {tl : List Int} (h : isB k' t c u o = true) (e : k :: tl = frameB k' (numsOf k' t c u o)) :
 ∃ ns : List Nat, tl = codes ns ∧ ns.length = cnt k ∧ 0 < cnt k ∧ (ns.map fun n : Nat => (n : Int)).all numB = true := by
 obtain ⟨ha, hl, hp⟩ := isB_nums h
 rw [frameB_codes] at e
 simp at e
 obtain ⟨rfl, rfl⟩ := e
 exact ⟨_, rfl, by simpa using hl, hp, by rw [toNat_back _ ha]; exact ha⟩
theorem all_lt {ns : List Nat} (h : (ns.map fun n : Nat => (n : Int)).all numB = true) : ∀ n ∈ ns, n < 34359738368 := by
 intro n hn
 have := List.all_eq_true.1 h (n : Int) (List.mem_map.2 ⟨n, hn, rfl⟩)
 simp [numB] at this
 omega
theorem un_no {k : Int} {count : Nat} {tl : List Int} (hc : cnt k = count) (H : ∀ ns : List Nat, ns.length = count → (∀ n ∈ ns, n < 34359738368) → tl ≠ codes ns) : UN (k :: tl) 0 0 0 0 0 2 :=
 .inr ⟨rfl, rfl, rfl, rfl, rfl, rfl, fun k' t c u o h e => by
  obtain ⟨ns, h1, h2, _, h4⟩ := un_req h e
  exact H ns (h2.trans hc) (all_lt h4) h1⟩
theorem un_none {k : Int} {tl : List Int} (hc : cnt k = 0) : UN (k :: tl) 0 0 0 0 0 2 :=
 .inr ⟨rfl, rfl, rfl, rfl, rfl, rfl, fun k' t c u o h e => by
  obtain ⟨ns, _, _, h3, _⟩ := un_req h e
  omega⟩
theorem un_nil : UN [] 0 0 0 0 0 2 := .inr ⟨rfl, rfl, rfl, rfl, rfl, rfl, fun k' t c u o _ e => by simp [frameB] at e⟩
theorem un_bad {k : Int} {ms : List Nat} {tl : List Int} (hc : cnt k = ms.length) (ht : tl = codes ms) (hb : (ms.map fun n : Nat => (n : Int)).all numB = false) : UN (k :: tl) 0 0 0 0 0 2 :=
 .inr ⟨rfl, rfl, rfl, rfl, rfl, rfl, fun k' t c u o h e => by
  obtain ⟨ns, h1, h2, _, h4⟩ := un_req h e
  obtain ⟨ms', e1, e2⟩ := codes_prefix ms ns [] (by omega) (by rw [← ht, h1]; simp)
  have : ms' = [] := List.eq_nil_of_length_eq_zero (by have := congrArg List.length e1; simp at this; omega)
  subst this
  simp at e1
  subst e1
  rw [hb] at h4
  simp at h4⟩
theorem un_yes_1 {a b c : Nat} {tl : List Int} (ht : tl = codes [a, b, c]) (h : [(a : Int), (b : Int), (c : Int)].all numB = true) : UN (1 :: tl) 1 a b c 0 0 := by
 simp at h
 exact .inl ⟨rfl, by simp [isB, h], by rw [frameB_codes, ht]; simp [numsOf]⟩
theorem un_yes_2 {a b c : Nat} {tl : List Int} (ht : tl = codes [a, b, c]) (h : [(a : Int), (b : Int), (c : Int)].all numB = true) : UN (2 :: tl) 2 a b 0 c 0 := by
 simp at h
 exact .inl ⟨rfl, by simp [isB, h], by rw [frameB_codes, ht]; simp [numsOf]⟩
theorem un_yes_3 {a b c : Nat} {tl : List Int} (ht : tl = codes [a, b, c]) (h : [(a : Int), (b : Int), (c : Int)].all numB = true) : UN (3 :: tl) 3 a b 0 c 0 := by
 simp at h
 exact .inl ⟨rfl, by simp [isB, h], by rw [frameB_codes, ht]; simp [numsOf]⟩
theorem un_yes_4 {a b : Nat} {tl : List Int} (ht : tl = codes [a, b]) (h : [(a : Int), (b : Int)].all numB = true) : UN (4 :: tl) 4 0 a 0 b 0 := by
 simp at h
 exact .inl ⟨rfl, by simp [isB, h], by rw [frameB_codes, ht]; simp [numsOf]⟩
theorem read_3 {w' : World} {B : Nat} {l : List Int} {v : Value} (h : readAns w' B 3 l v true) :
 ∃ (x y z g cap : Nat), l = codes [x, y, z] ∧ v = .slice (some (aq g 0)) 3 cap ∧ B ≤ g ∧ g < w'.heap.size ∧ w'.cell? (aq g 0) = some (iv x) ∧ w'.cell? (aq g 1) = some (iv y) ∧ w'.cell? (aq g 2) = some (iv z) := by
 obtain ⟨ns, hn, _, hl, ho⟩ := h.1 rfl
 match ns, hn with
 | [x, y, z], _ =>
   rcases ho.2 with ⟨_, h0⟩ | ⟨g, cap, cur, rfl, hg, hh, _⟩
   ·simp at h0
   ·have c0 := ho.cells (g := g) rfl 0 (iv x) rfl
    have c1 := ho.cells (g := g) rfl 1 (iv y) rfl
    have c2 := ho.cells (g := g) rfl 2 (iv z) rfl
    exact ⟨x, y, z, g, cap, hl, rfl, hg, (blt hh), by simpa [Addr.add_lit] using c0, by simpa [Addr.add_lit] using c1, by simpa [Addr.add_lit] using c2⟩
theorem read_2 {w' : World} {B : Nat} {l : List Int} {v : Value} (h : readAns w' B 2 l v true) :
 ∃ (x y g cap : Nat), l = codes [x, y] ∧ v = .slice (some (aq g 0)) 2 cap ∧ B ≤ g ∧ g < w'.heap.size ∧ w'.cell? (aq g 0) = some (iv x) ∧ w'.cell? (aq g 1) = some (iv y) := by
 obtain ⟨ns, hn, _, hl, ho⟩ := h.1 rfl
 match ns, hn with
 | [x, y], _ =>
   rcases ho.2 with ⟨_, h0⟩ | ⟨g, cap, cur, rfl, hg, hh, _⟩
   ·simp at h0
   ·have c0 := ho.cells (g := g) rfl 0 (iv x) rfl
    have c1 := ho.cells (g := g) rfl 1 (iv y) rfl
    exact ⟨x, y, g, cap, hl, rfl, hg, (blt hh), by simpa [Addr.add_lit] using c0, by simpa [Addr.add_lit] using c1⟩
theorem valL_bd {cur : List Int} {c : Nat} (h : cur.length ≤ c) : valL cur < 128 ^ c := Nat.lt_of_lt_of_le (valL_lt cur) (Nat.pow_le_pow_right (by omega) h)
theorem rnums_any (b off len cap : Nat) (x0 : Int) (tl : List Int) (w : World) (h : sliceOf w (some (aq b off)) len cap (x0 :: tl)) :
 Calls Tryz.prog 109 #[.slice (some (aq b off)) len cap] w fun e w' => ∃ v ms, e = .returned v ∧ w'.ownsRow w.heap.size 3 1 v ms.length (intsV ms) ∧ (∀ m ∈ ms, m < 34359738368) ∧ RNS tl ms ∧ Below w.heap.size w w' := by
 obtain ⟨i0, hi, hz0, hz1, hz2⟩ := info_parts Tryz.infoInt
 have HS : Hid (sliceOf w (some (aq b off)) len cap (x0 :: tl)) := h
 have hl : tl.length + 1 = len := by have := h.1; simpa using this
 have hlc : len ≤ cap := h.2.1
 clear h
 generalize hB : w.heap.size = B
 have HB : Hid (w.heap.size = B) := hB
 go_enter Tryz.func109, Tryz.ntmps109
 go_wp2_with fail
 clear hB
 go_loopw [3, 4, 5, 6] (fun l n f i wr => ∃ (p : Nat) (ms : List Nat) (cur : List Int) (v W : Nat), p ≤ tl.length ∧ p ≤ 19 ∧ ms.length ≤ p ∧ n = iv v ∧ f = iv W ∧ i = iv ((p : Int) + 1) ∧ cur.length ≤ 5 ∧ Hid (v = valL cur) ∧ Hid (W = 128 ^ cur.length) ∧ Hid (NP tl p ms cur) ∧ Hid (∀ m ∈ ms, m < 34359738368) ∧ wr.ownsRow B 3 1 l ms.length (intsV ms) ∧ Below B w wr) (fun _ _ _ i _ => len + 20 - (intOf i).toNat)
 case atStart => exact ⟨0, [], [], 0, 1, Nat.zero_le _, by omega, Nat.le_refl _, rfl, rfl, rfl, by simp, rfl, rfl, np_start tl, fun _ h => by simp at h, World.ownsRow_nil _ _ _ _, Below.refl _ _⟩
 case round =>
  obtain ⟨p, ms, cur, v, W, hp, hp19, hmp, rfl, rfl, rfl, hc5, hv, hW, hnp, hmb, hown, hbel⟩ := hrel
  have hBr : B ≤ wr.heap.size := by have := hbel.size; rw [HB.out] at this; exact this
  by_cases hlt : p < tl.length
  ·by_cases h19 : p < 19
   ·by_cases hc : cur.length < 5
    ·have hWb : W ≤ 268435456 := by rw [hW.out]; exact pow128 hc
     have hvb : v < 268435456 := by rw [hv.out]; exact Nat.lt_of_lt_of_le (valL_bd (c := 4) (by omega)) (by decide)
     have hsl := sliceOf_below HS.out (by rw [HB.out]; exact hbel)
     have hxb := hsl.2.2.2.1 (tl.getD p 0) (by simp [List.getD, List.getElem?_eq_getElem hlt])
     have hcx : wr.cell? (aq b (off + (p + 1))) = some (.int .u8 (tl.getD p 0)) := by
      obtain ⟨b', off', hbo, _, hcell⟩ := hsl.2.2.2.2 (by simp)
      simp at hbo
      obtain ⟨rfl, rfl⟩ := hbo
      have := hcell (p + 1) (by omega)
      simpa using this
     generalize hx : tl.getD p 0 = x at hcx hxb
     have HX : Hid (tl.getD p 0 = x) := hx
     clear hx hsl
     obtain ⟨hx0, hx1⟩ := hxb
     obtain ⟨X, rfl⟩ := Int.eq_ofNat_of_zero_le hx0
     have hp0 : (0 : Int) ≤ (X : Int) % 128 * (W : Int) := Int.mul_nonneg (by omega) (by omega)
     have hp1 : (X : Int) % 128 * (W : Int) ≤ 127 * 268435456 := Int.mul_le_mul (by omega) (by omega) (by omega) (by omega)
     have HVX : Hid (v + X % 128 * W = valL (cur ++ [(X : Int)])) := by
      unfold Hid
      rw [valL_snoc, hv.out, hW.out]
      have : ((X : Int) % 128).toNat = X % 128 := by omega
      rw [this]
     have HO : Hid (∀ k, u3.ownBlock = some k → B ≤ k ∧ k < wr.heap.size) := World.ownsRow.lt hown
     by_cases hlow : X < 128
     ·have HNP : Hid (NP tl (p + 1) (ms ++ [v + X % 128 * W]) []) := by unfold Hid; rw [HVX.out]; exact np_num hnp.out hlt HX.out (by omega)
      have hnew : v + X % 128 * W < 34359738368 := by rw [HVX.out]; exact Nat.lt_of_lt_of_le (valL_bd (c := 5) (by simp; omega)) (by decide)
      clear hnp
      go_wp2_with (at_builtin; refine wpList_append_own _ rfl _ _ 25 rfl B 3 i0 (iv 0) 1 8 Tryz.underlying25 hi hz0 hz1 hz2 rfl (by decide) _ _ _ rfl (hown.alloc _) (aq wr.heap.size 0) 1 1 [iv (v + X % 128 * W)] rfl rfl ?c1 ?c2 ?c3 ?c4 ?c5 ?_)
      case c1 => exact cell_one_new _ _ _
      case c2 => intro u hu; simp at hu; subst hu; rfl
      case c3 => unfold maxLen; omega
      case c4 => omega
      case c5 => simp; omega
      intro v' w1 hown' hgrow _
      clear hown
      go_wp2
      go_roundw
      case rel =>
       refine ⟨p + 1, ms ++ [v + X % 128 * W], [], 0, 1, by omega, by omega, by simp <;> omega, rfl, rfl, by go_num, by simp, rfl, rfl, HNP, ?_, ?_, ?_⟩
       ·intro m hm
        rcases List.mem_append.1 hm with h | h
        ·exact hmb.out m h
        ·simp at h; omega
       ·rw [intsV_snoc]; simpa using hown'
       ·exact (hbel.alloc hBr _).grown hgrow (by simp; omega) (fun k hk => (HO.out k hk).1)
      case measure => simp [intOf]; omega
     ·have HNP : Hid (NP tl (p + 1) ms (cur ++ [(X : Int)])) := np_more hnp.out hlt HX.out (by omega) (by omega)
      clear hnp
      go_wp2
      go_roundw
      case rel =>
       exact ⟨p + 1, ms, cur ++ [(X : Int)], v + X % 128 * W, W * 128, by omega, by omega, by omega, by rw [Int.natCast_add, Int.natCast_mul, Int.natCast_emod]; rfl, by go_num, by go_num, by simp <;> omega, HVX, by unfold Hid; rw [hW.out]; simp [Nat.pow_succ], HNP, hmb, hown, hbel⟩
      case measure => simp [intOf]; omega
    ·have hce : cur.length = 5 := by omega
     have hWe : (268435456 : Int) < (W : Int) := by rw [hW.out, hce]; decide
     have HR : Hid (RNS tl ms) := np_long hnp.out (by omega)
     clear hW hv hnp
     go_wp2
     go_ret
     exact ⟨_, ms, rfl, hown, hmb.out, HR.out, hbel⟩
   ·have HR : Hid (RNS tl ms) := np_far (by omega)
    have hpe : p = 19 := by omega
    subst hpe
    go_wp2
    go_ret
    exact ⟨_, ms, rfl, hown, hmb.out, HR.out, hbel⟩
  ·have hpe : p = tl.length := by omega
   subst hpe
   have HR : Hid (RNS tl ms) := np_end hnp.out
   have hge : ¬ ((tl.length : Int) + 1 < (len : Int)) := by omega
   go_wp2
   go_ret
   first | exact ⟨_, ms, rfl, hown, hmb.out, HR.out, hbel⟩ | exact ⟨_, rfl, ms, hown, hmb.out, HR.out, hbel⟩
def codeAns (w w' : World) (n : Nat) (v : Value) : Prop :=
 ∃ g cap, v = .slice (some (aq g 0)) (code n).length cap ∧ w'.ownsRow w.heap.size 5 1 v (code n).length ((code n).map (Value.int .u8)) ∧ Below w.heap.size w w'
theorem codeAns_of {w w' : World} {n : Nat} {v : Value} (h : w'.ownsRow w.heap.size 5 1 v (code n).length ((code n).map (Value.int .u8))) (hb : Below w.heap.size w w') : codeAns w w' n v := by
 have hp := code_pos n
 rcases h.2 with ⟨_, h0⟩ | ⟨g, cap, cur, rfl, _⟩
 ·omega
 ·exact ⟨g, cap, rfl, h, hb⟩
theorem rcode_step (n : Nat) (w : World) (hn : n < 9223372036854775808) (ih : ∀ m, m < n → ∀ w', Calls Tryz.prog 141 #[iv m] w' fun e w2 => ∃ v, e = .returned v ∧ codeAns w' w2 m v) :
 Calls Tryz.prog 141 #[iv n] w fun e w' => ∃ v, e = .returned v ∧ codeAns w w' n v := by
 have IH : Hid (∀ m, m < n → ∀ w', Calls Tryz.prog 141 #[iv m] w' fun e w2 => ∃ v, e = .returned v ∧ codeAns w' w2 m v) := ih
 clear ih
 obtain ⟨i0, hi, hz0, hz1, hz2⟩ := info_parts Tryz.infoU8
 by_cases hlt : n < 128
 ·have HC : Hid (code n = [(n : Int)]) := code_small hlt
  go_enter Tryz.func141, Tryz.ntmps141
  go_wp2
  go_ret
  refine ⟨_, rfl, codeAns_of ?_ ((Below.refl _ _).alloc (Nat.le_refl _) _)⟩
  rw [HC.out]
  exact ownsRow_one rfl _
 ·have HC : Hid (code n = ((n % 128 + 128 : Nat) : Int) :: code (n / 128)) := code_great (by omega)
  have hl9 : (code (n / 128)).length ≤ 9 := code_len9 (by omega)
  go_enter Tryz.func141, Tryz.ntmps141
  go_wp2_with fail
  have e128 : ((n : Int) / 128) = ((n / 128 : Nat) : Int) := by omega
  rw [e128]
  refine (IH.out (n / 128) (by omega) _).mono ?_
  rintro e w1 ⟨v1, rfl, g, cap, rfl, hown, b1⟩
  have hg1 := World.ownsRow.lt hown g rfl
  have hcells : Hid (∀ j u, ((code (n / 128)).map (Value.int .u8))[j]? = some u → (w1.alloc (.cells #[.int .u8 ((n : Int) % 128 + 128)] 5)).cell? (((aq g 0) : Addr).add j) = some u) := fun j u hu => by
   have := hown.cells (g := g) rfl j u hu
   rw [Addr.add_lit] at this ⊢
   rw [← this]
   exact World.cell?_of_block (a := (aq g (0 + j))) (Below.heap_alloc w1 _ g hg1.2)
  have hone : Hid ((w1.alloc (.cells #[.int .u8 ((n : Int) % 128 + 128)] 5)).ownsRow w.heap.size 5 1 (.slice (some (aq w1.heap.size 0)) 1 1) 1 [.int .u8 ((n : Int) % 128 + 128)]) := ownsRow_mono (ownsRow_one rfl _) b1.size
  clear hown e128
  go_wp2_with (at_builtin; refine wpList_append_own _ rfl _ _ 92 rfl w.heap.size 5 i0 (.int .u8 0) 1 1 Tryz.underlying92 hi hz0 hz1 hz2 rfl (by decide) _ _ _ rfl hone.out (aq g 0) _ _ ((code (n / 128)).map (Value.int .u8)) rfl (by simp) hcells.out (ints_oneCell _ _) (by unfold maxLen; omega) (by omega) (by have := b1.size; simp; omega) ?_)
  intro v' w3 hown3 hgrow _
  have hbel : Below w.heap.size w w3 := (b1.alloc b1.size _).grown hgrow (by have := b1.size; simp; omega) (fun k hk => by simp [Value.ownBlock] at hk; have := b1.size; omega)
  clear hgrow hcells hone
  go_wp2
  go_ret
  refine ⟨_, rfl, codeAns_of ?_ hbel⟩
  rw [HC.out]
  have e1 : 1 + (code (n / 128)).length = (((n % 128 + 128 : Nat) : Int) :: code (n / 128)).length := by simp; omega
  rw [← e1]
  simpa using hown3
theorem rcode_any : ∀ (k n : Nat) (w : World), n ≤ k → n < 9223372036854775808 → Calls Tryz.prog 141 #[iv n] w fun e w' => ∃ v, e = .returned v ∧ codeAns w w' n v
 | 0, n, w, h, hn => rcode_step n w hn (fun m hm => by omega)
 | k + 1, n, w, h, hn => rcode_step n w hn (fun m hm w' => rcode_any k m w' (by omega) (by omega))
theorem rcode_some (n : Nat) (w : World) (hn : n < 9223372036854775808) :
 Calls Tryz.prog 141 #[iv n] w fun e w' => ∃ g cap, e = .returned (.slice (some (aq g 0)) (code n).length cap) ∧ (∀ j u, ((code n).map (Value.int .u8))[j]? = some u → w'.cell? (((aq g 0) : Addr).add j) = some u) ∧ Below w.heap.size w w' := by
 refine (rcode_any n n w (Nat.le_refl _) hn).mono ?_
 rintro e w' ⟨v, rfl, g, cap, rfl, hown, hb⟩
 exact ⟨g, cap, rfl, hown.cells rfl, hb⟩
theorem rframe_any (k : Int) (hk0 : 0 ≤ k) (hk1 : k < 256) (ns : List Int) (b cap : Nat) (w : World) (hl : ns.length ≤ 3) (hbw : b < w.heap.size) (hnum : numsAt w b ns) :
 Calls Tryz.prog 108 #[iv k, .slice (some (aq b 0)) ns.length cap] w fun e w' => ∃ v, e = .returned v ∧ w'.ownsRow w.heap.size 5 1 v (frameB k ns).length ((frameB k ns).map (Value.int .u8)) ∧ Below w.heap.size w w' := by
 have HNUM : Hid (numsAt w b ns) := hnum
 clear hnum
 obtain ⟨i0, hi, hz0, hz1, hz2⟩ := info_parts Tryz.infoU8
 generalize hB : w.heap.size = B at *
 have HB : Hid (w.heap.size = B) := hB
 go_enter Tryz.func108, Tryz.ntmps108
 go_wp2_with fail
 clear hB
 go_loopw [5, 6] (fun fr i wr => ∃ j : Nat, j ≤ ns.length ∧ i = iv j ∧ wr.ownsRow B 5 1 fr (frameB k (ns.take j)).length ((frameB k (ns.take j)).map (Value.int .u8)) ∧ Below B w wr) (fun _ i _ => ns.length - (intOf i).toNat)
 case atStart => exact ⟨0, Nat.zero_le _, rfl, by simpa [frameB] using ownsRow_one HB.out (.int .u8 k), (Below.refl _ _).alloc (Nat.le_of_eq HB.out.symm) _⟩
 case round =>
  obtain ⟨j, hj, rfl, hown, hbel⟩ := hrel
  have hBr : B ≤ wr.heap.size := by have := hbel.size; rw [HB.out] at this; exact this
  by_cases hlt : j < ns.length
  ·obtain ⟨m, hm, hml, hmc⟩ := HNUM.out j hlt
   have hcx : wr.cell? (aq b j) = some (iv m) := (hbel.cell (p := (aq b j)) hbw).trans hmc
   have hfl : (frameB k (ns.take j)).length ≤ 100 := by
    have := frameB_len k ns (fun j hj => let ⟨n, h1, h2, _⟩ := HNUM.out j hj; ⟨n, h1, h2⟩) j (by omega)
    omega
   have hcl := code_len9 hml
   have HF : Hid (frameB k (ns.take (j + 1)) = frameB k (ns.take j) ++ code m) := frameB_take k ns j m hlt hm
   clear hm hmc
   generalize hX : frameB k (ns.take j) = X at *
   clear hX
   generalize hR : wr.heap.size = R at *
   have HR : Hid (wr.heap.size = R) := hR
   clear hR
   go_wp2_with (first
    | (go_at_call 141; refine (rcode_some m _ hml).mono ?_; rintro e w2 ⟨g, cap, rfl, hgc, hb2⟩)
    | (at_builtin; refine wpList_append_own _ rfl _ _ 92 rfl B 5 i0 (.int .u8 0) 1 1 Tryz.underlying92 hi hz0 hz1 hz2 rfl (by decide) _ _ _ rfl (ownsRow_below hown hb2 (Nat.le_refl _)) (aq g 0) _ _ ((code m).map (Value.int .u8)) rfl (by simp) hgc (ints_oneCell _ _) (by unfold maxLen; omega) (by omega) (by have := hb2.size; rw [HR.out] at this; omega) ?_))
   intro v' w3 hown3 hgrow _
   have HP : Hid (w3.ownsRow B 5 1 v' (X ++ code m).length ((X ++ code m).map (Value.int .u8)) ∧ Below B w w3) := pack_round rfl hown hbel hb2 (by rw [HR.out]; exact hBr) hown3 hgrow
   clear hown3 hgrow hgc hb2 hown hcx
   go_wp2
   go_roundw
   case rel => exact ⟨j + 1, by omega, by go_num, by rw [HF.out]; exact HP.out.1, HP.out.2⟩
   case measure => simp [intOf]; omega
  ·have HE : Hid (ns.take j = ns) := List.take_of_length_le (by omega)
   rw [HE.out] at hown
   go_wp2
   go_ret
   exact ⟨_, rfl, hown, hbel⟩
theorem rmay_yes (n : Int) (w : World) :
 Calls Tryz.prog 140 #[iv n, .bool true] w fun e w' => e = .returned (.bool (numB n)) ∧ w = w' := by
 go_enter Tryz.func140, Tryz.ntmps140
 go_wp2_with (go_at_call 92; refine (rnumber_any _ _).mono ?_; rintro e w' ⟨rfl, rfl⟩)
 go_ret
 exact ⟨rfl, rfl⟩
theorem rmay_no (n : Int) (w : World) :
 Calls Tryz.prog 140 #[iv n, .bool false] w fun e w' => e = .returned (.bool (n == 0)) ∧ w = w' := by
 go_enter Tryz.func140, Tryz.ntmps140
 go_wp2
 go_ret
 exact ⟨rfl, rfl⟩
def hasT (k : Int) : Bool := decide (1 ≤ k) && decide (k ≤ 3)
def hasC (k : Int) : Bool := decide (1 ≤ k) && decide (k ≤ 4)
def hasO (k : Int) : Bool := decide (2 ≤ k) && decide (k ≤ 4)
theorem rhas_any (k : Int) (w : World) :
 Calls Tryz.prog 139 #[iv k] w fun e w' => e = .returned (.tuple #[.bool (hasT k), .bool (hasC k), .bool (k == 1), .bool (hasO k)]) ∧ w = w' := by
 by_cases h1 : 1 ≤ k
 ·by_cases h2 : 2 ≤ k
  ·go_enter Tryz.func139, Tryz.ntmps139
   go_wp2
   refine bodyPost_ret (v := .tuple #[.bool (hasT k), .bool (hasC k), .bool (k == 1), .bool (hasO k)]) (by simp [results, Tryz.results139, go_sem, hasT, hasC, hasO, h1, h2]) rfl ⟨rfl, rfl⟩
  ·have d2 : decide (2 ≤ k) = false := by simpa using h2
   go_enter Tryz.func139, Tryz.ntmps139
   go_wp2
   refine bodyPost_ret (v := .tuple #[.bool (hasT k), .bool (hasC k), .bool (k == 1), .bool (hasO k)]) (by simp [results, Tryz.results139, go_sem, hasT, hasC, hasO, h1, d2]) rfl ⟨rfl, rfl⟩
 ·have d1 : decide (1 ≤ k) = false := by simpa using h1
  have d2 : decide (2 ≤ k) = false := by simp; omega
  go_enter Tryz.func139, Tryz.ntmps139
  go_wp2
  refine bodyPost_ret (v := .tuple #[.bool (hasT k), .bool (hasC k), .bool (k == 1), .bool (hasO k)]) (by simp [results, Tryz.results139, go_sem, hasT, hasC, hasO, d1, d2]) rfl ⟨rfl, rfl⟩
def mayB (n : Int) (h : Bool) : Bool := if h then numB n else n == 0
theorem mayB_true (n : Int) : mayB n true = numB n := rfl
theorem mayB_false (n : Int) : mayB n false = (n == 0) := rfl
theorem rmay_any (n : Int) (h : Bool) (w : World) : Calls Tryz.prog 140 #[iv n, .bool h] w fun e w' => e = .returned (.bool (mayB n h)) ∧ w = w' := by
 cases h
 ·exact rmay_no n w
 ·exact rmay_yes n w
theorem rhas_is (k : Int) (a b c d : Bool) (w : World) (ha : hasT k = a) (hb : hasC k = b) (hc : (k == 1) = c) (hd : hasO k = d) :
 Calls Tryz.prog 139 #[iv k] w fun e w' => e = .returned (.tuple #[.bool a, .bool b, .bool c, .bool d]) ∧ w = w' := by
 subst ha hb hc hd
 exact rhas_any k w
theorem ris_any (k t c u o : Int) (w : World) :
 Calls Tryz.prog 107 #[.agg #[iv k, iv t, iv c, iv u, iv o]] w fun e w' => e = .returned (.bool (isB k t c u o)) ∧ Below w.heap.size w w' := by
 by_cases h1 : k = 1
 ·subst h1
  go_enter Tryz.func107, Tryz.ntmps107
  go_wp2_with (first
   | (go_at_call 139; refine (rhas_is 1 true true true false _ rfl rfl rfl rfl).mono ?_; rintro e w' ⟨rfl, rfl⟩)
   | (go_at_call 140; refine (rmay_any _ _ _).mono ?_; rintro e w' ⟨rfl, rfl⟩; simp only [mayB_true, mayB_false]))
  all_goals
   go_ret
   refine ⟨?_, (Below.refl _ _).alloc (Nat.le_refl _) _⟩
   simp [isB, *]
 by_cases h2 : k = 2
 ·subst h2
  go_enter Tryz.func107, Tryz.ntmps107
  go_wp2_with (first
   | (go_at_call 139; refine (rhas_is 2 true true false true _ rfl rfl rfl rfl).mono ?_; rintro e w' ⟨rfl, rfl⟩)
   | (go_at_call 140; refine (rmay_any _ _ _).mono ?_; rintro e w' ⟨rfl, rfl⟩; simp only [mayB_true, mayB_false]))
  all_goals
   go_ret
   refine ⟨?_, (Below.refl _ _).alloc (Nat.le_refl _) _⟩
   simp [isB, *]
 by_cases h3 : k = 3
 ·subst h3
  go_enter Tryz.func107, Tryz.ntmps107
  go_wp2_with (first
   | (go_at_call 139; refine (rhas_is 3 true true false true _ rfl rfl rfl rfl).mono ?_; rintro e w' ⟨rfl, rfl⟩)
   | (go_at_call 140; refine (rmay_any _ _ _).mono ?_; rintro e w' ⟨rfl, rfl⟩; simp only [mayB_true, mayB_false]))
  all_goals
   go_ret
   refine ⟨?_, (Below.refl _ _).alloc (Nat.le_refl _) _⟩
   simp [isB, *]
 by_cases h4 : k = 4
 ·subst h4
  go_enter Tryz.func107, Tryz.ntmps107
  go_wp2_with (first
   | (go_at_call 139; refine (rhas_is 4 false true false true _ rfl rfl rfl rfl).mono ?_; rintro e w' ⟨rfl, rfl⟩)
   | (go_at_call 140; refine (rmay_any _ _ _).mono ?_; rintro e w' ⟨rfl, rfl⟩; simp only [mayB_true, mayB_false]))
  all_goals
   go_ret
   refine ⟨?_, (Below.refl _ _).alloc (Nat.le_refl _) _⟩
   simp [isB, *]
 have hb : isB k t c u o = false := by simp [isB, h1, h2, h3, h4]
 have hC : Hid (hasC k = false) := by unfold Hid hasC; simp; omega
 generalize hT : hasT k = a
 generalize hU : (k == 1) = b
 generalize hO : hasO k = d
 have HH : Hid (∀ w', Calls Tryz.prog 139 #[iv k] w' fun e w2 => e = .returned (.tuple #[.bool a, .bool false, .bool b, .bool d]) ∧ w' = w2) := fun w' => rhas_is k a false b d w' hT hC.out hU hO
 clear hT hU hO
 go_enter Tryz.func107, Tryz.ntmps107
 go_wp2_with (go_at_call 139; refine (HH.out _).mono ?_; rintro e w' ⟨rfl, rfl⟩)
 go_ret
 exact ⟨by rw [hb]; rfl, (Below.refl _ _).alloc (Nat.le_refl _) _⟩
end Go.Proofs.YtfhncfghblkgeaaGreat
