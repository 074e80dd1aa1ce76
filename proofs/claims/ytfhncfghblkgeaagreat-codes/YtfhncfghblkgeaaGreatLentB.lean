/-
  The walks: lentBytes, wholeBytes.
-/
import Derived.Test.YtfhncfghblkgeaaGreatWhole
import Derived.Test.YtfhncfghblkgeaaGreatRUnp0
import Derived.Deep.AppendSrc
namespace Go
section
variable {P : Program}

/-- copy of a string's bytes onto the head of a block. -/
theorem run_copy_str (w : World) (dT sT ty elem : TypeId) (g dLen dCap : Nat) (s : ByteArray) (cur : Array Value) (t : TypeId)
    (hu : P.underlying dT = some (.slice elem)) (hs : (P.info? elem).map (·.size) = some 1)
    (hg : w.heap[g]? = some (.cells cur t (0, 0))) (hn : s.size ≤ dLen) (hfit : s.size ≤ cur.size) :
    (Builtin.copy_ #[dT, sT] ty #[.slice (some ⟨g, 0, none⟩) dLen dCap, .string s]).run P w =
      .ok (goInt s.size) (w.setRow g (byteCells s ++ cur.toList.drop s.size).toArray) := by
  have hl := firstCells_string (P := P) s w
  have h1 : ∀ u ∈ byteCells s, u.oneCell' = true := fun u hu => by
    obtain ⟨_, _, rfl⟩ := List.mem_map.1 hu
    rfl
  have hst := run_storeCells_at P g 0 t (byteCells s) 0 cur w hg (by rw [byteCells_length]; simpa using hfit) h1
  rw [byteCells_length] at hst
  have hmin : Nat.min s.size dLen = s.size := Nat.min_eq_left hn
  cases hq : P.info? elem with
  | none => simp [hq] at hs
  | some i =>
    have hi : i.size = 1 := by simpa [hq] using hs
    simp [Builtin.copy_, run_underlying hu, Builtin.lenOf, sizeOf, typeInfo, hq, hi, hmin, hl, hst]
end
end Go
namespace Go.Proofs.YtfhncfghblkgeaaGreat
open Go.RowKit

/-- A text's bytes. -/
def bytesL (s : ByteArray) : List Int := s.data.toList.map fun b => (b.toNat : Int)
theorem bytesL_len (s : ByteArray) : (bytesL s).length = s.size := by simp [bytesL]
theorem bytesL_cells (s : ByteArray) : byteCells s = (bytesL s).map (Value.int .u8) := by simp [byteCells, bytesL]
theorem bytesL_byte (s : ByteArray) : ∀ x ∈ bytesL s, 0 ≤ x ∧ x < 256 := by
  intro x hx
  obtain ⟨b, _, rfl⟩ := List.mem_map.1 hx
  have := b.toNat_lt
  omega
theorem bytesL_back (s : ByteArray) : strOfNums (bytesL s) = s := by
  unfold strOfNums bytesL
  obtain ⟨⟨l⟩⟩ := s
  have : ∀ l : List UInt8, (l.map fun b => (b.toNat : Int)).map (fun n => UInt8.ofNat n.toNat) = l := fun l => by
    induction l with
    | nil => rfl
    | cons b l ih => rw [List.map_cons, List.map_cons, ih]; simp
  rw [this]

/-- What lentBytes lays. -/
def lentB (s : ByteArray) : List Int := bytesL s ++ List.replicate 8 77

theorem Tryz.sizeU8 : (Tryz.prog.info? 5).map (·.size) = some 1 := by kernel_rfl

theorem next_one {Z : List Value} {j : Nat} (h : Z.length = 8 - j) (hj : j < 8) : ∃ z Z', Z = z :: Z' ∧ Z'.length = 8 - (j + 1) := by
  match Z, h with
  | [], h => simp at h; omega
  | z :: Z', h => exact ⟨z, Z', rfl, by simp at h; omega⟩

set_option maxRecDepth 100000 in
set_option maxHeartbeats 2000000 in
theorem lentBytes_any (s : ByteArray) (w : World) (hs : s.size ≤ 140737488351232) :
    Calls Tryz.prog 72 #[.string s] w fun e w' => ∃ g, e = .returned (.slice (some ⟨g, 0, none⟩) s.size (s.size + 8)) ∧ w.heap.size ≤ g ∧ w'.heap[g]? = some (.cells ((lentB s).map (Value.int .u8)).toArray 5 (0, 0)) ∧ Below w.heap.size w w' := by
  obtain ⟨i0, hi, hz0, hz1, hz2⟩ := info_parts Tryz.infoU8
  go_enter Tryz.func72, Tryz.ntmps72
  go_wp2_with (at_make; refine wpList_make_full _ rfl _ _ 92 rfl w.heap.size 5 i0 (.int .u8 0) 1 Tryz.underlying92 hi hz0 hz1 .i64 .i64 _ _ (s.size + 8) rfl rfl (by simp) (by simp) (by rw [hz2]; omega) (by unfold maxLen; omega) (Nat.le_refl _) ?_)
  intro w1 hown hgrow
  have w01 : Below w.heap.size w w1 := (Below.refl _ _).grown hgrow (Nat.le_refl _) (fun k hk => by simp at hk)
  obtain ⟨cur, hcur, hcs⟩ : ∃ cur : Array Value, w1.heap[w.heap.size]? = some (.cells cur 5 (0, 0)) ∧ cur.size = s.size + 8 := by
    rcases hown.2 with ⟨h0, _⟩ | ⟨g, c, cur, hv, _, hh, _, _, hs, _⟩
    · simp at h0
    · simp at hv
      obtain ⟨rfl, rfl⟩ := hv
      exact ⟨cur, hh, by simpa using hs⟩
  have HC : Hid (w1.heap[w.heap.size]? = some (.cells cur 5 (0, 0))) := hcur
  clear hcur hown hgrow
  obtain ⟨w2, hcopy, hrow2, hg2⟩ : ∃ w2, (Builtin.copy_ #[92, 9] 3 #[.slice (some ⟨w.heap.size, 0, none⟩) (s.size + 8) (s.size + 8), .string s]).run Tryz.prog w1 = .ok (goInt s.size) w2 ∧ w2.heap[w.heap.size]? = some (.cells (byteCells s ++ cur.toList.drop s.size).toArray 5 (0, 0)) ∧ w1.grownBy w2 (some w.heap.size) := by
    have hr := run_copy_str (P := Tryz.prog) w1 92 9 3 5 w.heap.size (s.size + 8) (s.size + 8) s cur 5 Tryz.underlying92 Tryz.sizeU8 HC.out (by omega) (by omega)
    exact ⟨_, hr, setRow_heap w1 _ cur _ _ _ HC.out, ⟨rfl, rfl, rfl, by simp [World.setRow], fun k _ hk => setRow_other w1 _ k _ (fun e => hk (by simp [e]))⟩⟩
  have HR2 : Hid (w2.heap[w.heap.size]? = some (.cells ((bytesL s ++ List.replicate 0 77).map (Value.int .u8) ++ cur.toList.drop s.size).toArray 5 (0, 0))) := by rw [bytesL_cells] at hrow2; simpa [Hid] using hrow2
  have HZ : Hid ((cur.toList.drop s.size).length = 8 - 0) := by unfold Hid; rw [List.length_drop, Array.length_toList, hcs]; omega
  generalize cur.toList.drop s.size = Z0 at HR2 HZ
  have w02 : Below w.heap.size w w2 := w01.grown hg2 w01.size (fun k hk => by simp at hk; omega)
  clear hrow2 hg2 w01
  go_wp2_with fail
  go_loopw [5] (fun i wr => ∃ (j : Nat) (Z : List Value), j ≤ 8 ∧ i = .int .i64 ((s.size : Int) + j) ∧ Hid (Z.length = 8 - j) ∧ Hid (wr.heap[w.heap.size]? = some (.cells ((bytesL s ++ List.replicate j 77).map (Value.int .u8) ++ Z).toArray 5 (0, 0))) ∧ Below w.heap.size w wr) (fun i _ => s.size + 8 - (intOf i).toNat)
  case atStart => exact ⟨0, Z0, by omega, by simp, HZ, HR2, w02⟩
  case round =>
    obtain ⟨j, Z, hj, rfl, hZ, hrow, hbel⟩ := hrel
    by_cases hlt : j < 8
    · obtain ⟨z, Z', rfl, hZ'⟩ := next_one hZ.out hlt
      have hA : ((bytesL s ++ List.replicate j 77).map (Value.int .u8)).length = s.size + j := by simp [bytesL_len]
      have d0 := row_cell hrow.out hA
      have df := row_free hrow.out
      have HR : Hid (∀ v : Value, (wr.setCell ⟨w.heap.size, s.size + j, none⟩ v).heap[w.heap.size]? = some (.cells ((bytesL s ++ List.replicate j 77).map (Value.int .u8) ++ v :: Z').toArray 5 (0, 0))) := fun v => row_store hrow.out hA v
      clear hrow hZ hA
      go_wp2
      go_roundw
      case rel =>
        refine ⟨j + 1, Z', by omega, by go_num, hZ', ?_, hbel.setCell (p := ⟨w.heap.size, s.size + j, none⟩) (Nat.le_refl _) _⟩
        have e : (bytesL s ++ List.replicate (j + 1) 77).map (Value.int .u8) ++ Z' = (bytesL s ++ List.replicate j 77).map (Value.int .u8) ++ .int .u8 77 :: Z' := by
          rw [List.replicate_succ', ← List.append_assoc, List.map_append (l₂ := [77]), List.append_assoc]; rfl
        unfold Hid
        rw [e]
        exact HR.out _
      case measure => simp [intOf]; omega
    · have hj8 : j = 8 := by omega
      subst hj8
      have hZ0 : Z = [] := List.eq_nil_of_length_eq_zero hZ.out
      subst hZ0
      have HROW : Hid (wr.heap[w.heap.size]? = some (.cells ((lentB s).map (Value.int .u8)).toArray 5 (0, 0))) := by have := hrow.out; rw [List.append_nil] at this; exact this
      clear hrow hZ
      go_wp2
      go_ret
      exact ⟨w.heap.size, rfl, Nat.le_refl _, HROW.out, hbel⟩

theorem lentB_len (s : ByteArray) : (lentB s).length = s.size + 8 := by simp [lentB, bytesL_len]
theorem lentB_in {s : ByteArray} {j : Nat} (h : j < s.size) : (lentB s).getD j 0 = (bytesL s).getD j 0 := by
  simp [lentB, List.getD, List.getElem?_append_left (show j < (bytesL s).length by rw [bytesL_len]; exact h)]
theorem lentB_out {s : ByteArray} {j : Nat} (h : s.size ≤ j) (h' : j < s.size + 8) : (lentB s).getD j 0 = 77 := by
  unfold lentB
  rw [List.getD_eq_getElem?_getD, List.getElem?_append_right (by rw [bytesL_len]; exact h), List.getElem?_replicate, if_pos (by rw [bytesL_len]; omega)]; rfl

/-- A block of bytes read as a slice of some of them. -/
theorem row_slice {w : World} {g n cap : Nat} {l m : List Int} (h : w.heap[g]? = some (.cells ((l ++ m).map (Value.int .u8)).toArray 5 (0, 0))) (hl : l.length = n) (hc : n ≤ cap) (hm : cap ≤ maxLen) (hb : ∀ x ∈ l, 0 ≤ x ∧ x < 256) : sliceOf w (some ⟨g, 0, none⟩) n cap l := by
  refine ⟨hl, hc, hm, hb, fun _ => ⟨g, 0, rfl, (Array.getElem?_eq_some_iff.1 h).1, fun i hi => ?_⟩⟩
  rw [Joins.cell_of_block h, List.getElem?_toArray, Nat.zero_add, List.getElem?_map, List.getElem?_append_left (by omega), List.getD_eq_getElem?_getD, List.getElem?_eq_getElem (by omega)]
  rfl

theorem lent_slice {w : World} {g : Nat} {s : ByteArray} (h : w.heap[g]? = some (.cells ((lentB s).map (Value.int .u8)).toArray 5 (0, 0))) (hs : s.size ≤ 140737488351232) : sliceOf w (some ⟨g, 0, none⟩) s.size (s.size + 8) (bytesL s) :=
  row_slice h (bytesL_len s) (by omega) (by unfold maxLen; omega) (bytesL_byte s)

theorem drop_getI (l : List Int) (j : Nat) (h : j < l.length) : l.drop j = l.getD j 0 :: l.drop (j + 1) := by
  rw [List.drop_eq_getElem_cons h]
  simp [List.getD, List.getElem?_eq_getElem h]

set_option maxRecDepth 100000 in
set_option maxHeartbeats 2000000 in
theorem wholeBytes_any (g : Nat) (s : ByteArray) (w : World) (hs : s.size ≤ 140737488351232) (hg : w.heap[g]? = some (.cells ((lentB s).map (Value.int .u8)).toArray 5 (0, 0))) :
    Calls Tryz.prog 74 #[.slice (some ⟨g, 0, none⟩) s.size (s.size + 8), .string s] w fun e w' => e = .returned (.bool true) ∧ w.grownBy w' (some g) := by
  have hcv := conv_slice (cap := s.size + 8) (row_slice hg (bytesL_len s) (by omega) (by unfold maxLen; omega) (bytesL_byte s))
  rw [bytesL_back] at hcv
  have HG : Hid (w.heap[g]? = some (.cells ((lentB s).map (Value.int .u8)).toArray 5 (0, 0))) := hg
  have hgw : g < w.heap.size := (Array.getElem?_eq_some_iff.1 hg).1
  clear hg
  go_enter Tryz.func74, Tryz.ntmps74
  go_wp2_with fail
  clear hcv
  go_loopw [7, 8] (fun ok i wr => ∃ j : Nat, j ≤ s.size + 8 ∧ ok = .bool true ∧ i = .int .i64 j ∧ Hid (wr.heap[g]? = some (.cells ((List.replicate j 1).map (Value.int .u8) ++ ((lentB s).drop j).map (Value.int .u8)).toArray 5 (0, 0))) ∧ w.grownBy wr (some g)) (fun _ i _ => s.size + 8 - (intOf i).toNat)
  case atStart => exact ⟨0, Nat.zero_le _, by simp, rfl, HG, World.grownBy.refl _ _⟩
  case round =>
    obtain ⟨j, hj, rfl, rfl, hrow, hgr⟩ := hrel
    by_cases hlt : j < s.size + 8
    · have hA : ((List.replicate j (1 : Int)).map (Value.int .u8)).length = j := by simp
      rw [drop_getI (lentB s) j (by rw [lentB_len]; exact hlt), List.map_cons] at hrow
      generalize hp : (lentB s).getD j 0 = p at hrow
      have HP : Hid ((lentB s).getD j 0 = p) := hp
      clear hp
      have d0 : wr.cell? ⟨g, j, none⟩ = some (.int .u8 p) := row_cell hrow.out hA
      have df := row_free hrow.out
      have HR : Hid (∀ v : Value, (wr.setCell ⟨g, j, none⟩ v).heap[g]? = some (.cells ((List.replicate j 1).map (Value.int .u8) ++ v :: ((lentB s).drop (j + 1)).map (Value.int .u8)).toArray 5 (0, 0))) := fun v => row_store hrow.out hA v
      have HE : Hid (∀ Z : List Value, (List.replicate (j + 1) (1 : Int)).map (Value.int .u8) ++ Z = (List.replicate j 1).map (Value.int .u8) ++ .int .u8 1 :: Z) := fun Z => by rw [List.replicate_succ', List.map_append, List.append_assoc]; rfl
      clear hrow hA
      by_cases hin : j < s.size
      · go_wp2
        go_roundw
        case rel => exact ⟨j + 1, by omega, by simp, by go_num, by unfold Hid; rw [HE.out]; exact HR.out _, grownBy_setCell hgr⟩
        case measure => simp [intOf]; omega
      · have hp := HP.out
        rw [lentB_out (by omega) hlt] at hp
        subst hp
        have hin' : ¬ (j : Int) < (s.size : Int) := by omega
        have hd : decide ((j : Int) < (s.size : Int)) = false := by simpa using hin'
        go_wp2
        go_roundw
        case rel => exact ⟨j + 1, by omega, by simp, by go_num, by unfold Hid; rw [HE.out]; exact HR.out _, grownBy_setCell hgr⟩
        case measure => simp [intOf]; omega
    · have hje : j = s.size + 8 := by omega
      subst hje
      go_wp2
      go_ret
      exact ⟨rfl, hgr⟩

end Go.Proofs.YtfhncfghblkgeaaGreat
