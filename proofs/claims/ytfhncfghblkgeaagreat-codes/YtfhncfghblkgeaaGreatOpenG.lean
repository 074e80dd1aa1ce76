/-
  Arguments that are slices of structs, opened: what serves all of them.
-/
import Derived.Test.YtfhncfghblkgeaaGreatOpen
import Derived.SizedLaws
import Derived.Deep.Slices
namespace Go.Proofs.YtfhncfghblkgeaaGreat
open Go.ChangeShapes Go.WideShapes Go.ChangeAt Go.RowKit


/-- All that the datum weighs is within reach. -/
def wOK {H : Type} (t : TypeId) (d : DataW H) : Prop := ∀ x ∈ DataW.weights Tryz.prog t d, x ≤ reachBytes

theorem mem_weightsAll {H : Type} {P : Program} {e : TypeId} {d : DataW H} {n : Nat} (hn : n ∈ d.weights P e) : ∀ (el : List (DataW H)), d ∈ el → n ∈ DataW.weightsAll P e el
  | [], h => by simp at h
  | d' :: el, h => by
    simp only [DataW.weightsAll, List.mem_append]
    rcases List.mem_cons.1 h with rfl | h
    · exact .inl hn
    · exact .inr (mem_weightsAll hn el h)

theorem wOK_slice {H : Type} {t e : TypeId} {el sp : List (DataW H)} (hu : Tryz.prog.underlying t = some (.slice e)) (h : wOK t (.slice el sp)) : (el.length + sp.length) * Tryz.prog.bytesOf e ≤ reachBytes ∧ ∀ d ∈ el, wOK e d := by
  unfold wOK at h
  simp only [DataW.weights, hu] at h
  exact ⟨h _ (by simp), fun d hd x hx => h x (by simp [mem_weightsAll hx el hd])⟩

theorem wOK_agg {H : Type} {t : TypeId} {fs : Array Field} {parts : List (DataW H)} (hu : Tryz.prog.underlying t = some (.struct fs)) (h : wOK t (.agg parts)) {i : Nat} {f : Field} {d : DataW H} (hf : fs[i]? = some f) (hd : parts[i]? = some d) : wOK f.type d := by
  unfold wOK at h
  simp only [DataW.weights, hu] at h
  exact fun x hx => h x (DataW.weights_mem_each (j := i) (by simp [hf]) hd x hx)

set_option maxRecDepth 100000 in
/-- A slice of structs: each element's cells and fields. -/
theorem rows_open {H : Type} {enc : TypeId × Value → H} {w : World} {held : Bool} {t e : TypeId} {fs : Array Field} {c fuel : Nat} {a : Option Addr} {len cap : Nat} {x : DataW H × List MemPlace}
    (ht : Tryz.prog.underlying t = some (.slice e)) (he : Tryz.prog.underlying e = some (.struct fs)) (hc : Tryz.prog.cellsOf e = c) (h : DataW.trod enc Tryz.prog w 0 (fun _ => true) held fuel t [.slice a len cap] = some x) (hw : wOK t x.1) :
    (a = none ∧ len = 0 ∧ cap = 0) ∨ ∃ ad, a = some ad ∧ len ≤ cap ∧ cap * Tryz.prog.bytesOf e ≤ reachBytes ∧ ∀ i, i < len → ∃ (cs : List Value) (xs : List (DataW H × List MemPlace)) (n : Nat),
      cs.length = c ∧ (∀ j, j < c → w.cell? (ad.add (i * c + j)) = cs[j]?) ∧ xs.length = fs.size ∧
      (∀ (k : Nat) (f : Field), fs[k]? = some f → DataW.trod enc Tryz.prog w 0 (fun _ => true) held n f.type ((cs.drop f.offset).take (Tryz.prog.cellsOf f.type)) = xs[k]?) ∧ (∀ (k : Nat) (f : Field) y, fs[k]? = some f → xs[k]? = some y → wOK f.type y.1) := by
  rcases DataW.trod_slice ht h with ⟨hcs, _⟩ | ⟨ad, l, cp, elems, rest, n, _, hcs, hx, _, hlc, _, hel, hcell, hsp, _⟩
  · simp at hcs
    exact .inl hcs
  · simp at hcs
    obtain ⟨rfl, rfl, rfl⟩ := hcs
    subst hx
    obtain ⟨hb, hwe⟩ := wOK_slice ht hw
    simp only [List.length_map] at hb
    have hr := (hsp rfl).1
    rw [hel, hr, show len + (cap - len) = cap by omega] at hb
    refine .inr ⟨ad, rfl, hlc, hb, fun i hi => ?_⟩
    have h1 := hcell i hi
    rw [hc, List.getElem?_eq_getElem (by omega : i < elems.length)] at h1
    obtain ⟨cs, hcs, htr⟩ := Option.bind_eq_some_iff.1 h1
    obtain ⟨_, hcl, hcc⟩ := World.cells?_some hcs
    obtain ⟨xs, m, _, hy, _, hxl, hxf⟩ := DataW.trod_struct he htr
    refine ⟨cs, xs, m, hcl, fun j hj => ?_, hxl, hxf, fun k f y hf hy' => ?_⟩
    · rw [← Deep.add_add]; exact hcc j hj
    · have hwi := hwe elems[i].1 (List.mem_map.2 ⟨elems[i], List.getElem_mem _, rfl⟩)
      rw [hy] at hwi
      exact wOK_agg he hwi hf (by simp [hy'])

theorem one_cell {cs : List Value} {k : Nat} (h : k < cs.length) : (cs.drop k).take 1 = [cs[k]] := by
  rw [List.drop_eq_getElem_cons h]; rfl

set_option maxRecDepth 100000 in
/-- A field that is an int. -/
theorem int_field {H : Type} {enc : TypeId × Value → H} {w : World} {held : Bool} {n : Nat} {cs : List Value} {k : Nat} {y : Option (DataW H × List MemPlace)} (hk : k < cs.length)
    (h : DataW.trod enc Tryz.prog w 0 (fun _ => true) held n 3 ((cs.drop k).take (Tryz.prog.cellsOf 3)) = y) (hy : y.isSome = true) : ∃ m : Int, cs[k]? = some (.int .i64 m) ∧ (-9223372036854775808 ≤ m ∧ m ≤ 9223372036854775807) := by
  obtain ⟨z, rfl⟩ := Option.isSome_iff_exists.1 hy
  rw [Tryz.cellsInt, one_cell hk] at h
  obtain ⟨m, e, _, hm⟩ := DataW.trod_int Tryz.underlying3 h
  simp at e
  have hb := bounds_i64 hm
  exact ⟨m, by rw [List.getElem?_eq_getElem hk, e], hb.1, hb.2⟩

theorem some_at {α : Type} {xs : List α} {i n : Nat} (h : xs.length = n) (hi : i < n) : (xs[i]?).isSome = true := by
  rw [List.getElem?_eq_getElem (by omega)]; rfl

/-- Cells at an address that has no spot. -/
theorem addr_plain {w : World} {ad : Addr} {v : Value} (h : w.cell? (ad.add 0) = some v) : ∃ b off, ad = ⟨b, off, none⟩ := by
  obtain ⟨b, off, spot⟩ := ad
  have hs := World.cell?_spot h
  cases spot with
  | none => exact ⟨b, off, rfl⟩
  | some s => simp [Addr.add] at hs

theorem getD_map {α : Type} (f : Nat → α) (d : α) {i len : Nat} (h : i < len) : ((List.range len).map f).getD i d = f i := by simp [List.getD, h]

end Go.Proofs.YtfhncfghblkgeaaGreat
