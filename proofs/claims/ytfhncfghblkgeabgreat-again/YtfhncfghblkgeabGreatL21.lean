import Derived.Test.YtfhncfghblkgeabGreatL07
import Derived.Test.YtfhncfghblkgeabGreatL20
set_option maxRecDepth 100000
set_option maxHeartbeats 2000000
namespace Go.Proofs.YtfhncfghblkgeabGreat
open Go.RowKit
def cfgAt (w : World) (b i : Nat) : Prop :=
 ∃ (n0 n1 n2 n3 n4 n5 n6 : Int) (a : Option Addr) (len cap : Nat) (ts : List (Int × Int)), w.cell? (aq b i) = some (iv n0) ∧ w.cell? (aq b (i + 1)) = some (iv n1) ∧ w.cell? (aq b (i + 2)) = some (iv n2) ∧ w.cell? (aq b (i + 3)) = some (iv n3) ∧
  w.cell? (aq b (i + 4)) = some (iv n4) ∧ w.cell? (aq b (i + 5)) = some (iv n5) ∧ w.cell? (aq b (i + 6)) = some (iv n6) ∧ w.cell? (aq b (i + 7)) = some (.slice a len cap) ∧ tiersAt w a len cap ts ∧ len * 16 ≤ 140737488351232
theorem cfgAt.below {w w' : World} {b i B : Nat} (h : cfgAt w b i) (hb : Below B w w') (hB : w.heap.size ≤ B) (hbB : b < B) : cfgAt w' b i := by
 obtain ⟨n0, n1, n2, n3, n4, n5, n6, a, len, cap, ts, h0, h1, h2, h3, h4, h5, h6, h7, ht, hl⟩ := h
 exact ⟨n0, n1, n2, n3, n4, n5, n6, a, len, cap, ts, (hb.cell (p := (aq b i)) hbB).trans h0, (hb.cell (p := (aq b (i + 1))) hbB).trans h1, (hb.cell (p := (aq b (i + 2))) hbB).trans h2, (hb.cell (p := (aq b (i + 3))) hbB).trans h3, (hb.cell (p := (aq b (i + 4))) hbB).trans h4, (hb.cell (p := (aq b (i + 5))) hbB).trans h5, (hb.cell (p := (aq b (i + 6))) hbB).trans h6, (hb.cell (p := (aq b (i + 7))) hbB).trans h7, ht.below hb hB, hl⟩
section
structure salJ (S : Sal) : Prop where
 I : salI S
 cap : S.C.cap ≤ 4294967296
 queue : 1 ≤ S.C.queue
 len : S.os.length ≤ 4294967296
 ats : ∀ a ∈ S.ansL, 0 ≤ a.at' ∧ a.at' ≤ 4611686018427387904
def psAns (PS : World → Nat → (Nat → Prop) → Sal → Prop) (w w' : World) (x : Nat) (own : Nat → Prop) (S' : Sal) : Prop :=
 ∃ own', PS w' x own' S' ∧ Same own w w' ∧ ∀ k, own' k → own k ∨ w.heap.size ≤ k
structure SendOK (PS : World → Nat → (Nat → Prop) → Sal → Prop) : Prop where
 lt : ∀ {w x own S}, PS w x own S → ∀ k, own k → k < w.heap.size
 keep : ∀ {w w' x own S}, PS w x own S → w.heap.size ≤ w'.heap.size → (∀ k, own k → w'.heap[k]? = w.heap[k]?) → PS w' x own S
 send : ∀ {w x own S ba bl bc bs k t c u o err}, PS w x own S → salJ S → sliceOf w ba bl bc bs → UN bs k t c u o err → Calls Tryz.prog 27 #[pt x 0, .slice ba bl bc] w fun e w' => e = .returned (S.send bs ⟨k, t, c, u, o⟩ err).1.val ∧ psAns PS w w' x own (S.send bs ⟨k, t, c, u, o⟩ err).2
theorem ask_len (S : Sal) (r : Req) (h : S.os.length ≤ 4294967296) : (S.ask r).2.os.length ≤ 4294967296 := by
 unfold Sal.ask
 split
 ·exact h
 split
 ·exact h
 split
 ·exact h
 ·next g3 =>
  split
  ·show ((S.more ⟨r.cust, r.units, 0, 0, 0, 0⟩).holds S.os.length).os.length ≤ _
   rw [(more_holds S r.cust r.units).1]
   simp [Sal.more]; omega
  split
  ·exact h
  ·simp [Sal.more]; omega
theorem drainS_len : ∀ (qs : List Nat) (S : Sal), (drainS S qs).os.length = S.os.length
 | [], _ => rfl
 | q :: qs, S => by
   have e : drainS S (q :: qs) = drainS (if S.left < (S.os.getD q ord0).units then S.ends q 18 else S) qs := rfl
   rw [e, drainS_len]
   split
   ·exact ends_len S q 18
   ·rfl
theorem doS_len (S : Sal) (r : Req) (h : S.os.length ≤ 4294967296) : (S.doS r).2.os.length ≤ 4294967296 := by
 unfold Sal.doS
 split
 ·exact ask_len S r h
 split
 ·unfold Sal.confirm
  split
  ·exact h
  ·split
   ·exact h
   ·show (Sal.promote _).os.length ≤ _
    rw [promote_len, drainS_len, ends_len]
    exact h
 ·unfold Sal.cancel
  split
  ·exact h
  ·split
   ·exact h
   ·show (Sal.promote _).os.length ≤ _
    rw [promote_len, ends_len]
    exact h
theorem send_same (S : Sal) (bs : List Int) (r : Req) (err : Int) : (S.send bs r err).2.C = S.C ∧ (S.send bs r err).2.now = S.now ∧ (S.send bs r err).2.ansL.length ≤ S.ansL.length + 1 := by
 unfold Sal.send
 split
 ·exact ⟨rfl, rfl, by simp⟩
 split
 ·exact ⟨rfl, rfl, by simp⟩
 split
 ·split <;> exact ⟨rfl, rfl, by simp⟩
 ·split
  ·exact ⟨rfl, rfl, by simp⟩
  ·obtain ⟨a, b, c⟩ := doS_same S r
   exact ⟨a, b, by simp [c]⟩
theorem salJ_send {S : Sal} (h : salJ S) (bs : List Int) (r : Req) (err : Int) (hI : salI (S.send bs r err).2) : salJ (S.send bs r err).2 := by
 obtain ⟨a, b, c⟩ := send_same S bs r err
 refine ⟨hI, by rw [a]; exact h.cap, by rw [a]; exact h.queue, ?_, ?_⟩
 ·unfold Sal.send
  split
  ·exact h.len
  split
  ·exact h.len
  split
  ·split <;> exact h.len
  ·split
   ·exact h.len
   ·exact doS_len S r h.len
 ·unfold Sal.send
  split
  ·exact h.ats
  split
  ·exact h.ats
  split
  ·split <;> exact h.ats
  ·split
   ·exact h.ats
   ·intro x hx
    have hx' : x ∈ (S.doS r).2.ansL ++ [⟨strOfNums bs, r.token, (S.doS r).1, S.now⟩] := hx
    rw [(doS_same S r).2.2] at hx'
    rcases List.mem_append.1 hx' with hx' | hx'
    ·exact h.ats x hx'
    ·simp at hx'; subst hx'; exact h.I.now
structure SE where
 x : Nat
 R : Nat
 own : Nat → Prop
 ap : Option Addr
 lp : Nat
 cp : Nat
 vo : Value
 va : Value
 S : Sal
def SE.fp (e : SE) (b : Nat) : Prop := e.own b ∨ b = e.R ∨ e.vo.ownBlock = some b ∨ e.va.ownBlock = some b
def SE.then (e e2 : SE) (w : World) : Prop := e2.x = e.x ∧ e2.R = e.R ∧ ∀ k, e2.fp k → e.fp k ∨ w.heap.size ≤ k
section
variable {PS : World → Nat → (Nat → Prop) → Sal → Prop} {w w' : World} {B j : Nat} {e : SE}
end
end
section
open Go.ChangeShapes Go.WideShapes Go.ChangeAt Go.RowKit
theorem own : ownKnob Tryz.prog.godebug = none := by kernel_rfl
theorem laidOut : laidOutB Tryz.prog = true := by kernel_rfl
theorem Tryz.cellsReq : Tryz.prog.cellsOf 39 = 5 := by kernel_rfl
theorem Tryz.cellsInt : Tryz.prog.cellsOf 3 = 1 := by kernel_rfl
end
section
open Go.ChangeShapes Go.WideShapes Go.ChangeAt Go.RowKit
def wOK {H : Type} (t : TypeId) (d : DataW H) : Prop := ∀ x ∈ DataW.weights Tryz.prog t d, x ≤ reachBytes
theorem mem_weightsAll {H : Type} {P : Program} {e : TypeId} {d : DataW H} {n : Nat} (hn : n ∈ d.weights P e) : ∀ (el : List (DataW H)), d ∈ el → n ∈ DataW.weightsAll P e el
 | [], h => by simp at h
 | d' :: el, h => by
   simp only [DataW.weightsAll, List.mem_append]
   rcases List.mem_cons.1 h with rfl | h
   ·exact .inl hn
   ·exact .inr (mem_weightsAll hn el h)
theorem wOK_slice {H : Type} {t e : TypeId} {el sp : List (DataW H)} (hu : Tryz.prog.underlying t = some (.slice e)) (h : wOK t (.slice el sp)) : (el.length + sp.length) * Tryz.prog.bytesOf e ≤ reachBytes ∧ ∀ d ∈ el, wOK e d := by
 unfold wOK at h
 simp only [DataW.weights, hu] at h
 exact ⟨h _ (by simp), fun d hd x hx => h x (by simp [mem_weightsAll hx el hd])⟩
theorem wOK_agg {H : Type} {t : TypeId} {fs : Array Field} {parts : List (DataW H)} (hu : Tryz.prog.underlying t = some (.struct fs)) (h : wOK t (.agg parts)) {i : Nat} {f : Field} {d : DataW H} (hf : fs[i]? = some f) (hd : parts[i]? = some d) : wOK f.type d := by
 unfold wOK at h
 simp only [DataW.weights, hu] at h
 exact fun x hx => h x (DataW.weights_mem_each (j := i) (by simp [hf]) hd x hx)
theorem rows_open {H : Type} {enc : TypeId × Value → H} {w : World} {held : Bool} {t e : TypeId} {fs : Array Field} {c fuel : Nat} {a : Option Addr} {len cap : Nat} {x : DataW H × List MemPlace}
 (ht : Tryz.prog.underlying t = some (.slice e)) (he : Tryz.prog.underlying e = some (.struct fs)) (hc : Tryz.prog.cellsOf e = c) (h : DataW.trod enc Tryz.prog w 0 (fun _ => true) held fuel t [.slice a len cap] = some x) (hw : wOK t x.1) :
 (a = none ∧ len = 0 ∧ cap = 0) ∨ ∃ ad, a = some ad ∧ len ≤ cap ∧ cap * Tryz.prog.bytesOf e ≤ reachBytes ∧ ∀ i, i < len → ∃ (cs : List Value) (xs : List (DataW H × List MemPlace)) (n : Nat),
   cs.length = c ∧ (∀ j, j < c → w.cell? (ad.add (i * c + j)) = cs[j]?) ∧ xs.length = fs.size ∧
   (∀ (k : Nat) (f : Field), fs[k]? = some f → DataW.trod enc Tryz.prog w 0 (fun _ => true) held n f.type ((cs.drop f.offset).take (Tryz.prog.cellsOf f.type)) = xs[k]?) ∧ (∀ (k : Nat) (f : Field) y, fs[k]? = some f → xs[k]? = some y → wOK f.type y.1) := by
 rcases DataW.trod_slice ht h with ⟨hcs, _⟩ | ⟨ad, l, cp, elems, rest, n, _, hcs, hx, _, hlc, _, hel, hcell, hsp, _⟩
 ·simp at hcs
  exact .inl hcs
 ·simp at hcs
  obtain ⟨rfl, rfl, rfl⟩ := hcs
  subst hx
  obtain ⟨hb, hwe⟩ := wOK_slice ht hw
  simp only [List.length_map] at hb
  have hr := (hsp rfl).1
  rw [hel, hr, show len + (cap - len) = cap by omega] at hb
  refine .inr ⟨ad, rfl, hlc, hb, fun i hi => ?_⟩
  have h1 := hcell i hi
  rw [hc, List.getElem?_eq_getElem (by omega : i < elems.length)] at h1
  obtain ⟨cs, hcs, htr⟩ := Option.bind_eq_some_iff.1 h1
  obtain ⟨_, hcl, hcc⟩ := World.cells?_some hcs
  obtain ⟨xs, m, _, hy, _, hxl, hxf⟩ := DataW.trod_struct he htr
  refine ⟨cs, xs, m, hcl, fun j hj => ?_, hxl, hxf, fun k f y hf hy' => ?_⟩
  ·rw [← Deep.add_add]; exact hcc j hj
  ·have hwi := hwe elems[i].1 (List.mem_map.2 ⟨elems[i], List.getElem_mem _, rfl⟩)
   rw [hy] at hwi
   exact wOK_agg he hwi hf (by simp [hy'])
theorem one_cell {cs : List Value} {k : Nat} (h : k < cs.length) : (cs.drop k).take 1 = [cs[k]] := by
 rw [List.drop_eq_getElem_cons h]; rfl
theorem int_field {H : Type} {enc : TypeId × Value → H} {w : World} {held : Bool} {n : Nat} {cs : List Value} {k : Nat} {y : Option (DataW H × List MemPlace)} (hk : k < cs.length)
 (h : DataW.trod enc Tryz.prog w 0 (fun _ => true) held n 3 ((cs.drop k).take (Tryz.prog.cellsOf 3)) = y) (hy : y.isSome = true) : ∃ m : Int, cs[k]? = some (iv m) ∧ (-9223372036854775808 ≤ m ∧ m ≤ 9223372036854775807) := by
 obtain ⟨z, rfl⟩ := Option.isSome_iff_exists.1 hy
 rw [Tryz.cellsInt, one_cell hk] at h
 obtain ⟨m, e, _, hm⟩ := DataW.trod_int Tryz.underlying3 h
 simp at e
 have hb := bounds_i64 hm
 exact ⟨m, by rw [List.getElem?_eq_getElem hk, e], hb.1, hb.2⟩
theorem some_at {α : Type} {xs : List α} {i n : Nat} (h : xs.length = n) (hi : i < n) : (xs[i]?).isSome = true := by
 rw [List.getElem?_eq_getElem (by omega)]; rfl
theorem addr_plain {w : World} {ad : Addr} {v : Value} (h : w.cell? (ad.add 0) = some v) : ∃ b off, ad = (aq b off) := by
 obtain ⟨b, off, spot⟩ := ad
 have hs := World.cell?_spot h
 cases spot with
 | none => exact ⟨b, off, rfl⟩
 | some s => simp [Addr.add] at hs
theorem getD_map {α : Type} (f : Nat → α) (d : α) {i len : Nat} (h : i < len) : ((List.range len).map f).getD i d = f i := by simp [List.getD, h]
end
end Go.Proofs.YtfhncfghblkgeabGreat
