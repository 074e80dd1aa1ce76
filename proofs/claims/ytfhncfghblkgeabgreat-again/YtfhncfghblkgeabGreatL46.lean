import Derived.Test.YtfhncfghblkgeabGreatL45
set_option maxRecDepth 100000
set_option maxHeartbeats 2000000
namespace Go.Proofs.YtfhncfghblkgeabGreat
open Go.RowKit
section
theorem poll_walk (x : Nat) (c o pk po pc pu : Int) (w : World) (own : Nat → Prop) (P0 P1 : World → (Nat → Prop) → Prop) (K0 : Keeps P0) (K1 : Keeps P1) (h : P0 w own)
 (HD : Hid (∀ W o', P0 W o' → Calls Tryz.prog 15 #[pt x 0, .agg #[iv 0, iv 4, iv 0, iv c, iv 0, iv o]] W fun e w' => e = .returned (.tuple #[.agg #[iv pk, iv po, iv pc, iv pu], .bool true]) ∧ ansP P1 W w' o')) :
 Calls Tryz.prog 25 #[pt x 0, iv c, iv o] w fun e w' => e = .returned (.tuple #[.agg #[iv pk, iv po, iv pc, iv pu], .bool true]) ∧ ansP P1 w w' own := by
 have HW : Hid (∀ k, own k → k < w.heap.size) := K0.lt h
 have HDs : Hid _ := seen_call (m := 1) HW.out HD.out
 have hT0 : Hid (seenT P0 w own 1 (w.alloc (.cells #[iv 0, iv 0, iv 0, iv 0] 33))) := seen_start K0 h ((Below.refl _ _).alloc (Nat.le_refl _) _) (by simp)
 have rb0 : Hid ((w.alloc (.cells #[iv 0, iv 0, iv 0, iv 0] 33)).heap[w.heap.size]? = some (.cells #[iv 0, iv 0, iv 0, iv 0] 33 (0, 0))) := heap_alloc_new w _
 clear h
 go_enter Tryz.func25, Tryz.ntmps25
 go_wp2_with fail
 generalize w.alloc (.cells #[iv 0, iv 0, iv 0, iv 0] 33) = W0 at hT0 rb0 ⊢
 refine (HDs.out _ hT0.out).mono ?_
 rintro e W1 ⟨rfl, hT1, hk⟩
 have rb1 : Hid _ := (hk _ (Nat.le_refl _) (by omega)).trans rb0.out
 have lr1 : w.heap.size < W1.heap.size := (blt rb1.out)
 have HE : Hid (∀ v0 v1 v2 v3, ansP P1 w ((((W1.setCell (aq w.heap.size 0) v0).setCell (aq w.heap.size 1) v1).setCell (aq w.heap.size 2) v2).setCell (aq w.heap.size 3) v3) own) := fun v0 v1 v2 v3 => seen_end (seen_set4 K1 hT1 HW.out (by omega) (by omega) v0 v1 v2 v3)
 have f0 := row_free rb1.out 0
 have f1 := row_free rb1.out 1
 have f2 := row_free rb1.out 2
 have f3 := row_free rb1.out 3
 obtain ⟨z0, z1, z2, z3⟩ := fourK rb1.out
 clear hT1 hk HW rb0 hT0 HDs HD
 go_wp2
 refine bodyPost_ret (v := .tuple #[.agg #[iv pk, iv po, iv pc, iv pu], .bool true]) (by simp [results, Tryz.results25, go_sem, z0, z1, z2, z3]) rfl ⟨rfl, ?_⟩
 exact HE.out _ _ _ _
theorem inI_0 : inI 0 := ⟨by decide, by decide⟩
theorem inI_4 : inI 4 := ⟨by decide, by decide⟩
section
variable {w : World} {x : Nat} {own : Nat → Prop} {S : Sal}
def Sal.pollK (S : Sal) (c o : Int) : Rep := (S.does ⟨0, 4, 0, c, 0, o⟩).1
theorem pollK_same (S : Sal) (c o : Int) : (S.does ⟨0, 4, 0, c, 0, o⟩).2 = S := by
 unfold Sal.does
 rw [if_pos (by show (0 : Int) ≤ 4 ∧ (4 : Int) < 256; omega), if_neg (by show ¬ (4 : Int) = 0; omega)]
 unfold Sal.sendK
 split
 ·unfold Sal.send
  rw [if_neg (fun c => c rfl), if_pos (show (Stp.req _).kind = 4 from rfl)]
 ·rfl
theorem poll_any (h : PSK w x own S) (c o : Int) (hc : inI c) (ho : inI o) :
 Calls Tryz.prog 25 #[pt x 0, iv c, iv o] w fun e w' => e = .returned (.tuple #[(S.pollK c o).val, .bool true]) ∧ ansP (psk' x S) w w' own := by
 refine poll_walk x c o _ _ _ _ w own (psk' x S) (psk' x S) (keepPSK _ _) (keepPSK _ _) h (fun W o' hp => ?_)
 have := does_any hp ⟨0, 4, 0, c, 0, o⟩ ⟨inI_0, inI_4, inI_0, hc, inI_0, ho⟩
 rw [pollK_same] at this
 exact this
def sal0 (C : Cfg) : Sal := ⟨C, 0, [], []⟩
theorem sal0_J {n0 n1 n2 n3 n4 n5 n6 : Int} {ts : List (Int × Int)} (hc : cfgB [n0, n1, n2, n3, n4, n5, n6] ts = true) : salJ (sal0 ⟨n0, n1, n2, n3, n4, n5, n6, ts⟩) ∧ keepI (sal0 ⟨n0, n1, n2, n3, n4, n5, n6, ts⟩) := by
 have hc' := hc
 unfold cfgB at hc'
 simp only [List.all_cons, List.all_nil, Bool.and_true, Bool.and_eq_true] at hc'
 obtain ⟨⟨h0, h1, h2, h3, h4, h5, h6⟩, hp⟩ := hc'
 have hp' := hp
 unfold pricesB at hp'
 simp only [Bool.and_eq_true, decide_eq_true_eq, List.all_eq_true, List.mem_range] at hp'
 obtain ⟨⟨hl1, hl4⟩, ht⟩ := hp'
 have hti : ∀ i, i < ts.length → (1 ≤ (ts.getD i (0, 0)).2 ∧ (ts.getD i (0, 0)).2 ≤ 1073741824) ∧ (i = 0 → (ts.getD i (0, 0)).1 = 0) := fun i hi => by
  have := ht i hi
  unfold tierB at this
  simp only [Bool.and_eq_true, decide_eq_true_eq] at this
  refine ⟨⟨this.1.1.1, this.1.1.2⟩, fun e => ?_⟩
  have h2 := this.2
  rw [if_pos e] at h2
  simpa using h2
 have hmem : ∀ p ∈ ts, 1 ≤ p.2 ∧ p.2 ≤ 1073741824 := fun p hp => by
  obtain ⟨i, hi, e⟩ := List.getElem_of_mem hp
  have := (hti i hi).1
  simpa [List.getD, List.getElem?_eq_getElem hi, e] using this
 have b0 := numB_iff h0
 have b1 := numB_iff h1
 have b2 := numB_iff h2
 have b3 := numB_iff h3
 have b4 := numB_iff h4
 refine ⟨⟨⟨fun o ho => by simp [sal0] at ho, ?_, fun c _ => ?_, ?_, ?_, fun o ho => by simp [sal0] at ho, fun p hp => ?_⟩, b1.2, b2.1, by simp [sal0], fun a ha => by simp [sal0] at ha⟩, ⟨⟨hl1, ?_, fun p hp => (hmem p hp).1⟩, fun o ho => by simp [sal0] at ho, fun a ha => by simp [sal0] at ha⟩⟩
 ·show unitsS [] 13 0 + unitsS [] 14 0 ≤ n0
  simp [unitsS]; omega
 ·show unitsS [] 12 c ≤ 4294967296
  simp [unitsS]
 ·show 0 ≤ n0 ∧ n0 ≤ 4294967296 ∧ 0 ≤ n3 ∧ n3 ≤ 4294967296 ∧ 0 ≤ n4 ∧ n4 ≤ 4294967296
  omega
 ·show (0 : Int) ≤ 0 ∧ (0 : Int) ≤ 4611686018427387904
  omega
 ·have := hmem p hp
  omega
 ·exact (hti 0 (by omega)).2 rfl
theorem price_first {ts : List (Int × Int)} (hp : pricesB ts = true) : ∀ k, 1 ≤ k → k ≤ ts.length → priceT ts 0 k = (ts.getD 0 (0, 0)).2 := by
 unfold pricesB at hp
 simp only [Bool.and_eq_true, decide_eq_true_eq, List.all_eq_true, List.mem_range] at hp
 obtain ⟨⟨hl1, hl4⟩, ht⟩ := hp
 have hti : ∀ i, i < ts.length → (i = 0 → (ts.getD i (0, 0)).1 = 0) ∧ (i ≠ 0 → (ts.getD (i - 1) (0, 0)).1 < (ts.getD i (0, 0)).1) := fun i hi => by
  have := ht i hi
  unfold tierB at this
  simp only [Bool.and_eq_true, decide_eq_true_eq] at this
  have h2 := this.2
  refine ⟨fun e => ?_, fun e => ?_⟩
  ·rw [if_pos e] at h2; simpa using h2
  ·rw [if_neg e] at h2; simpa using h2
 have hpos : ∀ i, i < ts.length → i ≠ 0 → 0 < (ts.getD i (0, 0)).1 := by
  intro i
  induction i with
  | zero => intro _ h; exact absurd rfl h
  | succ i ih =>
    intro hi _
    have h1 := (hti (i + 1) hi).2 (by omega)
    rw [Nat.add_sub_cancel] at h1
    by_cases e : i = 0
    ·have := (hti 0 (by omega)).1 rfl
     rw [e] at h1 ⊢
     omega
    ·have := ih (by omega) e
     omega
 intro k
 induction k with
 | zero => intro h; omega
 | succ k ih =>
   intro _ hk
   rw [priceT]
   by_cases e : k = 0
   ·rw [e, (hti 0 (by omega)).1 rfl, if_pos (Int.le_refl _)]
   ·have := hpos k (by omega) e
    rw [if_neg (by omega)]
    exact ih (by omega) (by omega)
theorem sells_pure {n0 n1 n2 n3 n4 n5 n6 : Int} {ts : List (Int × Int)} (hc : cfgB [n0, n1, n2, n3, n4, n5, n6] ts = true) : ((sal0 ⟨n0, n1, n2, n3, n4, n5, n6, ts⟩).sendK ⟨0, 1, 1, 1, 1, 0⟩).1 = ⟨2, 1, (ts.getD 0 (0, 0)).2, n3⟩ := by
 have hc' := hc
 unfold cfgB at hc'
 simp only [List.all_cons, List.all_nil, Bool.and_true, Bool.and_eq_true] at hc'
 obtain ⟨⟨h0, h1, h2, h3, h4, h5, h6⟩, hp⟩ := hc'
 have b0 := numB_iff h0
 have b1 := numB_iff h1
 have b6 := numB_iff h6
 have hlen : 1 ≤ ts.length := by
  have hp' := hp
  unfold pricesB at hp'
  simp only [Bool.and_eq_true, decide_eq_true_eq] at hp'
  exact hp'.1.1
 have hu : ∀ st c : Int, unitsS [] st c = 0 := fun st c => by simp [unitsS]
 have hpr : (sal0 ⟨n0, n1, n2, n3, n4, n5, n6, ts⟩).price = (ts.getD 0 (0, 0)).2 := by
  show priceT ts (unitsS [] 14 0) ts.length = _
  rw [hu]
  exact price_first hp _ hlen (Nat.le_refl _)
 have hask : ((sal0 ⟨n0, n1, n2, n3, n4, n5, n6, ts⟩).ask ⟨1, 1, 1, 1, 0⟩).1 = ⟨2, 1, (ts.getD 0 (0, 0)).2, n3⟩ := by
  obtain ⟨e1, e2⟩ := more_holds (sal0 ⟨n0, n1, n2, n3, n4, n5, n6, ts⟩) 1 1
  unfold Sal.ask
  rw [if_neg (by show ¬ n1 < unitsS [] 13 1 + unitsS [] 14 1 + unitsS [] 12 1 + 1; rw [hu, hu, hu]; omega)]
  rw [if_neg (by show ¬ n0 - unitsS [] 14 0 < 1; rw [hu]; omega)]
  rw [if_neg (by show ¬ 4294967296 ≤ 0; omega)]
  rw [if_pos ⟨rfl, by show (1 : Int) ≤ n0 - unitsS [] 14 0 - unitsS [] 13 0; rw [hu, hu]; omega⟩]
  have e3 : ((sal0 ⟨n0, n1, n2, n3, n4, n5, n6, ts⟩).more ⟨1, 1, 0, 0, 0, 0⟩).holds (sal0 ⟨n0, n1, n2, n3, n4, n5, n6, ts⟩).os.length = (sal0 ⟨n0, n1, n2, n3, n4, n5, n6, ts⟩).more ⟨1, 1, 13, (sal0 ⟨n0, n1, n2, n3, n4, n5, n6, ts⟩).price, (sal0 ⟨n0, n1, n2, n3, n4, n5, n6, ts⟩).now + (sal0 ⟨n0, n1, n2, n3, n4, n5, n6, ts⟩).C.lease, 0⟩ := by rw [e1, e2]
  simp only
  rw [e3, hpr]
  simp [Sal.more, sal0]
 unfold Sal.sendK
 rw [if_pos (by rfl)]
 unfold Sal.send
 rw [if_neg (fun c => c rfl), if_neg (by show ¬ (1 : Int) = 4; omega)]
 have hus : (sal0 ⟨n0, n1, n2, n3, n4, n5, n6, ts⟩).used (Stp.req ⟨0, 1, 1, 1, 1, 0⟩).token = none := rfl
 rw [hus]
 simp only
 rw [if_neg (by show ¬ ((0 : Nat) : Int) = n6; omega)]
 exact hask
theorem sendK_any (p : Stp) {ba : Option Addr} {bl bc : Nat} (hps : PSW w x own S) (hJ : salJ S) (hsl : sliceOf w ba bl bc p.bytes) :
 Calls Tryz.prog 27 #[pt x 0, .slice ba bl bc] w fun e w' => e = .returned (S.sendK p).1.val ∧ ansP (fun W o => PSW W x o (S.sendK p).2) w w' own := by
 unfold Sal.sendK
 rcases p.un with ⟨hb, hun⟩ | ⟨hb, hun⟩
 ·rw [if_pos hb]
  exact sendW.send hps hJ hsl hun
 ·rw [if_neg (by rw [hb]; decide)]
  have := sendW.send hps hJ hsl hun
  unfold Sal.send at this
  rw [if_pos (by decide)] at this
  exact this
theorem open_any {n0 n1 n2 n3 n4 n5 n6 : Int} {a sa : Option Addr} {len cap sl sc : Nat} {ts : List (Int × Int)} (ht : tiersAt w a len cap ts) :
 Calls Tryz.prog 7 #[.agg #[iv n0, iv n1, iv n2, iv n3, iv n4, iv n5, iv n6, .slice a len cap, .slice sa sl sc]] w fun e w' =>
  (cfgB [n0, n1, n2, n3, n4, n5, n6] ts = false ∧ e = .returned (.tuple #[.pointer none, .bool true]) ∧ Below w.heap.size w w') ∨
  (cfgB [n0, n1, n2, n3, n4, n5, n6] ts = true ∧ ∃ x own, e = .returned (.tuple #[pt x 0, .bool true]) ∧ PSK w' x own (sal0 ⟨n0, n1, n2, n3, n4, n5, n6, ts⟩) ∧ (∀ k, own k → w.heap.size ≤ k) ∧ Below w.heap.size w w') := by
 cases hc : cfgB [n0, n1, n2, n3, n4, n5, n6] ts
 ·refine (open_none n0 n1 n2 n3 n4 n5 n6 a sa len cap sl sc w (fun W hW => openW.no (ht.below hW (Nat.le_refl _)) hc) (fun W hW => ?_)).mono (fun e w' h => .inl ⟨rfl, h⟩)
  have := right_any n0 n1 n2 n3 n4 n5 n6 a len cap ts W (ht.below hW (Nat.le_refl _))
  rw [hc] at this
  exact this
 ·obtain ⟨hJ, hI⟩ := sal0_J hc
  have hc' := hc
  unfold cfgB at hc'
  simp only [List.all_cons, List.all_nil, Bool.and_true, Bool.and_eq_true] at hc'
  obtain ⟨⟨h0, h1, h2, h3, h4, h5, h6⟩, hp⟩ := hc'
  have hlen : 1 ≤ ts.length ∧ ts.length ≤ 4 := by
   unfold pricesB at hp
   simp only [Bool.and_eq_true, decide_eq_true_eq] at hp
   exact hp.1
  refine (open_some n0 n1 n2 n3 n4 n5 n6 a sa len cap sl sc w (fun x W o => PSK W x o (sal0 ⟨n0, n1, n2, n3, n4, n5, n6, ts⟩)) (fun x => keepPSK x _) (fun W hW => ?_) (fun W hW => ?_) (fun W hW => ?_)).mono (fun e w' h => .inr ⟨rfl, h⟩)
  ·refine (openW.yes (ht.below hW (Nat.le_refl _)) hc).mono ?_
   rintro e w' ⟨x, own, rfl, p1, p2, p3⟩
   exact ⟨x, own, rfl, ⟨p1, hJ, hI⟩, p2, p3⟩
  ·have := right_any n0 n1 n2 n3 n4 n5 n6 a len cap ts W (ht.below hW (Nat.le_refl _))
   rw [hc] at this
   exact this
  ·obtain ⟨t1, t2, t3, t4, t5⟩ := ht.below hW (Nat.le_refl _)
   obtain ⟨b, off, rfl, hb, hcell⟩ := t5 (by intro e; have := hlen.1; rw [e] at this; simp at this)
   obtain ⟨q0, q1⟩ := hcell 0 (by omega)
   simp only [Nat.zero_mul, Nat.add_zero] at q0 q1
   have hs : ∀ W, Calls Tryz.prog 28 #[.agg #[iv 1, iv 1, iv 1, iv 1, iv 0]] W fun e w' => ∃ ba bl bc, e = .returned (.slice ba bl bc) ∧ sliceOf w' ba bl bc (Stp.bytes ⟨0, 1, 1, 1, 1, 0⟩) ∧ Below W.heap.size W w' := fun W => by
    refine (framedI 1 1 1 1 0 W (by decide) (by decide) (by decide) (by decide) (by decide) (by decide)).mono ?_
    rintro e w' ⟨v, rfl, hown, hb⟩
    obtain ⟨g, cap, rfl, hs'⟩ := bytesAt_slice (bytesAt_of hown (by unfold frameB; simp)) (Stp.bytes_byte ⟨0, 1, 1, 1, 1, 0⟩ (by show (0 : Int) ≤ 1 ∧ (1 : Int) < 256; omega))
    exact ⟨_, _, _, rfl, hs', hb⟩
   refine sells_walk n0 n1 n2 n3 n4 n5 n6 _ _ b off len cap W hb (by omega) (by omega) q0 q1 (fun x W o => PSK W x o (sal0 ⟨n0, n1, n2, n3, n4, n5, n6, ts⟩)) (fun x W o => PSW W x o ((sal0 ⟨n0, n1, n2, n3, n4, n5, n6, ts⟩).sendK ⟨0, 1, 1, 1, 1, 0⟩).2) (fun x => keepPSK x _) (fun W ba bl bc => sliceOf W ba bl bc (Stp.bytes ⟨0, 1, 1, 1, 1, 0⟩)) (fun W' hW' => ?_) hs (fun x W' o ba bl bc hp hsl => ?_)
   ·refine (openW.yes (ht.below (hW.trans (hW'.mono hW.size)) (Nat.le_refl _)) hc).mono ?_
    rintro e w' ⟨x, own, rfl, p1, p2, p3⟩
    exact ⟨x, own, rfl, ⟨p1, hJ, hI⟩, p2, p3⟩
   ·have := sendK_any ⟨0, 1, 1, 1, 1, 0⟩ hp.ps hJ hsl
    rw [sells_pure hc] at this
    exact this
end
end
section
section
variable {w : World} {x : Nat} {own : Nat → Prop} {S : Sal}
theorem clock_k (h : PSK w x own S) : Calls Tryz.prog 23 #[pt x 0] w fun e w' => e = .returned (iv S.now) ∧ ansP (psk' x S) w w' own := by
 refine (tickW.clock h.ps h.J).mono ?_
 rintro e w' ⟨rfl, hq⟩
 exact ⟨rfl, ansP_mono (P := fun W o => PSW W x o S) hq (fun W o hp => ⟨hp, h.J, h.I⟩)⟩
theorem books_k (h : PSK w x own S) : Calls Tryz.prog 22 #[pt x 0] w fun e w' => e = .returned (.agg #[iv S.free, iv (unitsS S.os 13 0), iv (unitsS S.os 14 0), iv (queueS S.os).length, iv S.answers]) ∧ ansP (psk' x S) w w' own := by
 refine (bookW.books h.ps h.J).mono ?_
 rintro e w' ⟨rfl, hq⟩
 exact ⟨rfl, ansP_mono (P := fun W o => PSW W x o S) hq (fun W o hp => ⟨hp, h.J, h.I⟩)⟩
theorem account_k (h : PSK w x own S) (c : Int) : Calls Tryz.prog 24 #[pt x 0, iv c] w fun e w' => e = .returned (.tuple #[.agg #[iv (S.acc c).1, iv (S.acc c).2.1, iv (S.acc c).2.2.1], iv (S.acc c).2.2.2]) ∧ ansP (psk' x S) w w' own := by
 refine (bookW.account c h.ps h.J).mono ?_
 rintro e w' ⟨rfl, hq⟩
 exact ⟨rfl, ansP_mono (P := fun W o => PSW W x o S) hq (fun W o hp => ⟨hp, h.J, h.I⟩)⟩
end
def runS (S0 : Sal) (ps : List Stp) : Nat → Sal
 | 0 => S0
 | j + 1 => ((runS S0 ps j).does (ps.getD j stp0)).2
def twoS (a b : Nat) (S T : Sal) (W : World) (o : Nat → Prop) : Prop := both (psk' a S) (psk' b T) W o
theorem keepTwo (a b : Nat) (S T : Sal) : Keeps (twoS a b S T) := keep2 (keepPSK a S) (keepPSK b T)
section
variable {a b : Nat} {S T S' T' : Sal} {f : FuncId} {args : Array Value} {v : Value}
theorem onA (h : ∀ W o, psk' a S W o → Calls Tryz.prog f args W fun e w' => e = .returned v ∧ ansP (psk' a S') W w' o) (W : World) (o : Nat → Prop) (hp : twoS a b S T W o) : Calls Tryz.prog f args W fun e w' => e = .returned v ∧ ansP (twoS a b S' T) W w' o := both_left (keepPSK b T) h W o hp
theorem onB (h : ∀ W o, psk' b T W o → Calls Tryz.prog f args W fun e w' => e = .returned v ∧ ansP (psk' b T') W w' o) (W : World) (o : Nat → Prop) (hp : twoS a b S T W o) : Calls Tryz.prog f args W fun e w' => e = .returned v ∧ ansP (twoS a b S T') W w' o := both_right (keepPSK a S) h W o hp
end
theorem alike_k {a b n : Nat} {S : Sal} {v0 v1 v2 v3 v4 v5 v6 v7 : Value} {sa : Option Addr} {sc : Nat} {ps : List Stp} {W : World} {o : Nat → Prop} (h : twoS a b S S W o) (hn : n ≤ 4611686018427387904) (hps : stepsAt W sa n ps) (hfine : ∀ p ∈ ps, p.fine) (hdis : ∀ c off, sa = some (aq c off) → ps ≠ [] → ¬ o c) :
 Calls Tryz.prog 14 #[.agg #[v0, v1, v2, v3, v4, v5, v6, v7, .slice sa n sc], pt a 0, pt b 0] W fun e w' => e = .returned (.bool true) ∧ ansP (twoS a b S S) W w' o := by
 have K := keepTwo a b S S
 have hw := K.lt h
 have hlen := hps.1
 have hin : ∀ i, i < n → inI (ps.getD i stp0).c ∧ inI ((i : Int) + 1) := fun i hi => by
  have hm : ps.getD i stp0 ∈ ps := by
   have hi' : i < ps.length := by omega
   simp [List.getD, List.getElem?_eq_getElem hi']
  exact ⟨(hfine _ hm).2.2.2.1, by constructor <;> omega⟩
 exact alike_walk a b n v0 v1 v2 v3 v4 v5 v6 v7 sa sc ps W o (twoS a b S S) K h _ _ _ _ _ S.now hn hps hdis S.acc S.pollK (fun loc W hT => seenL_call hw (onA (fun W o hp => books_k hp)) W hT) (fun loc W hT => seenL_call hw (onB (fun W o hp => books_k hp)) W hT) (fun loc W hT => seenL_call hw (onA (fun W o hp => clock_k hp)) W hT) (fun loc W hT => seenL_call hw (onB (fun W o hp => clock_k hp)) W hT) (fun c loc W hT => seenL_call hw (onA (fun W o hp => account_k hp c)) W hT) (fun c loc W hT => seenL_call hw (onB (fun W o hp => account_k hp c)) W hT) (fun i hi loc W hT => seenL_call hw (onA (fun W o hp => poll_any hp _ _ (hin i hi).1 (hin i hi).2)) W hT) (fun i hi loc W hT => seenL_call hw (onB (fun W o hp => poll_any hp _ _ (hin i hi).1 (hin i hi).2)) W hT)
end
def Rep.vals (r : Rep) : List Value := [iv r.kind, iv r.order, iv r.cents, iv r.upto]
def flatR (rl : List Rep) : List Value := rl.flatMap Rep.vals
theorem flatR_at : ∀ {rl : List Rep} {i : Nat}, i < rl.length → ∀ j, j < 4 → (flatR rl)[i * 4 + j]? = (rl.getD i rep0).vals[j]?
 | [], _, h, _, _ => by simp at h
 | o :: os, 0, _, j, hj => by
   simp only [flatR, List.flatMap_cons, Nat.zero_mul, Nat.zero_add]
   rw [List.getElem?_append_left (by simpa [Rep.vals] using hj)]
   rfl
 | o :: os, i + 1, h, j, hj => by
   have ih := flatR_at (rl := os) (i := i) (by simpa using h) j hj
   simp only [flatR, List.flatMap_cons] at ih ⊢
   rw [List.getElem?_append_right (by simp [Rep.vals]; omega)]
   have e : (i + 1) * 4 + j - o.vals.length = i * 4 + j := by simp [Rep.vals]; omega
   rw [e, ih]
   simp [List.getD]
def repsAt (W : World) (a : Option Addr) (n : Nat) (rl : List Rep) : Prop := rl.length = n ∧ ∀ i, i < n → ∃ g, a = some (aq g 0) ∧ g < W.heap.size ∧ W.cell? (aq g (i * 4)) = some (iv (rl.getD i rep0).kind) ∧ W.cell? (aq g (i * 4 + 1)) = some (iv (rl.getD i rep0).order) ∧ W.cell? (aq g (i * 4 + 2)) = some (iv (rl.getD i rep0).cents) ∧ W.cell? (aq g (i * 4 + 3)) = some (iv (rl.getD i rep0).upto)
theorem reps_of {W : World} {B : Nat} {v : Value} {rl : List Rep} (h : W.ownsRow B 33 4 v rl.length (flatR rl)) : ∃ a c, v = .slice a rl.length c ∧ repsAt W a rl.length rl := by
 rcases h.2 with ⟨hv, h0⟩ | ⟨b, cap, cur, hv, hB, hh, _⟩
 ·exact ⟨none, 0, by rw [hv, h0], rfl, fun i hi => by omega⟩
 ·refine ⟨some (aq b 0), cap, hv, rfl, fun i hi => ?_⟩
  rw [hv] at h
  have c : ∀ k, k < 4 → ∀ u, (rl.getD i rep0).vals[k]? = some u → W.cell? (aq b (i * 4 + k)) = some u := fun k hk u hu => by
   have := h.cells (g := b) rfl _ _ ((flatR_at hi k hk).trans hu)
   rwa [Addr.add_lit, Nat.zero_add] at this
  exact ⟨b, rfl, (blt hh), c 0 (by omega) _ rfl, c 1 (by omega) _ rfl, c 2 (by omega) _ rfl, c 3 (by omega) _ rfl⟩
theorem sameReplies_k (a b : Option Addr) (n ca cb : Nat) (rl : List Rep) (w : World) (hn : n ≤ 4611686018427387904) (ha : Hid (repsAt w a n rl)) (hb : Hid (repsAt w b n rl)) :
 Calls Tryz.prog 13 #[.slice a n ca, .slice b n cb] w fun e w' => e = .returned (.bool true) ∧ Below w.heap.size w w' := by
 go_enter Tryz.func13, Tryz.ntmps13
 go_wp2_with fail
 go_loopw [5] (fun i wr => ∃ j : Nat, j ≤ n ∧ i = iv j ∧ Hid (wr.heap = w.heap) ∧ Hid (Below w.heap.size w wr)) (fun i _ => n - (intOf i).toNat)
 case atStart => exact ⟨0, Nat.zero_le _, rfl, rfl, Below.refl _ _⟩
 case round =>
  obtain ⟨j, hj, rfl, hh, hB⟩ := hrel
  by_cases hlt : j < n
  ·obtain ⟨g, rfl, hg, a0, a1, a2, a3⟩ := ha.out.2 j hlt
   obtain ⟨g', rfl, hg', b0, b1, b2, b3⟩ := hb.out.2 j hlt
   have HC : ∀ (g i : Nat), wr.cell? (aq g i) = w.cell? (aq g i) := fun g i => World.cell?_of_block (a := (aq g i)) (by rw [hh.out])
   have hsz : wr.heap.size = w.heap.size := by rw [hh.out]
   rw [← HC] at a0 a1 a2 a3 b0 b1 b2 b3
   rw [← hsz] at hg hg'
   have bj0 : (0 : Int) ≤ (j : Int) := by omega
   have bj1 : (j : Int) < (n : Int) := by omega
   have hwj : IntKind.i64.wrap ((j : Int) + 1) = (j : Int) + 1 := wrap_in (by omega) (by omega)
   have HNX : Hid (∀ wr', wr'.heap = w.heap → Below w.heap.size w wr' → ∃ j' : Nat, j' ≤ n ∧ Value.int .i64 ((j : Int) + 1) = iv j' ∧ Hid (wr'.heap = w.heap) ∧ Hid (Below w.heap.size w wr')) := fun wr' e1 e2 => ⟨j + 1, by omega, by simp, e1, e2⟩
   generalize rl.getD j rep0 = rj at a0 a1 a2 a3 b0 b1 b2 b3
   obtain ⟨r1, r2, r3, r4⟩ := rj
   simp only at a0 a1 a2 a3 b0 b1 b2 b3
   clear ha hb HC
   go_wp2_with fail
   try go_quiet (fail)
   try go_wp2_with fail
   go_roundw
   case rel => first | exact HNX.out _ hh.out bL | (rw [hwj]; exact HNX.out _ hh.out bL)
   case measure => simp [intOf]; omega
  ·have hje : j = n := by omega
   subst hje
   go_wp2
   refine bodyPost_ret (v := .bool true) (by simp [results, Tryz.results13, go_sem]) rfl ⟨rfl, bL⟩
theorem four_new {w : World} {T : TypeId} {a b c d : Value} : ∀ j u, ([a, b, c, d] : List Value)[j]? = some u → (w.alloc (.cells #[a, b, c, d] T)).cell? (((aq w.heap.size 0) : Addr).add j) = some u := by
 intro j u hu
 rw [Addr.add_lit, Nat.zero_add, Joins.cell_of_block (heap_alloc_new w _)]
 simpa using hu
theorem Tryz.infoRep : (Tryz.prog.info? 33).map (fun i => (i.zero, i.size, i.bytes)) = some (some (.agg #[iv 0, iv 0, iv 0, iv 0]), 4, 32) := by kernel_rfl
theorem seenL_grown {P : World → (Nat → Prop) → Prop} {w U W' : World} {own loc : Nat → Prop} {row : Option Nat} (K : Keeps P) (hw : ∀ k, own k → k < w.heap.size) (h : seenL P w own loc U) (hg : U.grownBy W' row) (hr : ∀ k, row = some k → loc k) : seenL P w own (fun k => loc k ∨ (U.heap.size ≤ k ∧ k < W'.heap.size)) W' := by
 obtain ⟨o1, a1, a2, a3, a4⟩ := h
 have hz := hg.size
 have hz2 := a2.size
 have hno : ∀ k, row = some k → ¬ o1 k ∧ w.heap.size ≤ k := fun k e => ⟨fun c => by
  rcases a3 k c with d | d
  ·have := (a4 k (hr k e)).1
   have := hw k d
   omega
  ·exact d.2 (hr k e), (a4 k (hr k e)).1⟩
 refine ⟨o1, K.keep a1 hz (fun k e => hg.block k (K.lt a1 k e) (fun c => (hno k c.symm).1 e)), ⟨hg.os.trans a2.os, hg.tape.trans a2.tape, hg.output.trans a2.output, by omega, fun k hk hn => (hg.block k (by omega) (fun c => by have := (hno k c.symm).2; omega)).trans (a2.block k hk hn)⟩, fun k e => (a3 k e).imp id (fun c => ⟨c.1, fun d => d.elim c.2 (fun d => by have := K.lt a1 k e; omega)⟩), fun k e => ?_⟩
 rcases e with e | e
 ·exact ⟨(a4 k e).1, by have := (a4 k e).2; omega⟩
 ·exact ⟨by omega, e.2⟩
theorem seenL_sub {P : World → (Nat → Prop) → Prop} {w U : World} {own loc loc' : Nat → Prop} (h : seenL P w own loc U) (hl : ∀ k, loc' k → loc k) : seenL P w own loc' U := by
 obtain ⟨o1, a1, a2, a3, a4⟩ := h
 exact ⟨o1, a1, a2, fun k e => (a3 k e).imp id (fun c => ⟨c.1, fun d => c.2 (hl k d)⟩), fun k e => a4 k (hl k e)⟩
def copiedAt (ic : Int) (jn : Nat) (crep : Rep) (j : Nat) : Rep := if 0 ≤ ic ∧ jn < j then crep else rep0
def locR (w : World) (lv : Value) (k : Nat) : Prop := ((k = w.heap.size ∨ k = w.heap.size + 1) ∨ k = w.heap.size + 2) ∨ lv.ownBlock = some k
def repI (P : Nat → World → (Nat → Prop) → Prop) (w : World) (own : Nat → Prop) (XO : Obj) (rep : Nat → Rep) (cv : Nat → Rep) (j : Nat) (lv : Value) (wr : World) : Prop :=
 seenL (P j) w own (locR w lv) wr ∧ wr.ownsRow (w.heap.size + 3) 33 4 lv j (flatR ((List.range j).map rep)) ∧ wr.heap[w.heap.size]? = some XO ∧ wr.heap[w.heap.size + 1]? = some (.cells #[iv 0, iv 0, iv 0, iv 0] 33 (0, 0)) ∧ wr.heap[w.heap.size + 2]? = some (.cells #[iv (cv j).kind, iv (cv j).order, iv (cv j).cents, iv (cv j).upto] 33 (0, 0))
theorem replies_walk (x n jn : Nat) (ic : Int) (jc : Int) (v0 v1 v2 v3 v4 v5 v6 v7 : Value) (sa : Option Addr) (sc : Nat) (ps : List Stp) (w : World) (own : Nat → Prop) (P : Nat → World → (Nat → Prop) → Prop) (K : ∀ j, Keeps (P j)) (h : P 0 w own) (rep : Nat → Rep) (crep cv : Rep) (hcv : Hid (cv = if 0 ≤ ic then crep else rep0)) (hn : n * 48 ≤ 140737488351232) (hps : stepsAt w sa n ps) (hdis : ∀ b off, sa = some (aq b off) → ps ≠ [] → ¬ own b)
 (hcase : (ic < 0) ∨ (0 ≤ ic ∧ ic.toNat < n ∧ jc = jn ∧ jn < n))
 (HD : Hid (∀ j, j < n → ∀ W o, P j W o → Calls Tryz.prog 15 #[pt x 0, .agg #[iv (ps.getD j stp0).n, iv (ps.getD j stp0).k, iv (ps.getD j stp0).t, iv (ps.getD j stp0).c, iv (ps.getD j stp0).u, iv (ps.getD j stp0).o]] W fun e w' => e = .returned (.tuple #[.agg #[iv (rep j).kind, iv (rep j).order, iv (rep j).cents, iv (rep j).upto], .bool true]) ∧ ansP (P (j + 1)) W w' o))
 (HDc : Hid (0 ≤ ic → ∀ W o, P (jn + 1) W o → Calls Tryz.prog 15 #[pt x 0, .agg #[iv (ps.getD ic.toNat stp0).n, iv (ps.getD ic.toNat stp0).k, iv (ps.getD ic.toNat stp0).t, iv (ps.getD ic.toNat stp0).c, iv (ps.getD ic.toNat stp0).u, iv (ps.getD ic.toNat stp0).o]] W fun e w' => e = .returned (.tuple #[.agg #[iv crep.kind, iv crep.order, iv crep.cents, iv crep.upto], .bool true]) ∧ ansP (P (jn + 1)) W w' o)) :
 Calls Tryz.prog 8 #[.agg #[v0, v1, v2, v3, v4, v5, v6, v7, .slice sa n sc], pt x 0, iv ic, iv jc] w fun e w' => ∃ lv, e = .returned (.tuple #[lv, .agg #[iv cv.kind, iv cv.order, iv cv.cents, iv cv.upto], .bool true]) ∧ w'.ownsRow w.heap.size 33 4 lv n (flatR ((List.range n).map rep)) ∧ ∃ own', P n w' own' ∧ Same own w w' ∧ (∀ k, own' k → own k ∨ w.heap.size ≤ k) ∧ (∀ k, lv.ownBlock = some k → ¬ own' k) := by
 obtain ⟨u1, u2, u3, u4⟩ := cv
 simp only at hcv ⊢
 obtain ⟨i0, hi, hz0, hz1, hz2⟩ := info_parts Tryz.infoRep
 have HW : Hid (∀ k, own k → k < w.heap.size) := (K 0).lt h
 have hlen : ps.length = n := hps.1
 have HS : Hid (∀ W, Same own w W → stepsAt W sa n ps) := fun W hs => ⟨hps.1, fun hne => by
  obtain ⟨b, off, e, hb, hc⟩ := hps.2 hne
  exact ⟨b, off, e, Nat.lt_of_lt_of_le hb hs.size, fun i hi => stpAt_keep (hc i hi) (hs.block b hb (hdis b off e hne))⟩⟩
 have HT0 : Hid (repI P w own (.cells #[v0, v1, v2, v3, v4, v5, v6, v7, .slice sa n sc] 27 (0, 0)) rep (copiedAt ic jn crep) 0 (.slice none 0 0) (((w.alloc (.cells #[v0, v1, v2, v3, v4, v5, v6, v7, .slice sa n sc] 27)).alloc (.cells #[iv 0, iv 0, iv 0, iv 0] 33)).alloc (.cells #[iv 0, iv 0, iv 0, iv 0] 33))) := by
  refine ⟨seenL_start (K 0) h ((((Below.refl _ _).alloc (Nat.le_refl _) _).alloc (by simp) _).alloc (by simp; omega) _) (fun k e => ?_), World.ownsRow_nil _ _ _ _, ?_, ?_, ?_⟩
  ·rcases e with ((rfl | rfl) | rfl) | e
   ·first | (simp; done) | (simp; omega)
   ·first | (simp; done) | (simp; omega)
   ·first | (simp; done) | (simp; omega)
   ·simp [Value.ownBlock] at e
  ·exact (Below.heap_alloc _ _ _ (by simp; omega)).trans ((Below.heap_alloc _ _ _ (by simp)).trans (heap_alloc_new w _))
  ·exact (Below.heap_alloc _ _ _ (by simp)).trans (alloc_two w _ _)
  ·have h := heap_alloc_new ((w.alloc (.cells #[v0, v1, v2, v3, v4, v5, v6, v7, .slice sa n sc] 27)).alloc (.cells #[iv 0, iv 0, iv 0, iv 0] 33)) (.cells #[iv 0, iv 0, iv 0, iv 0] 33)
   rw [show ((w.alloc (.cells #[v0, v1, v2, v3, v4, v5, v6, v7, .slice sa n sc] 27)).alloc (.cells #[iv 0, iv 0, iv 0, iv 0] 33)).heap.size = w.heap.size + 2 by simp] at h
   unfold copiedAt
   rw [if_neg (by omega)]
   exact h
 clear h hps hdis
 go_enter Tryz.func8, Tryz.ntmps8
 go_wp2_with fail
 generalize ((w.alloc (.cells #[v0, v1, v2, v3, v4, v5, v6, v7, .slice sa n sc] 27)).alloc (.cells #[iv 0, iv 0, iv 0, iv 0] 33)).alloc (.cells #[iv 0, iv 0, iv 0, iv 0] 33) = W0 at HT0 ⊢
 go_loopw [11, 13] (fun lv kv wr => ∃ j : Nat, j ≤ n ∧ kv = iv j ∧ Hid (repI P w own (.cells #[v0, v1, v2, v3, v4, v5, v6, v7, .slice sa n sc] 27 (0, 0)) rep (copiedAt ic jn crep) j lv wr)) (fun _ kv _ => n - (intOf kv).toNat)
 case atStart => exact ⟨0, Nat.zero_le _, rfl, HT0⟩
 case round =>
  obtain ⟨j, hj, rfl, HI⟩ := hrel
  clear HT0
  obtain ⟨q1, q2, q3, q4, q5⟩ := HI.out
  obtain ⟨la, lc, rfl⟩ := own_slice q2
  obtain ⟨k0, k1, k2, k3, k4, k5, k6, k7, k8⟩ := nineK q3
  have lx : w.heap.size < wr.heap.size := (blt q3)
  by_cases hlt : j < n
  ·obtain ⟨b, off, hsa, hb, s0, s1, s2, s3, s4, s5⟩ := steps_at (HS.out wr (seenL_same q1)) hlt
   have HDj : Hid _ := seenL_call (loc := locR w (.slice la j lc)) HW.out (HD.out j hlt)
   have bj0 : (0 : Int) ≤ (j : Int) := by omega
   have bj1 : (j : Int) < (n : Int) := by omega
   have hwj : IntKind.i64.wrap ((j : Int) + 1) = (j : Int) + 1 := wrap_in (by omega) (by omega)
   have HTAKE : Hid (flatR ((List.range (j + 1)).map rep) = flatR ((List.range j).map rep) ++ [iv (rep j).kind, iv (rep j).order, iv (rep j).cents, iv (rep j).upto]) := by
    unfold Hid flatR
    rw [List.range_succ, List.map_append, List.flatMap_append]
    simp [Rep.vals]
   have HNX : Hid (∀ lv' wr', repI P w own (.cells #[v0, v1, v2, v3, v4, v5, v6, v7, .slice sa n sc] 27 (0, 0)) rep (copiedAt ic jn crep) (j + 1) lv' wr' → ∃ j' : Nat, j' ≤ n ∧ Value.int .i64 ((j : Int) + 1) = iv j' ∧ Hid (repI P w own (.cells #[v0, v1, v2, v3, v4, v5, v6, v7, .slice sa n sc] 27 (0, 0)) rep (copiedAt ic jn crep) j' lv' wr')) := fun lv' wr' h => ⟨j + 1, by omega, by simp, h⟩
   have KJ := K j
   have KJ1 := K (j + 1)
   generalize ps.getD j stp0 = pj at s0 s1 s2 s3 s4 s5 HDj
   obtain ⟨pn, pk, pt, pc, pu, po⟩ := pj
   generalize hrj : rep j = rj at HDj HTAKE
   obtain ⟨r1, r2, r3, r4⟩ := rj
   simp only at s0 s1 s2 s3 s4 s5 HDj HTAKE
   replace q1 : Hid _ := q1
   replace q2 : Hid _ := q2
   replace q4 : Hid _ := q4
   replace q5 : Hid _ := q5
   replace q3 : Hid _ := q3
   clear HI
   subst hsa
   go_wp2_with fail
   refine (HDj.out _ (seenL_below KJ q1.out bL)).mono ?_
   rintro e V1 ⟨rfl, hV1, hk⟩
   clear k0 k1 k2 k3 k4 k5 k6 k7 k8 lx hb s0 s1 s2 s3 s4 s5
   have HO1 : V1.ownsRow (w.heap.size + 3) 33 4 (.slice la j lc) j (flatR ((List.range j).map rep)) := owns_keep q2.out (fun k e => hk k (.inr e))
   have x1 : Hid _ := (hk w.heap.size (.inl (.inl (.inl rfl)))).trans q3.out
   have y1 : Hid _ := (hk (w.heap.size + 1) (.inl (.inl (.inr rfl)))).trans q4.out
   have c1 : Hid _ := (hk (w.heap.size + 2) (.inl (.inr rfl))).trans q5.out
   obtain ⟨k0, k1, k2, k3, k4, k5, k6, k7, k8⟩ := nineK x1.out
   have lx : w.heap.size < V1.heap.size := (blt x1.out)
   have lc1 : w.heap.size + 2 < V1.heap.size := (blt c1.out)
   replace hV1 : Hid _ := hV1
   clear hk q1 q2 q3 q4 q5 HDj
   go_wp2_with (at_builtin; refine wpList_append_own_at _ rfl _ _ 31 rfl (w.heap.size + 3) 33 i0 (.agg #[iv 0, iv 0, iv 0, iv 0]) 4 32 Tryz.underlying31 hi hz0 hz1 hz2 rfl (by decide) _ _ _ rfl ((HO1.alloc _).alloc _) (aq (V1.heap.size + 1) 0) 1 1 [iv r1, iv r2, iv r3, iv r4] rfl rfl ?c1 ?c2 ?c3 ?c4 ?c5 ?_)
   case c1 =>
    intro i u hu
    have h := four_new (w := V1.alloc (.cells #[iv r1, iv r2, iv r3, iv r4] 33)) (T := 33) (a := iv r1) (b := iv r2) (c := iv r3) (d := iv r4) i u hu
    rwa [show (V1.alloc (.cells #[iv r1, iv r2, iv r3, iv r4] 33)).heap.size = V1.heap.size + 1 by simp] at h
   case c2 => intro u hu; simp at hu; rcases hu with rfl | rfl | rfl | rfl <;> rfl
   case c3 => unfold maxLen; omega
   case c4 => omega
   case c5 => simp; omega
   intro lv' w3 hown3 hgrow _ hat
   have hU : seenL (P (j + 1)) w own (locR w (.slice la j lc)) ((V1.alloc (.cells #[iv r1, iv r2, iv r3, iv r4] 33)).alloc (.cells #[iv r1, iv r2, iv r3, iv r4] 33)) := seenL_below KJ1 hV1.out (((Below.refl _ _).alloc (Nat.le_refl _) _).alloc (by simp) _)
   have hG0 := seenL_grown KJ1 HW.out hU hgrow (fun k e => .inr e)
   have hG : Hid (seenL (P (j + 1)) w own (locR w lv') w3) := seenL_sub hG0 (fun k e => by
    rcases e with e | e
    ·exact .inl (.inl e)
    ·have hlt3 := (World.ownsRow.lt hown3 k e).2
     rcases hat with h | h
     ·exact .inl (.inr (h ▸ e))
     ·rw [h] at e
      simp only [Option.some.injEq] at e
      exact .inr ⟨by simp; omega, hlt3⟩)
   have hrow : ∀ k, Value.ownBlock (.slice la j lc) = some k → w.heap.size + 3 ≤ k := fun k e => (World.ownsRow.lt HO1 k e).1
   have x3 : Hid (w3.heap[w.heap.size]? = _) := (hgrow.block _ (by simp; omega) (fun e => by have := hrow _ e.symm; omega)).trans ((Below.heap_alloc _ _ _ (by simp; omega)).trans ((Below.heap_alloc _ _ _ lx).trans x1.out))
   have y3 : Hid (w3.heap[w.heap.size + 1]? = _) := (hgrow.block _ (by simp; omega) (fun e => by have := hrow _ e.symm; omega)).trans ((Below.heap_alloc _ _ _ (by simp; omega)).trans ((Below.heap_alloc _ _ _ (by omega)).trans y1.out))
   have c3 : Hid (w3.heap[w.heap.size + 2]? = _) := (hgrow.block _ (by simp; omega) (fun e => by have := hrow _ e.symm; omega)).trans ((Below.heap_alloc _ _ _ (by simp; omega)).trans ((Below.heap_alloc _ _ _ lc1).trans c1.out))
   obtain ⟨la', lc', rfl⟩ := own_slice hown3
   have hO3 : Hid (w3.ownsRow (w.heap.size + 3) 33 4 (.slice la' (j + 1) lc') (j + 1) (flatR ((List.range (j + 1)).map rep))) := by
    rw [HTAKE.out]; exact hown3
   clear k0 k1 k2 k3 k4 k5 k6 k7 k8 lx lc1 hat hU hG0 hrow hown3 hgrow HO1 x1 y1 c1 hV1
   obtain ⟨k0, k1, k2, k3, k4, k5, k6, k7, k8⟩ := nineK x3.out
   have lx : w.heap.size < w3.heap.size := (blt x3.out)
   by_cases hcp : 0 ≤ ic ∧ j = jn
   ·obtain ⟨h0, hjn⟩ := hcp
    obtain ⟨_, hm, rfl, _⟩ := hcase.resolve_left (by omega)
    subst hjn
    have HDcs : Hid _ := seenL_call (P := P (j + 1)) (P' := P (j + 1)) (loc := locR w (.slice la' (j + 1) lc')) HW.out (HDc.out h0)
    obtain ⟨m, rfl⟩ := Int.eq_ofNat_of_zero_le h0
    rw [Int.toNat_natCast] at hm
    simp only [Int.toNat_natCast] at HDcs
    obtain ⟨b', off', e', hb, s0, s1, s2, s3, s4, s5⟩ := steps_at (HS.out w3 (seenL_same hG.out)) hm
    simp only [Option.some.injEq, Addr.mk.injEq] at e'
    obtain ⟨rfl, rfl, _⟩ := e'
    have bm0 : (0 : Int) ≤ (m : Int) := by omega
    have bm1 : (m : Int) < (n : Int) := by omega
    have HCP : Hid (∀ wr', repI P w own (.cells #[v0, v1, v2, v3, v4, v5, v6, v7, .slice (some (aq b off)) n sc] 27 (0, 0)) rep (fun _ => crep) (j + 1) (.slice la' (j + 1) lc') wr' → repI P w own (.cells #[v0, v1, v2, v3, v4, v5, v6, v7, .slice (some (aq b off)) n sc] 27 (0, 0)) rep (copiedAt (m : Int) j crep) (j + 1) (.slice la' (j + 1) lc') wr') := fun wr' h => by
     have e : copiedAt (m : Int) j crep (j + 1) = crep := by unfold copiedAt; rw [if_pos ⟨by omega, by omega⟩]
     unfold repI at h ⊢
     rw [e]; exact h
    generalize ps.getD m stp0 = pm at s0 s1 s2 s3 s4 s5 HDcs
    obtain ⟨pn', pk', pt', pc', pu', po'⟩ := pm
    obtain ⟨r1', r2', r3', r4'⟩ := crep
    simp only at s0 s1 s2 s3 s4 s5 HDcs
    clear HS HD HDc HTAKE
    go_wp2_with fail
    refine (HDcs.out _ (seenL_below KJ1 hG.out bL)).mono ?_
    rintro e V4 ⟨rfl, hV4, hk⟩
    have x4 : Hid _ := (hk w.heap.size (.inl (.inl (.inl rfl)))).trans x3.out
    have y4 : Hid _ := (hk (w.heap.size + 1) (.inl (.inl (.inr rfl)))).trans y3.out
    have c4 : Hid _ := (hk (w.heap.size + 2) (.inl (.inr rfl))).trans c3.out
    have hO4 := owns_keep hO3.out (fun k e => hk k (.inr e))
    have hrow4 : ∀ k, Value.ownBlock (.slice la' (j + 1) lc') = some k → w.heap.size + 3 ≤ k := fun k e => (World.ownsRow.lt hO4 k e).1
    have HFIN : Hid (repI P w own (.cells #[v0, v1, v2, v3, v4, v5, v6, v7, .slice (some (aq b off)) n sc] 27 (0, 0)) rep (fun _ => ⟨r1', r2', r3', r4'⟩) (j + 1) (.slice la' (j + 1) lc') ((((V4.setCell (aq (w.heap.size + 2) 0) (iv r1')).setCell (aq (w.heap.size + 2) 1) (iv r2')).setCell (aq (w.heap.size + 2) 2) (iv r3')).setCell (aq (w.heap.size + 2) 3) (iv r4'))) := by
     have kk : ∀ k, k ≠ w.heap.size + 2 → ((((V4.setCell (aq (w.heap.size + 2) 0) (iv r1')).setCell (aq (w.heap.size + 2) 1) (iv r2')).setCell (aq (w.heap.size + 2) 2) (iv r3')).setCell (aq (w.heap.size + 2) 3) (iv r4')).heap[k]? = V4.heap[k]? := fun k e => by
      rw [Below.heap_setCell _ (aq (w.heap.size + 2) 3) _ _ e, Below.heap_setCell _ (aq (w.heap.size + 2) 2) _ _ e, Below.heap_setCell _ (aq (w.heap.size + 2) 1) _ _ e, Below.heap_setCell _ (aq (w.heap.size + 2) 0) _ _ e]
     refine ⟨seenL_set4 KJ1 hV4 HW.out (.inl (.inr rfl)) _ _ _ _, owns_keep hO4 (fun k e => kk k (by have := hrow4 k e; omega)), (kk _ (by omega)).trans x4.out, (kk _ (by omega)).trans y4.out, ?_⟩
     exact Joins.block_setCell (i := 3) (Joins.block_setCell (i := 2) (Joins.block_setCell (i := 1) (Joins.block_setCell (i := 0) c4.out _) _) _) _
    have f0 := row_free c4.out 0
    have f1 := row_free c4.out 1
    have f2 := row_free c4.out 2
    have f3 := row_free c4.out 3
    obtain ⟨z0, z1, z2, z3⟩ := fourK c4.out
    have lc4 : w.heap.size + 2 < V4.heap.size := (blt c4.out)
    clear hk hV4 hO4 hrow4 x4 y4 hG hO3 x3 y3 c3 HDcs k0 k1 k2 k3 k4 k5 k6 k7 k8 lx hb s0 s1 s2 s3 s4 s5
    go_wp2_with fail
    go_roundw
    case rel => first | exact HNX.out _ _ (HCP.out _ HFIN.out) | (rw [hwj]; exact HNX.out _ _ (HCP.out _ HFIN.out))
    case measure => simp [intOf]; omega
   ·have HFIN : Hid (repI P w own (.cells #[v0, v1, v2, v3, v4, v5, v6, v7, .slice (some (aq b off)) n sc] 27 (0, 0)) rep (copiedAt ic jn crep) (j + 1) (.slice la' (j + 1) lc') w3) := by
     have e : copiedAt ic jn crep (j + 1) = copiedAt ic jn crep j := by
      unfold copiedAt
      by_cases h : 0 ≤ ic ∧ jn < j
      ·rw [if_pos ⟨h.1, by omega⟩, if_pos h]
      ·rw [if_neg (fun c => h ⟨c.1, by
            have : j ≠ jn := fun e => hcp ⟨c.1, e⟩
            omega⟩), if_neg h]
     refine ⟨hG.out, hO3.out, x3.out, y3.out, ?_⟩
     rw [e]; exact c3.out
    have hneg : (ic < 0) ∨ (0 ≤ ic ∧ ((j : Int) == jc) = false) := by
     rcases hcase with h | ⟨h0, _, h2, _⟩
     ·exact .inl h
     ·refine .inr ⟨h0, ?_⟩
      have : j ≠ jn := fun e => hcp ⟨h0, e⟩
      simp; omega
    clear HS HD HDc HTAKE hG hO3 x3 y3 c3 hcase hcp
    rcases hneg with h0 | ⟨h0, h1⟩
    ·have h0' : ¬ 0 ≤ ic := by omega
     go_wp2_with fail
     go_roundw
     case rel => first | exact HNX.out _ _ HFIN.out | (rw [hwj]; exact HNX.out _ _ HFIN.out)
     case measure => simp [intOf]; omega
    ·go_wp2_with fail
     go_roundw
     case rel => first | exact HNX.out _ _ HFIN.out | (rw [hwj]; exact HNX.out _ _ HFIN.out)
     case measure => simp [intOf]; omega
  ·have hje : j = n := by omega
   subst hje
   have ecv : copiedAt ic jn crep j = if 0 ≤ ic then crep else rep0 := by
    unfold copiedAt
    by_cases h : 0 ≤ ic
    ·rw [if_pos h, if_pos ⟨h, by rcases hcase with c | c <;> omega⟩]
    ·rw [if_neg h, if_neg (fun c => h c.1)]
   rw [ecv, ← hcv.out] at q5
   obtain ⟨z0, z1, z2, z3⟩ := fourK q4
   obtain ⟨c0, c1, c2, c3⟩ := fourK q5
   have f0 := row_free q4 0
   have f1 := row_free q4 1
   have f2 := row_free q4 2
   have f3 := row_free q4 3
   have ly : w.heap.size + 1 < wr.heap.size := (blt q4)
   have lz : w.heap.size + 2 < wr.heap.size := (blt q5)
   have hrow : ∀ k, Value.ownBlock (.slice la j lc) = some k → w.heap.size + 3 ≤ k := fun k e => (World.ownsRow.lt q2 k e).1
   have HE : Hid (∀ v0 v1 v2 v3 W', Below ((((wr.setCell (aq (w.heap.size + 1) 0) v0).setCell (aq (w.heap.size + 1) 1) v1).setCell (aq (w.heap.size + 1) 2) v2).setCell (aq (w.heap.size + 1) 3) v3).heap.size ((((wr.setCell (aq (w.heap.size + 1) 0) v0).setCell (aq (w.heap.size + 1) 1) v1).setCell (aq (w.heap.size + 1) 2) v2).setCell (aq (w.heap.size + 1) 3) v3) W' → (W'.ownsRow w.heap.size 33 4 (.slice la j lc) j (flatR ((List.range j).map rep))) ∧ ∃ own', P j W' own' ∧ Same own w W' ∧ (∀ k, own' k → own k ∨ w.heap.size ≤ k) ∧ (∀ k, Value.ownBlock (.slice la j lc) = some k → ¬ own' k)) := fun v0 v1 v2 v3 W' hW' => by
    have hsz : ((((wr.setCell (aq (w.heap.size + 1) 0) v0).setCell (aq (w.heap.size + 1) 1) v1).setCell (aq (w.heap.size + 1) 2) v2).setCell (aq (w.heap.size + 1) 3) v3).heap.size = wr.heap.size := by simp [World.setCell]
    have kk : ∀ k, k ≠ w.heap.size + 1 → k < wr.heap.size → W'.heap[k]? = wr.heap[k]? := fun k e hl => by
     rw [hW'.block k (by omega), Below.heap_setCell _ (aq (w.heap.size + 1) 3) _ _ e, Below.heap_setCell _ (aq (w.heap.size + 1) 2) _ _ e, Below.heap_setCell _ (aq (w.heap.size + 1) 1) _ _ e, Below.heap_setCell _ (aq (w.heap.size + 1) 0) _ _ e]
    obtain ⟨o1, a1, a2, a3, a4⟩ := seenL_below (K j) (seenL_set4 (K j) q1 HW.out (show locR w (.slice la j lc) (w.heap.size + 1) from .inl (.inl (.inr rfl))) v0 v1 v2 v3) hW'
    refine ⟨owns_base (owns_keep q2 (fun k e => kk k (by have := hrow k e; omega) (World.ownsRow.lt q2 k e).2)) (by omega), o1, a1, a2, fun k e => (a3 k e).imp id (fun c => c.1), fun k e c => ?_⟩
    rcases a3 k c with d | d
    ·have := HW.out k d
     have := hrow k e
     omega
    ·exact d.2 (.inr e)
   clear HS HD HDc HI q1 q2 q3 q4 q5 hrow ecv hcase
   go_wp2_with fail
   go_region
   go_wp2
   refine bodyPost_ret (v := .tuple #[.slice la j lc, .agg #[iv u1, iv u2, iv u3, iv u4], .bool true]) (by simp [results, Tryz.results8, go_sem, z0, z1, z2, z3]) rfl ?_
   refine ⟨_, rfl, ?_⟩
   exact HE.out _ _ _ _ _ bL
section
open Go.ChangeShapes Go.WideShapes Go.ChangeAt Go.RowKit
theorem pick_k (c : Int) (n : Nat) (w : World) (hb : -9223372036854775808 ≤ c ∧ c ≤ 9223372036854775807) (hn : 0 < n) (hn' : n < 9223372036854775808) :
 Calls Tryz.prog 9 #[iv c, iv n] w fun e w' => e = .returned (iv (pickN c n)) ∧ Below w.heap.size w w' := by
 obtain ⟨hb1, hb2⟩ := hb
 by_cases h0 : c < 0
 ·have hne : ((n : Int) == 0) = false := by simp; omega
  go_enter Tryz.func9, Tryz.ntmps9
  go_wp2
  go_ret
  refine ⟨ret_int ?_, Below.refl _ _⟩
  unfold pickN
  rw [if_pos h0]
  rw [← Int.neg_tmod]
  generalize hd : -(c + 1) = d
  obtain ⟨m, rfl⟩ := Int.eq_ofNat_of_zero_le (show 0 ≤ d by omega)
  rw [Int.toNat_natCast]
  exact Int.ofNat_tmod m n
 ·have hne : ((n : Int) == 0) = false := by simp; omega
  obtain ⟨m, rfl⟩ := Int.eq_ofNat_of_zero_le (show 0 ≤ c by omega)
  go_enter Tryz.func9, Tryz.ntmps9
  go_wp2
  go_ret
  refine ⟨ret_int ?_, Below.refl _ _⟩
  unfold pickN
  rw [if_neg (by omega), Int.toNat_natCast]
  first | exact Int.ofNat_tmod m n | exact (Int.natCast_emod m n).symm
end
end Go.Proofs.YtfhncfghblkgeabGreat
