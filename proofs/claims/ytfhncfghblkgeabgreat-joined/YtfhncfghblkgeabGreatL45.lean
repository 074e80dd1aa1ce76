import Derived.Test.YtfhncfghblkgeabGreatL44
set_option maxRecDepth 100000
set_option maxHeartbeats 2000000
namespace Go.Proofs.YtfhncfghblkgeabGreat
open Go.RowKit
section
theorem poll_walk (x : Nat) (c o pk po pc pu : Int) (w : World) (own : Nat → Prop) (P0 P1 : World → (Nat → Prop) → Prop) (K0 : Keeps P0) (K1 : Keeps P1) (h : P0 w own)
 (HD : Hid (∀ W o', P0 W o' → Calls Tryz.prog 15 #[pt x 0, .agg #[iv 0, iv 4, iv 0, iv c, iv 0, iv o]] W fun e w' => e = .returned (.tuple #[.agg #[iv pk, iv po, iv pc, iv pu], .bool true]) ∧ ansP P1 W w' o')) :
 Calls Tryz.prog 25 #[pt x 0, iv c, iv o] w fun e w' => e = .returned (.tuple #[.agg #[iv pk, iv po, iv pc, iv pu], .bool true]) ∧ ansP P1 w w' own := by
 have HW : Hid (∀ k, own k → k < w.heap.size) := K0.lt h
 have HDs : Hid _ := seen_call (m := 1) HW.out HD.out
 have hT0 : Hid (seenT P0 w own 1 (w.alloc (.cells #[iv 0, iv 0, iv 0, iv 0] 33))) := seen_start K0 h ((Below.refl _ _).alloc (Nat.le_refl _) _) (by simp)
 have rb0 : Hid ((w.alloc (.cells #[iv 0, iv 0, iv 0, iv 0] 33)).heap[w.heap.size]? = some (.cells #[iv 0, iv 0, iv 0, iv 0] 33 (0, 0))) := heap_alloc_new w _
 clear h
 go_enter Tryz.func25, Tryz.ntmps25
 go_wp2_with fail
 generalize w.alloc (.cells #[iv 0, iv 0, iv 0, iv 0] 33) = W0 at hT0 rb0 ⊢
 refine (HDs.out _ hT0.out).mono ?_
 rintro e W1 ⟨rfl, hT1, hk⟩
 have rb1 : Hid _ := (hk _ (Nat.le_refl _) (by omega)).trans rb0.out
 have lr1 : w.heap.size < W1.heap.size := (blt rb1.out)
 have HE : Hid (∀ v0 v1 v2 v3, ansP P1 w ((((W1.setCell (aq w.heap.size 0) v0).setCell (aq w.heap.size 1) v1).setCell (aq w.heap.size 2) v2).setCell (aq w.heap.size 3) v3) own) := fun v0 v1 v2 v3 => seen_end (seen_set4 K1 hT1 HW.out (by omega) (by omega) v0 v1 v2 v3)
 have f0 := row_free rb1.out 0
 have f1 := row_free rb1.out 1
 have f2 := row_free rb1.out 2
 have f3 := row_free rb1.out 3
 obtain ⟨z0, z1, z2, z3⟩ := fourK rb1.out
 clear hT1 hk HW rb0 hT0 HDs HD
 go_wp2
 refine bodyPost_ret (v := .tuple #[.agg #[iv pk, iv po, iv pc, iv pu], .bool true]) (by simp [results, Tryz.results25, go_sem, z0, z1, z2, z3]) rfl ⟨rfl, ?_⟩
 exact HE.out _ _ _ _
theorem inI_0 : inI 0 := ⟨by decide, by decide⟩
theorem inI_4 : inI 4 := ⟨by decide, by decide⟩
section
variable {w : World} {x : Nat} {own : Nat → Prop} {S : Sal}
def Sal.pollK (S : Sal) (c o : Int) : Rep := (S.does ⟨0, 4, 0, c, 0, o⟩).1
theorem pollK_same (S : Sal) (c o : Int) : (S.does ⟨0, 4, 0, c, 0, o⟩).2 = S := by
 unfold Sal.does
 rw [if_pos (by show (0 : Int) ≤ 4 ∧ (4 : Int) < 256; omega), if_neg (by show ¬ (4 : Int) = 0; omega)]
 unfold Sal.sendK
 split
 ·unfold Sal.send
  rw [if_neg (fun c => c rfl), if_pos (show (Stp.req _).kind = 4 from rfl)]
 ·rfl
theorem poll_any (h : PSK w x own S) (c o : Int) (hc : inI c) (ho : inI o) :
 Calls Tryz.prog 25 #[pt x 0, iv c, iv o] w fun e w' => e = .returned (.tuple #[(S.pollK c o).val, .bool true]) ∧ ansP (psk' x S) w w' own := by
 refine poll_walk x c o _ _ _ _ w own (psk' x S) (psk' x S) (keepPSK _ _) (keepPSK _ _) h (fun W o' hp => ?_)
 have := does_any hp ⟨0, 4, 0, c, 0, o⟩ ⟨inI_0, inI_4, inI_0, hc, inI_0, ho⟩
 rw [pollK_same] at this
 exact this
def sal0 (C : Cfg) : Sal := ⟨C, 0, [], []⟩
theorem sal0_J {n0 n1 n2 n3 n4 n5 n6 : Int} {ts : List (Int × Int)} (hc : cfgB [n0, n1, n2, n3, n4, n5, n6] ts = true) : salJ (sal0 ⟨n0, n1, n2, n3, n4, n5, n6, ts⟩) ∧ keepI (sal0 ⟨n0, n1, n2, n3, n4, n5, n6, ts⟩) := by
 have hc' := hc
 unfold cfgB at hc'
 simp only [List.all_cons, List.all_nil, Bool.and_true, Bool.and_eq_true] at hc'
 obtain ⟨⟨h0, h1, h2, h3, h4, h5, h6⟩, hp⟩ := hc'
 have hp' := hp
 unfold pricesB at hp'
 simp only [Bool.and_eq_true, decide_eq_true_eq, List.all_eq_true, List.mem_range] at hp'
 obtain ⟨⟨hl1, hl4⟩, ht⟩ := hp'
 have hti : ∀ i, i < ts.length → (1 ≤ (ts.getD i (0, 0)).2 ∧ (ts.getD i (0, 0)).2 ≤ 1073741824) ∧ (i = 0 → (ts.getD i (0, 0)).1 = 0) := fun i hi => by
  have := ht i hi
  unfold tierB at this
  simp only [Bool.and_eq_true, decide_eq_true_eq] at this
  refine ⟨⟨this.1.1.1, this.1.1.2⟩, fun e => ?_⟩
  have h2 := this.2
  rw [if_pos e] at h2
  simpa using h2
 have hmem : ∀ p ∈ ts, 1 ≤ p.2 ∧ p.2 ≤ 1073741824 := fun p hp => by
  obtain ⟨i, hi, e⟩ := List.getElem_of_mem hp
  have := (hti i hi).1
  simpa [List.getD, List.getElem?_eq_getElem hi, e] using this
 have b0 := numB_iff h0
 have b1 := numB_iff h1
 have b2 := numB_iff h2
 have b3 := numB_iff h3
 have b4 := numB_iff h4
 refine ⟨⟨⟨fun o ho => by simp [sal0] at ho, ?_, fun c _ => ?_, ?_, ?_, fun o ho => by simp [sal0] at ho, fun p hp => ?_⟩, b1.2, b2.1, by simp [sal0], fun a ha => by simp [sal0] at ha⟩, ⟨⟨hl1, ?_, fun p hp => (hmem p hp).1⟩, fun o ho => by simp [sal0] at ho, fun a ha => by simp [sal0] at ha⟩⟩
 ·show unitsS [] 13 0 + unitsS [] 14 0 ≤ n0
  simp [unitsS]; omega
 ·show unitsS [] 12 c ≤ 4294967296
  simp [unitsS]
 ·show 0 ≤ n0 ∧ n0 ≤ 4294967296 ∧ 0 ≤ n3 ∧ n3 ≤ 4294967296 ∧ 0 ≤ n4 ∧ n4 ≤ 4294967296
  omega
 ·show (0 : Int) ≤ 0 ∧ (0 : Int) ≤ 4611686018427387904
  omega
 ·have := hmem p hp
  omega
 ·exact (hti 0 (by omega)).2 rfl
theorem price_first {ts : List (Int × Int)} (hp : pricesB ts = true) : ∀ k, 1 ≤ k → k ≤ ts.length → priceT ts 0 k = (ts.getD 0 (0, 0)).2 := by
 unfold pricesB at hp
 simp only [Bool.and_eq_true, decide_eq_true_eq, List.all_eq_true, List.mem_range] at hp
 obtain ⟨⟨hl1, hl4⟩, ht⟩ := hp
 have hti : ∀ i, i < ts.length → (i = 0 → (ts.getD i (0, 0)).1 = 0) ∧ (i ≠ 0 → (ts.getD (i - 1) (0, 0)).1 < (ts.getD i (0, 0)).1) := fun i hi => by
  have := ht i hi
  unfold tierB at this
  simp only [Bool.and_eq_true, decide_eq_true_eq] at this
  have h2 := this.2
  refine ⟨fun e => ?_, fun e => ?_⟩
  ·rw [if_pos e] at h2; simpa using h2
  ·rw [if_neg e] at h2; simpa using h2
 have hpos : ∀ i, i < ts.length → i ≠ 0 → 0 < (ts.getD i (0, 0)).1 := by
  intro i
  induction i with
  | zero => intro _ h; exact absurd rfl h
  | succ i ih =>
    intro hi _
    have h1 := (hti (i + 1) hi).2 (by omega)
    rw [Nat.add_sub_cancel] at h1
    by_cases e : i = 0
    ·have := (hti 0 (by omega)).1 rfl
     rw [e] at h1 ⊢
     omega
    ·have := ih (by omega) e
     omega
 intro k
 induction k with
 | zero => intro h; omega
 | succ k ih =>
   intro _ hk
   rw [priceT]
   by_cases e : k = 0
   ·rw [e, (hti 0 (by omega)).1 rfl, if_pos (Int.le_refl _)]
   ·have := hpos k (by omega) e
    rw [if_neg (by omega)]
    exact ih (by omega) (by omega)
theorem sells_pure {n0 n1 n2 n3 n4 n5 n6 : Int} {ts : List (Int × Int)} (hc : cfgB [n0, n1, n2, n3, n4, n5, n6] ts = true) : ((sal0 ⟨n0, n1, n2, n3, n4, n5, n6, ts⟩).sendK ⟨0, 1, 1, 1, 1, 0⟩).1 = ⟨2, 1, (ts.getD 0 (0, 0)).2, n3⟩ := by
 have hc' := hc
 unfold cfgB at hc'
 simp only [List.all_cons, List.all_nil, Bool.and_true, Bool.and_eq_true] at hc'
 obtain ⟨⟨h0, h1, h2, h3, h4, h5, h6⟩, hp⟩ := hc'
 have b0 := numB_iff h0
 have b1 := numB_iff h1
 have b6 := numB_iff h6
 have hlen : 1 ≤ ts.length := by
  have hp' := hp
  unfold pricesB at hp'
  simp only [Bool.and_eq_true, decide_eq_true_eq] at hp'
  exact hp'.1.1
 have hu : ∀ st c : Int, unitsS [] st c = 0 := fun st c => by simp [unitsS]
 have hpr : (sal0 ⟨n0, n1, n2, n3, n4, n5, n6, ts⟩).price = (ts.getD 0 (0, 0)).2 := by
  show priceT ts (unitsS [] 14 0) ts.length = _
  rw [hu]
  exact price_first hp _ hlen (Nat.le_refl _)
 have hask : ((sal0 ⟨n0, n1, n2, n3, n4, n5, n6, ts⟩).ask ⟨1, 1, 1, 1, 0⟩).1 = ⟨2, 1, (ts.getD 0 (0, 0)).2, n3⟩ := by
  obtain ⟨e1, e2⟩ := more_holds (sal0 ⟨n0, n1, n2, n3, n4, n5, n6, ts⟩) 1 1
  unfold Sal.ask
  rw [if_neg (by show ¬ n1 < unitsS [] 13 1 + unitsS [] 14 1 + unitsS [] 12 1 + 1; rw [hu, hu, hu]; omega)]
  rw [if_neg (by show ¬ n0 - unitsS [] 14 0 < 1; rw [hu]; omega)]
  rw [if_neg (by show ¬ 4294967296 ≤ 0; omega)]
  rw [if_pos ⟨rfl, by show (1 : Int) ≤ n0 - unitsS [] 14 0 - unitsS [] 13 0; rw [hu, hu]; omega⟩]
  have e3 : ((sal0 ⟨n0, n1, n2, n3, n4, n5, n6, ts⟩).more ⟨1, 1, 0, 0, 0, 0⟩).holds (sal0 ⟨n0, n1, n2, n3, n4, n5, n6, ts⟩).os.length = (sal0 ⟨n0, n1, n2, n3, n4, n5, n6, ts⟩).more ⟨1, 1, 13, (sal0 ⟨n0, n1, n2, n3, n4, n5, n6, ts⟩).price, (sal0 ⟨n0, n1, n2, n3, n4, n5, n6, ts⟩).now + (sal0 ⟨n0, n1, n2, n3, n4, n5, n6, ts⟩).C.lease, 0⟩ := by rw [e1, e2]
  simp only
  rw [e3, hpr]
  simp [Sal.more, sal0]
 unfold Sal.sendK
 rw [if_pos (by rfl)]
 unfold Sal.send
 rw [if_neg (fun c => c rfl), if_neg (by show ¬ (1 : Int) = 4; omega)]
 have hus : (sal0 ⟨n0, n1, n2, n3, n4, n5, n6, ts⟩).used (Stp.req ⟨0, 1, 1, 1, 1, 0⟩).token = none := rfl
 rw [hus]
 simp only
 rw [if_neg (by show ¬ ((0 : Nat) : Int) = n6; omega)]
 exact hask
theorem sendK_any (p : Stp) {ba : Option Addr} {bl bc : Nat} (hps : PSW w x own S) (hJ : salJ S) (hsl : sliceOf w ba bl bc p.bytes) :
 Calls Tryz.prog 27 #[pt x 0, .slice ba bl bc] w fun e w' => e = .returned (S.sendK p).1.val ∧ ansP (fun W o => PSW W x o (S.sendK p).2) w w' own := by
 unfold Sal.sendK
 rcases p.un with ⟨hb, hun⟩ | ⟨hb, hun⟩
 ·rw [if_pos hb]
  exact sendW.send hps hJ hsl hun
 ·rw [if_neg (by rw [hb]; decide)]
  have := sendW.send hps hJ hsl hun
  unfold Sal.send at this
  rw [if_pos (by decide)] at this
  exact this
theorem open_any {n0 n1 n2 n3 n4 n5 n6 : Int} {a sa : Option Addr} {len cap sl sc : Nat} {ts : List (Int × Int)} (ht : tiersAt w a len cap ts) :
 Calls Tryz.prog 7 #[.agg #[iv n0, iv n1, iv n2, iv n3, iv n4, iv n5, iv n6, .slice a len cap, .slice sa sl sc]] w fun e w' =>
  (cfgB [n0, n1, n2, n3, n4, n5, n6] ts = false ∧ e = .returned (.tuple #[.pointer none, .bool true]) ∧ Below w.heap.size w w') ∨
  (cfgB [n0, n1, n2, n3, n4, n5, n6] ts = true ∧ ∃ x own, e = .returned (.tuple #[pt x 0, .bool true]) ∧ PSK w' x own (sal0 ⟨n0, n1, n2, n3, n4, n5, n6, ts⟩) ∧ (∀ k, own k → w.heap.size ≤ k) ∧ Below w.heap.size w w') := by
 cases hc : cfgB [n0, n1, n2, n3, n4, n5, n6] ts
 ·refine (open_none n0 n1 n2 n3 n4 n5 n6 a sa len cap sl sc w (fun W hW => openW.no (ht.below hW (Nat.le_refl _)) hc) (fun W hW => ?_)).mono (fun e w' h => .inl ⟨rfl, h⟩)
  have := right_any n0 n1 n2 n3 n4 n5 n6 a len cap ts W (ht.below hW (Nat.le_refl _))
  rw [hc] at this
  exact this
 ·obtain ⟨hJ, hI⟩ := sal0_J hc
  have hc' := hc
  unfold cfgB at hc'
  simp only [List.all_cons, List.all_nil, Bool.and_true, Bool.and_eq_true] at hc'
  obtain ⟨⟨h0, h1, h2, h3, h4, h5, h6⟩, hp⟩ := hc'
  have hlen : 1 ≤ ts.length ∧ ts.length ≤ 4 := by
   unfold pricesB at hp
   simp only [Bool.and_eq_true, decide_eq_true_eq] at hp
   exact hp.1
  refine (open_some n0 n1 n2 n3 n4 n5 n6 a sa len cap sl sc w (fun x W o => PSK W x o (sal0 ⟨n0, n1, n2, n3, n4, n5, n6, ts⟩)) (fun x => keepPSK x _) (fun W hW => ?_) (fun W hW => ?_) (fun W hW => ?_)).mono (fun e w' h => .inr ⟨rfl, h⟩)
  ·refine (openW.yes (ht.below hW (Nat.le_refl _)) hc).mono ?_
   rintro e w' ⟨x, own, rfl, p1, p2, p3⟩
   exact ⟨x, own, rfl, ⟨p1, hJ, hI⟩, p2, p3⟩
  ·have := right_any n0 n1 n2 n3 n4 n5 n6 a len cap ts W (ht.below hW (Nat.le_refl _))
   rw [hc] at this
   exact this
  ·obtain ⟨t1, t2, t3, t4, t5⟩ := ht.below hW (Nat.le_refl _)
   obtain ⟨b, off, rfl, hb, hcell⟩ := t5 (by intro e; have := hlen.1; rw [e] at this; simp at this)
   obtain ⟨q0, q1⟩ := hcell 0 (by omega)
   simp only [Nat.zero_mul, Nat.add_zero] at q0 q1
   have hs : ∀ W, Calls Tryz.prog 28 #[.agg #[iv 1, iv 1, iv 1, iv 1, iv 0]] W fun e w' => ∃ ba bl bc, e = .returned (.slice ba bl bc) ∧ sliceOf w' ba bl bc (Stp.bytes ⟨0, 1, 1, 1, 1, 0⟩) ∧ Below W.heap.size W w' := fun W => by
    refine (framedI 1 1 1 1 0 W (by decide) (by decide) (by decide) (by decide) (by decide) (by decide)).mono ?_
    rintro e w' ⟨v, rfl, hown, hb⟩
    obtain ⟨g, cap, rfl, hs'⟩ := bytesAt_slice (bytesAt_of hown (by unfold frameB; simp)) (Stp.bytes_byte ⟨0, 1, 1, 1, 1, 0⟩ (by show (0 : Int) ≤ 1 ∧ (1 : Int) < 256; omega))
    exact ⟨_, _, _, rfl, hs', hb⟩
   refine sells_walk n0 n1 n2 n3 n4 n5 n6 _ _ b off len cap W hb (by omega) (by omega) q0 q1 (fun x W o => PSK W x o (sal0 ⟨n0, n1, n2, n3, n4, n5, n6, ts⟩)) (fun x W o => PSW W x o ((sal0 ⟨n0, n1, n2, n3, n4, n5, n6, ts⟩).sendK ⟨0, 1, 1, 1, 1, 0⟩).2) (fun x => keepPSK x _) (fun W ba bl bc => sliceOf W ba bl bc (Stp.bytes ⟨0, 1, 1, 1, 1, 0⟩)) (fun W' hW' => ?_) hs (fun x W' o ba bl bc hp hsl => ?_)
   ·refine (openW.yes (ht.below (hW.trans (hW'.mono hW.size)) (Nat.le_refl _)) hc).mono ?_
    rintro e w' ⟨x, own, rfl, p1, p2, p3⟩
    exact ⟨x, own, rfl, ⟨p1, hJ, hI⟩, p2, p3⟩
   ·have := sendK_any ⟨0, 1, 1, 1, 1, 0⟩ hp.ps hJ hsl
    rw [sells_pure hc] at this
    exact this
end
end
theorem codes_pos : ∀ ns : List Nat, ns.length ≤ (codes ns).length
 | [] => Nat.le_refl _
 | n :: ns => by
   have h1 := codes_pos ns
   have h2 := code_pos n
   rw [codes_cons, List.length_append, List.length_cons]
   omega
theorem un_short : UN [1, 1, 1] 0 0 0 0 0 2 := un_no (count := 3) rfl (fun ns hl _ e => by
 have h1 := codes_pos ns
 rw [← e] at h1
 simp at h1
 omega)
theorem code_head {n : Nat} {x : Int} {tl l : List Int} (h : code n ++ l = x :: tl) : (n < 128 ∧ x = n ∧ l = tl) ∨ (128 ≤ n ∧ x = (n % 128 + 128 : Nat) ∧ code (n / 128) ++ l = tl) := by
 by_cases hn : n < 128
 ·rw [code_small hn] at h
  simp at h
  exact .inl ⟨hn, h.1.symm, h.2⟩
 ·rw [code_great (by omega)] at h
  simp at h
  refine .inr ⟨by omega, ?_, h.2⟩
  rw [← h.1]; simp
theorem un_group : UN [2, 1, 1, 129, 0] 0 0 0 0 0 2 := un_no (count := 3) rfl (fun ns hl _ e => by
 obtain ⟨a, b, c, rfl⟩ : ∃ a b c, ns = [a, b, c] := by
  match ns, hl with
  | [a, b, c], _ => exact ⟨a, b, c, rfl⟩
 rw [codes_cons, codes_cons, codes_cons] at e
 have e0 : code a ++ (code b ++ (code c ++ codes [])) = [1, 1, 129, 0] := e.symm
 rcases code_head e0 with ⟨_, _, e1⟩ | ⟨_, h2, _⟩
 ·rcases code_head e1 with ⟨_, _, e2⟩ | ⟨_, h2, _⟩
  ·rcases code_head e2 with ⟨h3, h4, _⟩ | ⟨h3, h4, e3⟩
   ·omega
   ·rcases code_head e3 with ⟨h5, h6, _⟩ | ⟨_, h6, _⟩
    ·omega
    ·omega
  ·omega
 ·omega)
section
section
variable {w : World} {x : Nat} {own : Nat → Prop} {S : Sal}
theorem clock_k (h : PSK w x own S) : Calls Tryz.prog 23 #[pt x 0] w fun e w' => e = .returned (iv S.now) ∧ ansP (psk' x S) w w' own := by
 refine (tickW.clock h.ps h.J).mono ?_
 rintro e w' ⟨rfl, hq⟩
 exact ⟨rfl, ansP_mono (P := fun W o => PSW W x o S) hq (fun W o hp => ⟨hp, h.J, h.I⟩)⟩
theorem books_k (h : PSK w x own S) : Calls Tryz.prog 22 #[pt x 0] w fun e w' => e = .returned (.agg #[iv S.free, iv (unitsS S.os 13 0), iv (unitsS S.os 14 0), iv (queueS S.os).length, iv S.answers]) ∧ ansP (psk' x S) w w' own := by
 refine (bookW.books h.ps h.J).mono ?_
 rintro e w' ⟨rfl, hq⟩
 exact ⟨rfl, ansP_mono (P := fun W o => PSW W x o S) hq (fun W o hp => ⟨hp, h.J, h.I⟩)⟩
theorem account_k (h : PSK w x own S) (c : Int) : Calls Tryz.prog 24 #[pt x 0, iv c] w fun e w' => e = .returned (.tuple #[.agg #[iv (S.acc c).1, iv (S.acc c).2.1, iv (S.acc c).2.2.1], iv (S.acc c).2.2.2]) ∧ ansP (psk' x S) w w' own := by
 refine (bookW.account c h.ps h.J).mono ?_
 rintro e w' ⟨rfl, hq⟩
 exact ⟨rfl, ansP_mono (P := fun W o => PSW W x o S) hq (fun W o hp => ⟨hp, h.J, h.I⟩)⟩
theorem bad_k (h : PSK w x own S) {ba : Option Addr} {bl bc : Nat} {bs : List Int} (hsl : sliceOf w ba bl bc bs) (hun : UN bs 0 0 0 0 0 2) : Calls Tryz.prog 27 #[pt x 0, .slice ba bl bc] w fun e w' => e = .returned (.agg #[iv 1, iv 0, iv 0, iv 0]) ∧ ansP (psk' x S) w w' own := by
 have := sendW.send h.ps h.J hsl hun
 unfold Sal.send at this
 rw [if_pos (by decide)] at this
 refine this.mono ?_
 rintro e w' ⟨rfl, hq⟩
 exact ⟨rfl, ansP_mono (P := fun W o => PSW W x o S) hq (fun W o hp => ⟨hp, h.J, h.I⟩)⟩
end
theorem row_bytes {W : World} {g : Nat} {l : List Int} (h : W.heap[g]? = some (.cells (l.map (Value.int .u8)).toArray 5 (0, 0))) (hl : l.length ≤ 1000) (hb : ∀ x ∈ l, 0 ≤ x ∧ x < 256) : sliceOf W (some (aq g 0)) l.length l.length l := by
 refine ⟨rfl, Nat.le_refl _, by unfold maxLen; omega, hb, fun _ => ⟨g, 0, rfl, (blt h), fun i hi => ?_⟩⟩
 rw [Joins.cell_of_block h]
 simp [List.getD, hi]
def runS (S0 : Sal) (ps : List Stp) : Nat → Sal
 | 0 => S0
 | j + 1 => ((runS S0 ps j).does (ps.getD j stp0)).2
def twoS (a b : Nat) (S T : Sal) (W : World) (o : Nat → Prop) : Prop := both (psk' a S) (psk' b T) W o
theorem keepTwo (a b : Nat) (S T : Sal) : Keeps (twoS a b S T) := keep2 (keepPSK a S) (keepPSK b T)
section
variable {a b : Nat} {S T S' T' : Sal} {f : FuncId} {args : Array Value} {v : Value}
theorem onA (h : ∀ W o, psk' a S W o → Calls Tryz.prog f args W fun e w' => e = .returned v ∧ ansP (psk' a S') W w' o) (W : World) (o : Nat → Prop) (hp : twoS a b S T W o) : Calls Tryz.prog f args W fun e w' => e = .returned v ∧ ansP (twoS a b S' T) W w' o := both_left (keepPSK b T) h W o hp
theorem onB (h : ∀ W o, psk' b T W o → Calls Tryz.prog f args W fun e w' => e = .returned v ∧ ansP (psk' b T') W w' o) (W : World) (o : Nat → Prop) (hp : twoS a b S T W o) : Calls Tryz.prog f args W fun e w' => e = .returned v ∧ ansP (twoS a b S T') W w' o := both_right (keepPSK a S) h W o hp
theorem onB_at {W : World} {o : Nat → Prop} (hp : twoS a b S T W o) (h : ∀ o, psk' b T W o → Calls Tryz.prog f args W fun e w' => e = .returned v ∧ ansP (psk' b T') W w' o) : Calls Tryz.prog f args W fun e w' => e = .returned v ∧ ansP (twoS a b S T') W w' o := by
 obtain ⟨o1, o2, a1, a2, a3, a4⟩ := hp
 refine (h o2 a2).mono ?_
 rintro e w' ⟨rfl, hq⟩
 exact ⟨rfl, ansP_mono (left_ans (keepPSK a S) a1 (fun k e c => a3 k c e) (fun k => (a4 k).trans Or.comm) hq) (fun _ _ h => both_swap h)⟩
theorem twoS_now {W : World} {o : Nat → Prop} (h : twoS a b S T W o) : restS S ∧ salJ S ∧ restS T ∧ salJ T := by
 obtain ⟨o1, o2, a1, a2, _⟩ := h
 exact ⟨a1.ps.2.R, a1.J, a2.ps.2.R, a2.J⟩
end
theorem alike_k {a b n : Nat} {S : Sal} {v0 v1 v2 v3 v4 v5 v6 v7 : Value} {sa : Option Addr} {sc : Nat} {ps : List Stp} {W : World} {o : Nat → Prop} (h : twoS a b S S W o) (hn : n ≤ 4611686018427387904) (hps : stepsAt W sa n ps) (hfine : ∀ p ∈ ps, p.fine) (hdis : ∀ c off, sa = some (aq c off) → ps ≠ [] → ¬ o c) :
 Calls Tryz.prog 14 #[.agg #[v0, v1, v2, v3, v4, v5, v6, v7, .slice sa n sc], pt a 0, pt b 0] W fun e w' => e = .returned (.bool true) ∧ ansP (twoS a b S S) W w' o := by
 have K := keepTwo a b S S
 have hw := K.lt h
 have hlen := hps.1
 have hin : ∀ i, i < n → inI (ps.getD i stp0).c ∧ inI ((i : Int) + 1) := fun i hi => by
  have hm : ps.getD i stp0 ∈ ps := by
   have hi' : i < ps.length := by omega
   simp [List.getD, List.getElem?_eq_getElem hi']
  exact ⟨(hfine _ hm).2.2.2.1, by constructor <;> omega⟩
 exact alike_walk a b n v0 v1 v2 v3 v4 v5 v6 v7 sa sc ps W o (twoS a b S S) K h _ _ _ _ _ S.now hn hps hdis S.acc S.pollK (fun loc W hT => seenL_call hw (onA (fun W o hp => books_k hp)) W hT) (fun loc W hT => seenL_call hw (onB (fun W o hp => books_k hp)) W hT) (fun loc W hT => seenL_call hw (onA (fun W o hp => clock_k hp)) W hT) (fun loc W hT => seenL_call hw (onB (fun W o hp => clock_k hp)) W hT) (fun c loc W hT => seenL_call hw (onA (fun W o hp => account_k hp c)) W hT) (fun c loc W hT => seenL_call hw (onB (fun W o hp => account_k hp c)) W hT) (fun i hi loc W hT => seenL_call hw (onA (fun W o hp => poll_any hp _ _ (hin i hi).1 (hin i hi).2)) W hT) (fun i hi loc W hT => seenL_call hw (onB (fun W o hp => poll_any hp _ _ (hin i hi).1 (hin i hi).2)) W hT)
end
section
open Go.ChangeShapes Go.WideShapes Go.ChangeAt Go.RowKit
theorem acc_none (S : Sal) {c : Int} (h : numB c = false) : S.acc c = (0, 0, 0, 3) := by unfold Sal.acc; rw [if_neg (by rw [h]; decide)]
theorem does_tick_val (S : Sal) (n : Int) : S.does ⟨n, 0, 0, 0, 0, 0⟩ = (rep0, (S.tick n).2) := by
 unfold Sal.does
 rw [if_pos (by show (0 : Int) ≤ 0 ∧ (0 : Int) < 256; omega), if_pos (show (0 : Int) = 0 from rfl)]
theorem nothing_k {a b : Nat} {S T : Sal} {va : Array Value} {i : Int} (hi0 : 0 ≤ i) (hi1 : i ≤ 4611686018427387904) {W : World} {o : Nat → Prop} (h : twoS a b S T W o) :
 Calls Tryz.prog 16 #[.agg va, pt b 0, iv i] W fun e w' => e = .returned (.bool true) ∧ ansP (twoS a b S T) W w' o := by
 have K := keepTwo a b S T
 have hw := K.lt h
 obtain ⟨_, _, hR, hJ⟩ := twoS_now h
 have h0 := hJ.I.now
 refine nothing_walk b i hi0 hi1 va W o (twoS a b S T) K h (T.pollK 1 (i + 1)) ?_ ?_ ?_ ?_ ?_ ?_ ?_ ?_
 ·exact fun loc W hT => seenL_call hw (onB (fun W o hp => bad_k hp ⟨rfl, Nat.le_refl _, Nat.zero_le _, fun _ h => by simp at h, fun h => absurd rfl h⟩ un_nil)) W hT
 ·intro g loc W hT hg
  obtain ⟨o1, a1, a2⟩ := hT
  exact seenL_call (P := fun W o => twoS a b S T W o ∧ W.heap[g]? = some (.cells #[.int .u8 1, .int .u8 1, .int .u8 1] 5 (0, 0))) (P' := twoS a b S T) (loc := loc) hw (fun W o hp => onB_at hp.1 (fun o hq => bad_k hq (row_bytes (l := [1, 1, 1]) hp.2 (by decide) (by decide)) un_short)) W ⟨o1, ⟨a1, hg⟩, a2⟩
 ·intro g loc W hT hg
  obtain ⟨o1, a1, a2⟩ := hT
  exact seenL_call (P := fun W o => twoS a b S T W o ∧ W.heap[g]? = some (.cells #[.int .u8 2, .int .u8 1, .int .u8 1, .int .u8 129, .int .u8 0] 5 (0, 0))) (P' := twoS a b S T) (loc := loc) hw (fun W o hp => onB_at hp.1 (fun o hq => bad_k hq (row_bytes (l := [2, 1, 1, 129, 0]) hp.2 (by decide) (by decide)) un_group)) W ⟨o1, ⟨a1, hg⟩, a2⟩
 ·intro loc W hT
  refine seenL_call hw (onB (fun W o hp => ?_)) W hT
  have := does_any hp ⟨-1 - i, 0, 0, 0, 0, 0⟩ ⟨⟨by show -9223372036854775808 ≤ -1 - i; omega, by show -1 - i < 9223372036854775808; omega⟩, inI_0, inI_0, inI_0, inI_0, inI_0⟩
  rw [does_tick_val, tick_below (show -1 - i < 0 by omega)] at this
  exact this
 ·intro loc W hT
  refine seenL_call hw (onB (fun W o hp => ?_)) W hT
  have := does_any hp ⟨0, 0, 0, 0, 0, 0⟩ ⟨inI_0, inI_0, inI_0, inI_0, inI_0, inI_0⟩
  rw [does_tick_val, tick_zero hR h0.2] at this
  exact this
 ·exact fun loc W hT => seenL_call hw (onB (fun W o hp => poll_any hp 1 (i + 1) ⟨by decide, by decide⟩ ⟨by omega, by omega⟩)) W hT
 ·intro loc W hT
  refine seenL_call hw (onB (fun W o hp => ?_)) W hT
  have := account_k hp 0
  rw [acc_none T (by decide)] at this
  exact this
 ·intro loc W hT
  refine seenL_call hw (onB (fun W o hp => ?_)) W hT
  have := account_k hp 4294967297
  rw [acc_none T (by decide)] at this
  exact this
theorem quiet_case (n0 n1 n2 n3 n4 n5 n6 : Int) (a : Option Addr) (len cap : Nat) (ts : List (Int × Int)) (sa : Option Addr) (sl sc : Nat) (ps : List Stp) (w : World) (ht : tiersAt w a len cap ts) (hps : stepsAt w sa sl ps) (hfine : ∀ p ∈ ps, p.fine) (hl : sl * 48 ≤ 140737488351232) :
 Calls Tryz.prog 5 #[.agg #[iv n0, iv n1, iv n2, iv n3, iv n4, iv n5, iv n6, .slice a len cap, .slice sa sl sc]] w fun e w' => e = .returned (.bool true) ∧ Below w.heap.size w w' := by
 cases hc : cfgB [n0, n1, n2, n3, n4, n5, n6] ts
 ·refine quiet_none _ _ _ _ _ _ _ _ sa sl sc w (fun W hW => ?_)
  refine (open_any (sa := sa) (sl := sl) (sc := sc) (ht.below hW (Nat.le_refl _))).mono ?_
  rintro e w' (⟨_, rfl, hb⟩ | ⟨hc', _⟩)
  ·exact ⟨rfl, hb⟩
  ·rw [hc] at hc'; cases hc'
 ·have hfj : ∀ j, j < sl → (ps.getD j stp0).fine := fun j hj => by
   have hj' : j < ps.length := by rw [hps.1]; exact hj
   refine hfine _ ?_
   simp [List.getD, List.getElem?_eq_getElem hj']
  refine quiet_walk sl _ _ _ _ _ _ _ _ sa sc ps w (fun x => psk' x (sal0 ⟨n0, n1, n2, n3, n4, n5, n6, ts⟩)) (fun x => keepPSK x _) (fun a b j => twoS a b (runS (sal0 ⟨n0, n1, n2, n3, n4, n5, n6, ts⟩) ps j) (runS (sal0 ⟨n0, n1, n2, n3, n4, n5, n6, ts⟩) ps j)) (fun a b j => twoS a b (runS (sal0 ⟨n0, n1, n2, n3, n4, n5, n6, ts⟩) ps (j + 1)) (runS (sal0 ⟨n0, n1, n2, n3, n4, n5, n6, ts⟩) ps j)) (fun _ _ _ => keepTwo _ _ _ _) (fun _ _ _ => keepTwo _ _ _ _) (fun j => ((runS (sal0 ⟨n0, n1, n2, n3, n4, n5, n6, ts⟩) ps j).does (ps.getD j stp0)).1) (by omega) hps ?_ ?_ ?_ ?_ ?_ ?_
  ·intro W hW
   refine (open_any (sa := sa) (sl := sl) (sc := sc) (ht.below hW (Nat.le_refl _))).mono ?_
   rintro e w' (⟨hc', _⟩ | ⟨_, h⟩)
   ·rw [hc] at hc'; cases hc'
   ·exact h
  ·intro a b W o1 o2 o h1 h2 h3 h4
   exact ⟨o1, o2, h1, h2, h3, h4⟩
  ·intro a b j hj W o hp
   exact nothing_k (by omega) (by omega) hp
  ·intro a b j hj W o hp
   exact onA (fun W o hq => does_any hq (ps.getD j stp0) (hfj j hj)) W o hp
  ·intro a b j hj W o hp
   exact onB (fun W o hq => does_any hq (ps.getD j stp0) (hfj j hj)) W o hp
  ·intro a b W o hp hst hdis
   exact alike_k hp (by omega) hst hfine hdis
end
section
open Go.ChangeShapes Go.WideShapes Go.ChangeAt Go.RowKit
theorem quiet_lifted (os : Os) (started : os.Started) (H : Type) (enc : TypeId × Value → H) :
 ReturnsInHanded {} Tryz.checked os 5 .any (Rows.quietSpec.pre6 enc Tryz.prog Tryz.f5 Rows.quietRow.domain false) (Rows.quietSpec.post enc Tryz.prog Tryz.f5 false true false false) := by
 refine returnsInHanded_of_change_sized (C := Tryz.checked) own started (by kernel_rfl) Tryz.func5
  (ChangeSpec.witness6 (enc := enc) (C := Tryz.checked) false ⟨#[], #[.agg #[iv 0, iv 0, iv 0, iv 0, iv 0, iv 0, iv 0, .slice none 0 0, .slice none 0 0]], []⟩ 8 (by kernel_rfl) (by kernel_rfl) (by kernel_rfl) (by kernel_rfl)) ?_
 intro W base args ds gs before hval0 hW hcnd hsz0 _
 have hval : ∀ (j : Nat) t v, Tryz.f5.params[j]? = some t → args[j]? = some v → Value.okWide Tryz.prog W .any base t v := hval0
 have hsz : (DataW.weightsEach Tryz.prog (Tryz.f5.params.toList ++ Rows.quietSpec.plain.varTypes Tryz.prog) (ds ++ gs)).all (· ≤ reachBytes) = true := hsz0
 have hW' := hW
 obtain ⟨p, q, hA0, hV, rfl, hfz, hnd⟩ := hW
 have hA : DataW.TrodAll enc Tryz.prog W 0 (fun _ => true) true Tryz.f5.params.toList args.toList ds p := hA0
 rw [Tryz.params5] at hA hval hsz
 obtain ⟨v0, vs0, d0, ds0, p0, q0, hargs, rfl, rfl, h0, r0⟩ := trodAll_cons hA
 obtain ⟨rfl, rfl, rfl⟩ := trodAll_nil r0
 obtain rfl : args = #[v0] := by cases args; simp_all
 obtain ⟨rfl, rfl⟩ := trodVars_none hV
 have k0 := h0
 have lt0 : ∀ x ∈ p0, x.block < W.heap.size := by obtain ⟨m, hm⟩ := k0; exact DataW.trod_lt m _ _ _ hm
 have w0 : wOK 27 d0 := fun x hx => by simpa using List.all_eq_true.1 hsz x (DataW.weights_mem_each (j := 0) rfl rfl x hx)
 obtain ⟨n0, n1, n2, n3, n4, n5, n6, a, len, cap, ts, sa, sl, sc, ps, rfl, ht, hps, hfine, hl⟩ := case_open (hval 0 27 v0 rfl rfl) h0 w0
 clear hA0 hval0
 refine (quiet_case n0 n1 n2 n3 n4 n5 n6 a len cap ts sa sl sc ps  W ht hps hfine hl).mono fun e W' ⟨he, bel⟩ => ?_
 subst he
 exact ⟨_, rfl, _, _, _, [], _, [], hW', trodAll_mk1 (shut_bool Tryz.underlying4 _), (trodAll_cons_mk (Below.trod laidOut (by kernel_rfl) (of_decide_eq_true (by kernel_rfl)) k0 bel lt0) trodAll_mk0), rfl, bel.frame _, fun h => by cases h⟩
theorem quiet_holds : Rows.QuietSaid :=
 OpenClaim.holds_of_wide 5 Tryz.f5 rfl rfl rfl rfl rfl rfl rfl ⟨rfl, rfl, rfl, rfl, rfl⟩ rfl rfl rfl rfl rfl (by kernel_rfl) Tryz.func5 (by kernel_rfl)
  (of_decide_eq_true (by kernel_rfl)) (by unfold Func.isWrapper; first | (rw [if_pos (by decide +kernel)]; kernel_rfl) | (rw [if_neg (by decide +kernel)]; exact ⟨rfl, rfl⟩))
  (fun os started H enc _ => quiet_lifted os started H enc)
end
end Go.Proofs.YtfhncfghblkgeabGreat
