import Derived.Test.YtfhncfghblkgeaaGreatL20
set_option maxRecDepth 100000
set_option maxHeartbeats 2000000
namespace Go.Proofs.YtfhncfghblkgeaaGreat
open Go.RowKit
theorem qe3 (t c u:Int) (w:World) (hn:[t,c,u].all jc3=true) (hi:isB 1 t c u 0=true) :
 Calls Tryz.prog 71 #[.agg #[iv 1,iv t,iv c,iv u,iv 0]] w fun e w'=>∃ v,e=.returned (.tuple #[v,iv 0])/\bytesAt w' w.heap.size v (ja8 1 [t,c,u])/\Below w.heap.size w w':=by
 have HN:Hid ([t,c,u].all jc3=true):=hn
 have HI:Hid (isB 1 t c u 0=true):=hi
 clear hn hi
 go_enter Tryz.func71,Tryz.ntmps71
 go_wp2_with fail
 refine (jmk 1 t c u 0 _).mono ?_
 rintro e w1 ⟨rfl,b1⟩
 rw [HI.out]
 have s1:w.heap.size<w1.heap.size:=by have:=b1.size;simp at this;omega
 have k0:w1.cell? (aq w.heap.size 0)=some (iv 1):=(b1.cell (p:=(aq w.heap.size 0)) (by simp)).trans (by simp [go_sem])
 have k1:w1.cell? (aq w.heap.size 1)=some (iv t):=(b1.cell (p:=(aq w.heap.size 1)) (by simp)).trans (by simp [go_sem])
 have k2:w1.cell? (aq w.heap.size 2)=some (iv c):=(b1.cell (p:=(aq w.heap.size 2)) (by simp)).trans (by simp [go_sem])
 have k3:w1.cell? (aq w.heap.size 3)=some (iv u):=(b1.cell (p:=(aq w.heap.size 3)) (by simp)).trans (by simp [go_sem])
 have k4:w1.cell? (aq w.heap.size 4)=some (iv 0):=(b1.cell (p:=(aq w.heap.size 4)) (by simp)).trans (by simp [go_sem])
 go_wp2_with fail
 refine (jh6 1 (by omega) (by omega) [t,c,u] w1.heap.size 3 _ (by simp) (by simp) (jot HN.out (by simp [go_sem]) (by simp [go_sem]) (by simp [go_sem]))).mono ?_
 rintro e w2 ⟨v,rfl,hown,b2⟩
 have w02:Below w.heap.size w w2:=((((Below.refl _ _).alloc (Nat.le_refl _) _).trans (b1.mono (by simp))).alloc (Nat.le_of_lt s1) _).trans (b2.mono (by simp;omega))
 have hby:bytesAt w2 w.heap.size v (ja8 1 [t,c,u]):=jh9 (je9 hown (by simp;omega)) (jhk _ _)
 have HBY:Hid (bytesAt w2 w.heap.size v (ja8 1 [t,c,u])):=hby
 clear hby hown k0 k1 k2 k3 k4
 go_wp2
 go_ret2
 exact ⟨_,rfl,HBY.out,w02⟩
theorem qec (t c o:Int) (w:World) (hn:[t,c,o].all jc3=true) (hi:isB 2 t c 0 o=true) :
 Calls Tryz.prog 71 #[.agg #[iv 2,iv t,iv c,iv 0,iv o]] w fun e w'=>∃ v,e=.returned (.tuple #[v,iv 0])/\bytesAt w' w.heap.size v (ja8 2 [t,c,o])/\Below w.heap.size w w':=by
 have HN:Hid ([t,c,o].all jc3=true):=hn
 have HI:Hid (isB 2 t c 0 o=true):=hi
 clear hn hi
 go_enter Tryz.func71,Tryz.ntmps71
 go_wp2_with fail
 refine (jmk 2 t c 0 o _).mono ?_
 rintro e w1 ⟨rfl,b1⟩
 rw [HI.out]
 have s1:w.heap.size<w1.heap.size:=by have:=b1.size;simp at this;omega
 have k0:w1.cell? (aq w.heap.size 0)=some (iv 2):=(b1.cell (p:=(aq w.heap.size 0)) (by simp)).trans (by simp [go_sem])
 have k1:w1.cell? (aq w.heap.size 1)=some (iv t):=(b1.cell (p:=(aq w.heap.size 1)) (by simp)).trans (by simp [go_sem])
 have k2:w1.cell? (aq w.heap.size 2)=some (iv c):=(b1.cell (p:=(aq w.heap.size 2)) (by simp)).trans (by simp [go_sem])
 have k3:w1.cell? (aq w.heap.size 3)=some (iv 0):=(b1.cell (p:=(aq w.heap.size 3)) (by simp)).trans (by simp [go_sem])
 have k4:w1.cell? (aq w.heap.size 4)=some (iv o):=(b1.cell (p:=(aq w.heap.size 4)) (by simp)).trans (by simp [go_sem])
 go_wp2_with fail
 refine (jh6 2 (by omega) (by omega) [t,c,o] w1.heap.size 3 _ (by simp) (by simp) (jot HN.out (by simp [go_sem]) (by simp [go_sem]) (by simp [go_sem]))).mono ?_
 rintro e w2 ⟨v,rfl,hown,b2⟩
 have w02:Below w.heap.size w w2:=((((Below.refl _ _).alloc (Nat.le_refl _) _).trans (b1.mono (by simp))).alloc (Nat.le_of_lt s1) _).trans (b2.mono (by simp;omega))
 have hby:bytesAt w2 w.heap.size v (ja8 2 [t,c,o]):=jh9 (je9 hown (by simp;omega)) (jhk _ _)
 have HBY:Hid (bytesAt w2 w.heap.size v (ja8 2 [t,c,o])):=hby
 clear hby hown k0 k1 k2 k3 k4
 go_wp2
 go_ret2
 exact ⟨_,rfl,HBY.out,w02⟩
theorem qew (t c o:Int) (w:World) (hn:[t,c,o].all jc3=true) (hi:isB 3 t c 0 o=true) :
 Calls Tryz.prog 71 #[.agg #[iv 3,iv t,iv c,iv 0,iv o]] w fun e w'=>∃ v,e=.returned (.tuple #[v,iv 0])/\bytesAt w' w.heap.size v (ja8 3 [t,c,o])/\Below w.heap.size w w':=by
 have HN:Hid ([t,c,o].all jc3=true):=hn
 have HI:Hid (isB 3 t c 0 o=true):=hi
 clear hn hi
 go_enter Tryz.func71,Tryz.ntmps71
 go_wp2_with fail
 refine (jmk 3 t c 0 o _).mono ?_
 rintro e w1 ⟨rfl,b1⟩
 rw [HI.out]
 have s1:w.heap.size<w1.heap.size:=by have:=b1.size;simp at this;omega
 have k0:w1.cell? (aq w.heap.size 0)=some (iv 3):=(b1.cell (p:=(aq w.heap.size 0)) (by simp)).trans (by simp [go_sem])
 have k1:w1.cell? (aq w.heap.size 1)=some (iv t):=(b1.cell (p:=(aq w.heap.size 1)) (by simp)).trans (by simp [go_sem])
 have k2:w1.cell? (aq w.heap.size 2)=some (iv c):=(b1.cell (p:=(aq w.heap.size 2)) (by simp)).trans (by simp [go_sem])
 have k3:w1.cell? (aq w.heap.size 3)=some (iv 0):=(b1.cell (p:=(aq w.heap.size 3)) (by simp)).trans (by simp [go_sem])
 have k4:w1.cell? (aq w.heap.size 4)=some (iv o):=(b1.cell (p:=(aq w.heap.size 4)) (by simp)).trans (by simp [go_sem])
 go_wp2_with fail
 refine (jh6 3 (by omega) (by omega) [t,c,o] w1.heap.size 3 _ (by simp) (by simp) (jot HN.out (by simp [go_sem]) (by simp [go_sem]) (by simp [go_sem]))).mono ?_
 rintro e w2 ⟨v,rfl,hown,b2⟩
 have w02:Below w.heap.size w w2:=((((Below.refl _ _).alloc (Nat.le_refl _) _).trans (b1.mono (by simp))).alloc (Nat.le_of_lt s1) _).trans (b2.mono (by simp;omega))
 have hby:bytesAt w2 w.heap.size v (ja8 3 [t,c,o]):=jh9 (je9 hown (by simp;omega)) (jhk _ _)
 have HBY:Hid (bytesAt w2 w.heap.size v (ja8 3 [t,c,o])):=hby
 clear hby hown k0 k1 k2 k3 k4
 go_wp2
 go_ret2
 exact ⟨_,rfl,HBY.out,w02⟩
theorem qdt (c o:Int) (w:World) (hn:[c,o].all jc3=true) (hi:isB 4 0 c 0 o=true) :
 Calls Tryz.prog 71 #[.agg #[iv 4,iv 0,iv c,iv 0,iv o]] w fun e w'=>∃ v,e=.returned (.tuple #[v,iv 0])/\bytesAt w' w.heap.size v (ja8 4 [c,o])/\Below w.heap.size w w':=by
 have HN:Hid ([c,o].all jc3=true):=hn
 have HI:Hid (isB 4 0 c 0 o=true):=hi
 clear hn hi
 go_enter Tryz.func71,Tryz.ntmps71
 go_wp2_with fail
 refine (jmk 4 0 c 0 o _).mono ?_
 rintro e w1 ⟨rfl,b1⟩
 rw [HI.out]
 have s1:w.heap.size<w1.heap.size:=by have:=b1.size;simp at this;omega
 have k0:w1.cell? (aq w.heap.size 0)=some (iv 4):=(b1.cell (p:=(aq w.heap.size 0)) (by simp)).trans (by simp [go_sem])
 have k1:w1.cell? (aq w.heap.size 1)=some (iv 0):=(b1.cell (p:=(aq w.heap.size 1)) (by simp)).trans (by simp [go_sem])
 have k2:w1.cell? (aq w.heap.size 2)=some (iv c):=(b1.cell (p:=(aq w.heap.size 2)) (by simp)).trans (by simp [go_sem])
 have k3:w1.cell? (aq w.heap.size 3)=some (iv 0):=(b1.cell (p:=(aq w.heap.size 3)) (by simp)).trans (by simp [go_sem])
 have k4:w1.cell? (aq w.heap.size 4)=some (iv o):=(b1.cell (p:=(aq w.heap.size 4)) (by simp)).trans (by simp [go_sem])
 go_wp2_with fail
 refine (jh6 4 (by omega) (by omega) [c,o] w1.heap.size 2 _ (by simp) (by simp) (qbl HN.out (by simp [go_sem]) (by simp [go_sem]))).mono ?_
 rintro e w2 ⟨v,rfl,hown,b2⟩
 have w02:Below w.heap.size w w2:=((((Below.refl _ _).alloc (Nat.le_refl _) _).trans (b1.mono (by simp))).alloc (Nat.le_of_lt s1) _).trans (b2.mono (by simp;omega))
 have hby:bytesAt w2 w.heap.size v (ja8 4 [c,o]):=jh9 (je9 hown (by simp;omega)) (jhk _ _)
 have HBY:Hid (bytesAt w2 w.heap.size v (ja8 4 [c,o])):=hby
 clear hby hown k0 k1 k2 k3 k4
 go_wp2
 go_ret2
 exact ⟨_,rfl,HBY.out,w02⟩
theorem jgb (k t c u o:Int) (w:World) (h:isB k t c u o=false) :
 Calls Tryz.prog 71 #[.agg #[iv k,iv t,iv c,iv u,iv o]] w fun e w'=>e=.returned (.tuple #[.slice none 0 0,iv 2])/\Below w.heap.size w w':=by
 have HI:Hid (isB k t c u o=false):=h
 clear h
 go_enter Tryz.func71,Tryz.ntmps71
 go_wp2_with fail
 refine (jmk k t c u o _).mono ?_
 rintro e w1 ⟨rfl,b1⟩
 rw [HI.out]
 go_wp2
 go_ret2
 exact ⟨rfl,((Below.refl _ _).alloc (Nat.le_refl _) _).trans (b1.mono (by simp))⟩
theorem jey (k t c u o:Int) (w:World) (h:isB k t c u o=true) :
 Calls Tryz.prog 71 #[.agg #[iv k,iv t,iv c,iv u,iv o]] w fun e w'=>∃ v,e=.returned (.tuple #[v,iv 0])/\bytesAt w' w.heap.size v (ja8 k (jaj k t c u o))/\Below w.heap.size w w':=by
 have hi:=h
 by_cases h1:k=1
 ·subst h1
  simp [isB] at h
  obtain ⟨h,rfl⟩:=h
  exact qe3 t c u w (by simp [h]) hi
 by_cases h2:k=2
 ·subst h2
  simp [isB] at h
  obtain ⟨h,rfl⟩:=h
  exact qec t c o w (by simp [h]) hi
 by_cases h3:k=3
 ·subst h3
  simp [isB] at h
  obtain ⟨h,rfl⟩:=h
  exact qew t c o w (by simp [h]) hi
 by_cases h4:k=4
 ·subst h4
  simp [isB] at h
  obtain ⟨⟨h,rfl⟩,rfl⟩:=h
  exact qdt c o w (by simp [h]) hi
 ·simp [isB,h1,h2,h3,h4] at h
theorem jpm (b off len cap:Nat) (tl:List Int) (w:World) (hc1:¬ cap=1) (h:ja6 w (some (aq b off)) len cap (1 :: tl)) :
 Calls Tryz.prog 62 #[.slice (some (aq b off)) len cap] w fun e w'=>∃ k t c u o err,e=.returned (.tuple #[.agg #[iv k,iv t,iv c,iv u,iv o],iv err])/\UN (1 :: tl) k t c u o err/\Below w.heap.size w w':=by
 obtain ⟨hl,hlc,hcap,hc0,HT⟩:=je4 h
 have hbw:b<w.heap.size:=World.block_lt_of_cell? w _ hc0
 have hne:((len:Int)==0)=false:=by simp;omega
 have hpos:(0:Int)<(len:Int):=by omega
 have hpos1:(1:Int)<=(len:Int):=by omega
 rw [if_neg hc1] at HT
 have HT':Hid (ja6 w (some (aq b (off+1))) (len - 1) (cap - 1) tl):=HT
 clear HT h
 go_enter Tryz.func62,Tryz.ntmps62
 go_wp2_with (go_at_call 96;refine (jlz 0 0 0 0 _).mono ?_;rintro e w1 ⟨rfl,rfl⟩)
 refine (jcy _ _ _ tl _ (jaa HT'.out bL)).mono ?_
 rintro e w2 ⟨v,ok,rfl,hans,b2⟩
 have bw:Below w.heap.size w w2:=Below.trans bL (b2.mono (by simp<;>omega))
 have s2:w.heap.size+2<w2.heap.size:=by have:=b2.size;simp at this;omega
 have q0:∀ i,i<5->w2.frozen? (aq w.heap.size i)=false:=fun i hi=>(b2.frozen (p:=(aq w.heap.size i)) (by simp<;>omega)).trans (by simp [go_sem])
 have q1:∀ i,i<5->w2.cell? (aq w.heap.size i)=some (iv 0):=fun i hi=>(b2.cell (p:=(aq w.heap.size i)) (by simp<;>omega)).trans (by match i,hi with
  | 0,_=>simp [go_sem]
  | 1,_=>simp [go_sem]
  | 2,_=>simp [go_sem]
  | 3,_=>simp [go_sem]
  | 4,_=>simp [go_sem])
 cases ok with
 | false =>
   have HU:Hid (UN (1 :: tl) 0 0 0 0 0 2):=jro rfl (hans.2 rfl)
   clear hans b2
   go_wp2
   refine bodyPost_ret (v:=.tuple #[.agg #[iv 0,iv 0,iv 0,iv 0,iv 0],iv 2]) (by simp [results,Tryz.results62,go_sem,q1]) rfl ⟨0,0,0,0,0,2,rfl,HU.out,?_⟩
   exact jab bw (Nat.le_refl _)
 | true =>
   obtain ⟨x,y,z,g,cap2,htl,rfl,hg0,hg1,c0,c1,c2⟩:=jof hans
   by_cases hall:[(x:Int),(y:Int),(z:Int)].all jc3=true
   ·have HU:Hid (UN (1 :: tl) 1 x y z 0 0):=qcg htl hall
    have HA:Hid ([(x:Int),(y:Int),(z:Int)].all jc3=true):=hall
    clear hans b2 htl hall
    go_wp2_with (first
     | (go_at_call 90;refine (jd0 g cap2 x y z _ c0 c1 c2).mono ?_;rintro e w3 ⟨rfl,rfl⟩;rw [HA.out])
     | (go_at_call 98;refine (jtr g 0 cap2 x y z _ c0 c1 c2).mono ?_;rintro e w4 ⟨rfl,b4⟩;have r0:∀ i,i<5->w4.frozen? (aq w.heap.size i)=false:=(fun i hi=>(b4.frozen (p:=(aq w.heap.size i)) (show w.heap.size<w2.heap.size by omega)).trans (q0 i hi));have r1:∀ i,i<5->w4.cell? (aq w.heap.size i)=some (iv 0):=(fun i hi=>(b4.cell (p:=(aq w.heap.size i)) (show w.heap.size<w2.heap.size by omega)).trans (q1 i hi))))
    have bw4:Below w.heap.size w w4:=bw.trans (b4.mono (by omega))
    refine bodyPost_ret (v:=.tuple #[.agg #[iv 1,iv x,iv y,iv z,iv 0],iv 0]) (by simp [results,Tryz.results62,go_sem,r1]) rfl ⟨1,x,y,z,0,0,rfl,HU.out,?_⟩
    exact jab bw4 (Nat.le_refl _)
   ·have HU:Hid (UN (1 :: tl) 0 0 0 0 0 2):=ju6 (ms:=[x,y,z]) rfl htl (by simpa using hall)
    have HA:Hid ([(x:Int),(y:Int),(z:Int)].all jc3=false):=by unfold Hid;simpa using hall
    clear hans b2 htl hall
    go_wp2_with (go_at_call 90;refine (jd0 g cap2 x y z _ c0 c1 c2).mono ?_;rintro e w3 ⟨rfl,rfl⟩;rw [HA.out])
    refine bodyPost_ret (v:=.tuple #[.agg #[iv 0,iv 0,iv 0,iv 0,iv 0],iv 2]) (by simp [results,Tryz.results62,go_sem,q1]) rfl ⟨0,0,0,0,0,2,rfl,HU.out,?_⟩
    exact jab bw (Nat.le_refl _)
theorem jn7 (b off:Nat) (w:World) (h:ja6 w (some (aq b off)) 1 1 [1]) :
 Calls Tryz.prog 62 #[.slice (some (aq b off)) 1 1] w fun e w'=>∃ k t c u o err,e=.returned (.tuple #[.agg #[iv k,iv t,iv c,iv u,iv o],iv err])/\UN (1 :: []) k t c u o err/\Below w.heap.size w w':=by
 obtain ⟨_,_,_,hc0,HT⟩:=je4 h
 have hbw:b<w.heap.size:=World.block_lt_of_cell? w _ hc0
 have HT':Hid (ja6 w (some (aq b off)) 0 0 []):=HT
 clear HT h
 go_enter Tryz.func62,Tryz.ntmps62
 go_wp2_with (go_at_call 96;refine (jlz 0 0 0 0 _).mono ?_;rintro e w1 ⟨rfl,rfl⟩)
 refine (jcy _ _ _ [] _ (jaa HT'.out bL)).mono ?_
 rintro e w2 ⟨v,ok,rfl,hans,b2⟩
 have bw:Below w.heap.size w w2:=Below.trans bL (b2.mono (by simp<;>omega))
 have s2:w.heap.size+2<w2.heap.size:=by have:=b2.size;simp at this;omega
 have q0:∀ i,i<5->w2.frozen? (aq w.heap.size i)=false:=fun i hi=>(b2.frozen (p:=(aq w.heap.size i)) (by simp<;>omega)).trans (by simp [go_sem])
 have q1:∀ i,i<5->w2.cell? (aq w.heap.size i)=some (iv 0):=fun i hi=>(b2.cell (p:=(aq w.heap.size i)) (by simp<;>omega)).trans (by match i,hi with
  | 0,_=>simp [go_sem]
  | 1,_=>simp [go_sem]
  | 2,_=>simp [go_sem]
  | 3,_=>simp [go_sem]
  | 4,_=>simp [go_sem])
 cases ok with
 | false =>
   have HU:Hid (UN (1 :: []) 0 0 0 0 0 2):=jro rfl (hans.2 rfl)
   clear hans b2
   go_wp2
   refine bodyPost_ret (v:=.tuple #[.agg #[iv 0,iv 0,iv 0,iv 0,iv 0],iv 2]) (by simp [results,Tryz.results62,go_sem,q1]) rfl ⟨0,0,0,0,0,2,rfl,HU.out,?_⟩
   exact jab bw (Nat.le_refl _)
 | true =>
   obtain ⟨x,y,z,g,cap2,htl,_⟩:=jof hans
   have:=jgf x
   have:=congrArg List.length htl
   simp [jb8] at this
   omega
theorem qcs (b off len cap:Nat) (tl:List Int) (w:World) (h:ja6 w (some (aq b off)) len cap (1 :: tl)) :
 Calls Tryz.prog 62 #[.slice (some (aq b off)) len cap] w fun e w'=>∃ k t c u o err,e=.returned (.tuple #[.agg #[iv k,iv t,iv c,iv u,iv o],iv err])/\UN (1 :: tl) k t c u o err/\Below w.heap.size w w':=by
 by_cases hc1:cap=1
 ·subst hc1
  have h1:=h.1
  have h2:=h.2.1
  simp at h1
  have hl:len=1:=by omega
  subst hl
  have ht:tl=[]:=List.eq_nil_of_length_eq_zero (by omega)
  subst ht
  exact jn7 b off w h
 ·exact jpm b off len cap tl w hc1 h
theorem jp8 (b off len cap:Nat) (tl:List Int) (w:World) (hc1:¬ cap=1) (h:ja6 w (some (aq b off)) len cap (2 :: tl)) :
 Calls Tryz.prog 62 #[.slice (some (aq b off)) len cap] w fun e w'=>∃ k t c u o err,e=.returned (.tuple #[.agg #[iv k,iv t,iv c,iv u,iv o],iv err])/\UN (2 :: tl) k t c u o err/\Below w.heap.size w w':=by
 obtain ⟨hl,hlc,hcap,hc0,HT⟩:=je4 h
 have hbw:b<w.heap.size:=World.block_lt_of_cell? w _ hc0
 have hne:((len:Int)==0)=false:=by simp;omega
 have hpos:(0:Int)<(len:Int):=by omega
 have hpos1:(1:Int)<=(len:Int):=by omega
 rw [if_neg hc1] at HT
 have HT':Hid (ja6 w (some (aq b (off+1))) (len - 1) (cap - 1) tl):=HT
 clear HT h
 go_enter Tryz.func62,Tryz.ntmps62
 go_wp2_with (go_at_call 96;refine (jms 0 0 0 0 _).mono ?_;rintro e w1 ⟨rfl,rfl⟩)
 refine (jcy _ _ _ tl _ (jaa HT'.out bL)).mono ?_
 rintro e w2 ⟨v,ok,rfl,hans,b2⟩
 have bw:Below w.heap.size w w2:=Below.trans bL (b2.mono (by simp<;>omega))
 have s2:w.heap.size+2<w2.heap.size:=by have:=b2.size;simp at this;omega
 have q0:∀ i,i<5->w2.frozen? (aq w.heap.size i)=false:=fun i hi=>(b2.frozen (p:=(aq w.heap.size i)) (by simp<;>omega)).trans (by simp [go_sem])
 have q1:∀ i,i<5->w2.cell? (aq w.heap.size i)=some (iv 0):=fun i hi=>(b2.cell (p:=(aq w.heap.size i)) (by simp<;>omega)).trans (by match i,hi with
  | 0,_=>simp [go_sem]
  | 1,_=>simp [go_sem]
  | 2,_=>simp [go_sem]
  | 3,_=>simp [go_sem]
  | 4,_=>simp [go_sem])
 cases ok with
 | false =>
   have HU:Hid (UN (2 :: tl) 0 0 0 0 0 2):=jro rfl (hans.2 rfl)
   clear hans b2
   go_wp2
   refine bodyPost_ret (v:=.tuple #[.agg #[iv 0,iv 0,iv 0,iv 0,iv 0],iv 2]) (by simp [results,Tryz.results62,go_sem,q1]) rfl ⟨0,0,0,0,0,2,rfl,HU.out,?_⟩
   exact jab bw (Nat.le_refl _)
 | true =>
   obtain ⟨x,y,z,g,cap2,htl,rfl,hg0,hg1,c0,c1,c2⟩:=jof hans
   by_cases hall:[(x:Int),(y:Int),(z:Int)].all jc3=true
   ·have HU:Hid (UN (2 :: tl) 2 x y 0 z 0):=qcz htl hall
    have HA:Hid ([(x:Int),(y:Int),(z:Int)].all jc3=true):=hall
    clear hans b2 htl hall
    go_wp2_with (first
     | (go_at_call 90;refine (jd0 g cap2 x y z _ c0 c1 c2).mono ?_;rintro e w3 ⟨rfl,rfl⟩;rw [HA.out])
     | (go_at_call 98;refine (jtb g 0 cap2 x y z _ c0 c1 c2).mono ?_;rintro e w4 ⟨rfl,b4⟩;have r0:∀ i,i<5->w4.frozen? (aq w.heap.size i)=false:=(fun i hi=>(b4.frozen (p:=(aq w.heap.size i)) (show w.heap.size<w2.heap.size by omega)).trans (q0 i hi));have r1:∀ i,i<5->w4.cell? (aq w.heap.size i)=some (iv 0):=(fun i hi=>(b4.cell (p:=(aq w.heap.size i)) (show w.heap.size<w2.heap.size by omega)).trans (q1 i hi))))
    have bw4:Below w.heap.size w w4:=bw.trans (b4.mono (by omega))
    refine bodyPost_ret (v:=.tuple #[.agg #[iv 2,iv x,iv y,iv 0,iv z],iv 0]) (by simp [results,Tryz.results62,go_sem,r1]) rfl ⟨2,x,y,0,z,0,rfl,HU.out,?_⟩
    exact jab bw4 (Nat.le_refl _)
   ·have HU:Hid (UN (2 :: tl) 0 0 0 0 0 2):=ju6 (ms:=[x,y,z]) rfl htl (by simpa using hall)
    have HA:Hid ([(x:Int),(y:Int),(z:Int)].all jc3=false):=by unfold Hid;simpa using hall
    clear hans b2 htl hall
    go_wp2_with (go_at_call 90;refine (jd0 g cap2 x y z _ c0 c1 c2).mono ?_;rintro e w3 ⟨rfl,rfl⟩;rw [HA.out])
    refine bodyPost_ret (v:=.tuple #[.agg #[iv 0,iv 0,iv 0,iv 0,iv 0],iv 2]) (by simp [results,Tryz.results62,go_sem,q1]) rfl ⟨0,0,0,0,0,2,rfl,HU.out,?_⟩
    exact jab bw (Nat.le_refl _)
theorem jn1 (b off:Nat) (w:World) (h:ja6 w (some (aq b off)) 1 1 [2]) :
 Calls Tryz.prog 62 #[.slice (some (aq b off)) 1 1] w fun e w'=>∃ k t c u o err,e=.returned (.tuple #[.agg #[iv k,iv t,iv c,iv u,iv o],iv err])/\UN (2 :: []) k t c u o err/\Below w.heap.size w w':=by
 obtain ⟨_,_,_,hc0,HT⟩:=je4 h
 have hbw:b<w.heap.size:=World.block_lt_of_cell? w _ hc0
 have HT':Hid (ja6 w (some (aq b off)) 0 0 []):=HT
 clear HT h
 go_enter Tryz.func62,Tryz.ntmps62
 go_wp2_with (go_at_call 96;refine (jms 0 0 0 0 _).mono ?_;rintro e w1 ⟨rfl,rfl⟩)
 refine (jcy _ _ _ [] _ (jaa HT'.out bL)).mono ?_
 rintro e w2 ⟨v,ok,rfl,hans,b2⟩
 have bw:Below w.heap.size w w2:=Below.trans bL (b2.mono (by simp<;>omega))
 have s2:w.heap.size+2<w2.heap.size:=by have:=b2.size;simp at this;omega
 have q0:∀ i,i<5->w2.frozen? (aq w.heap.size i)=false:=fun i hi=>(b2.frozen (p:=(aq w.heap.size i)) (by simp<;>omega)).trans (by simp [go_sem])
 have q1:∀ i,i<5->w2.cell? (aq w.heap.size i)=some (iv 0):=fun i hi=>(b2.cell (p:=(aq w.heap.size i)) (by simp<;>omega)).trans (by match i,hi with
  | 0,_=>simp [go_sem]
  | 1,_=>simp [go_sem]
  | 2,_=>simp [go_sem]
  | 3,_=>simp [go_sem]
  | 4,_=>simp [go_sem])
 cases ok with
 | false =>
   have HU:Hid (UN (2 :: []) 0 0 0 0 0 2):=jro rfl (hans.2 rfl)
   clear hans b2
   go_wp2
   refine bodyPost_ret (v:=.tuple #[.agg #[iv 0,iv 0,iv 0,iv 0,iv 0],iv 2]) (by simp [results,Tryz.results62,go_sem,q1]) rfl ⟨0,0,0,0,0,2,rfl,HU.out,?_⟩
   exact jab bw (Nat.le_refl _)
 | true =>
   obtain ⟨x,y,z,g,cap2,htl,_⟩:=jof hans
   have:=jgf x
   have:=congrArg List.length htl
   simp [jb8] at this
   omega
theorem qbb (b off len cap:Nat) (tl:List Int) (w:World) (h:ja6 w (some (aq b off)) len cap (2 :: tl)) :
 Calls Tryz.prog 62 #[.slice (some (aq b off)) len cap] w fun e w'=>∃ k t c u o err,e=.returned (.tuple #[.agg #[iv k,iv t,iv c,iv u,iv o],iv err])/\UN (2 :: tl) k t c u o err/\Below w.heap.size w w':=by
 by_cases hc1:cap=1
 ·subst hc1
  have h1:=h.1
  have h2:=h.2.1
  simp at h1
  have hl:len=1:=by omega
  subst hl
  have ht:tl=[]:=List.eq_nil_of_length_eq_zero (by omega)
  subst ht
  exact jn1 b off w h
 ·exact jp8 b off len cap tl w hc1 h
theorem jp1 (b off len cap:Nat) (tl:List Int) (w:World) (hc1:¬ cap=1) (h:ja6 w (some (aq b off)) len cap (3 :: tl)) :
 Calls Tryz.prog 62 #[.slice (some (aq b off)) len cap] w fun e w'=>∃ k t c u o err,e=.returned (.tuple #[.agg #[iv k,iv t,iv c,iv u,iv o],iv err])/\UN (3 :: tl) k t c u o err/\Below w.heap.size w w':=by
 obtain ⟨hl,hlc,hcap,hc0,HT⟩:=je4 h
 have hbw:b<w.heap.size:=World.block_lt_of_cell? w _ hc0
 have hne:((len:Int)==0)=false:=by simp;omega
 have hpos:(0:Int)<(len:Int):=by omega
 have hpos1:(1:Int)<=(len:Int):=by omega
 rw [if_neg hc1] at HT
 have HT':Hid (ja6 w (some (aq b (off+1))) (len - 1) (cap - 1) tl):=HT
 clear HT h
 go_enter Tryz.func62,Tryz.ntmps62
 go_wp2_with (go_at_call 96;refine (jme 0 0 0 0 _).mono ?_;rintro e w1 ⟨rfl,rfl⟩)
 refine (jcy _ _ _ tl _ (jaa HT'.out bL)).mono ?_
 rintro e w2 ⟨v,ok,rfl,hans,b2⟩
 have bw:Below w.heap.size w w2:=Below.trans bL (b2.mono (by simp<;>omega))
 have s2:w.heap.size+2<w2.heap.size:=by have:=b2.size;simp at this;omega
 have q0:∀ i,i<5->w2.frozen? (aq w.heap.size i)=false:=fun i hi=>(b2.frozen (p:=(aq w.heap.size i)) (by simp<;>omega)).trans (by simp [go_sem])
 have q1:∀ i,i<5->w2.cell? (aq w.heap.size i)=some (iv 0):=fun i hi=>(b2.cell (p:=(aq w.heap.size i)) (by simp<;>omega)).trans (by match i,hi with
  | 0,_=>simp [go_sem]
  | 1,_=>simp [go_sem]
  | 2,_=>simp [go_sem]
  | 3,_=>simp [go_sem]
  | 4,_=>simp [go_sem])
 cases ok with
 | false =>
   have HU:Hid (UN (3 :: tl) 0 0 0 0 0 2):=jro rfl (hans.2 rfl)
   clear hans b2
   go_wp2
   refine bodyPost_ret (v:=.tuple #[.agg #[iv 0,iv 0,iv 0,iv 0,iv 0],iv 2]) (by simp [results,Tryz.results62,go_sem,q1]) rfl ⟨0,0,0,0,0,2,rfl,HU.out,?_⟩
   exact jab bw (Nat.le_refl _)
 | true =>
   obtain ⟨x,y,z,g,cap2,htl,rfl,hg0,hg1,c0,c1,c2⟩:=jof hans
   by_cases hall:[(x:Int),(y:Int),(z:Int)].all jc3=true
   ·have HU:Hid (UN (3 :: tl) 3 x y 0 z 0):=qci htl hall
    have HA:Hid ([(x:Int),(y:Int),(z:Int)].all jc3=true):=hall
    clear hans b2 htl hall
    go_wp2_with (first
     | (go_at_call 90;refine (jd0 g cap2 x y z _ c0 c1 c2).mono ?_;rintro e w3 ⟨rfl,rfl⟩;rw [HA.out])
     | (go_at_call 98;refine (jtp g 0 cap2 x y z _ c0 c1 c2).mono ?_;rintro e w4 ⟨rfl,b4⟩;have r0:∀ i,i<5->w4.frozen? (aq w.heap.size i)=false:=(fun i hi=>(b4.frozen (p:=(aq w.heap.size i)) (show w.heap.size<w2.heap.size by omega)).trans (q0 i hi));have r1:∀ i,i<5->w4.cell? (aq w.heap.size i)=some (iv 0):=(fun i hi=>(b4.cell (p:=(aq w.heap.size i)) (show w.heap.size<w2.heap.size by omega)).trans (q1 i hi))))
    have bw4:Below w.heap.size w w4:=bw.trans (b4.mono (by omega))
    refine bodyPost_ret (v:=.tuple #[.agg #[iv 3,iv x,iv y,iv 0,iv z],iv 0]) (by simp [results,Tryz.results62,go_sem,r1]) rfl ⟨3,x,y,0,z,0,rfl,HU.out,?_⟩
    exact jab bw4 (Nat.le_refl _)
   ·have HU:Hid (UN (3 :: tl) 0 0 0 0 0 2):=ju6 (ms:=[x,y,z]) rfl htl (by simpa using hall)
    have HA:Hid ([(x:Int),(y:Int),(z:Int)].all jc3=false):=by unfold Hid;simpa using hall
    clear hans b2 htl hall
    go_wp2_with (go_at_call 90;refine (jd0 g cap2 x y z _ c0 c1 c2).mono ?_;rintro e w3 ⟨rfl,rfl⟩;rw [HA.out])
    refine bodyPost_ret (v:=.tuple #[.agg #[iv 0,iv 0,iv 0,iv 0,iv 0],iv 2]) (by simp [results,Tryz.results62,go_sem,q1]) rfl ⟨0,0,0,0,0,2,rfl,HU.out,?_⟩
    exact jab bw (Nat.le_refl _)
theorem jmx (b off:Nat) (w:World) (h:ja6 w (some (aq b off)) 1 1 [3]) :
 Calls Tryz.prog 62 #[.slice (some (aq b off)) 1 1] w fun e w'=>∃ k t c u o err,e=.returned (.tuple #[.agg #[iv k,iv t,iv c,iv u,iv o],iv err])/\UN (3 :: []) k t c u o err/\Below w.heap.size w w':=by
 obtain ⟨_,_,_,hc0,HT⟩:=je4 h
 have hbw:b<w.heap.size:=World.block_lt_of_cell? w _ hc0
 have HT':Hid (ja6 w (some (aq b off)) 0 0 []):=HT
 clear HT h
 go_enter Tryz.func62,Tryz.ntmps62
 go_wp2_with (go_at_call 96;refine (jme 0 0 0 0 _).mono ?_;rintro e w1 ⟨rfl,rfl⟩)
 refine (jcy _ _ _ [] _ (jaa HT'.out bL)).mono ?_
 rintro e w2 ⟨v,ok,rfl,hans,b2⟩
 have bw:Below w.heap.size w w2:=Below.trans bL (b2.mono (by simp<;>omega))
 have s2:w.heap.size+2<w2.heap.size:=by have:=b2.size;simp at this;omega
 have q0:∀ i,i<5->w2.frozen? (aq w.heap.size i)=false:=fun i hi=>(b2.frozen (p:=(aq w.heap.size i)) (by simp<;>omega)).trans (by simp [go_sem])
 have q1:∀ i,i<5->w2.cell? (aq w.heap.size i)=some (iv 0):=fun i hi=>(b2.cell (p:=(aq w.heap.size i)) (by simp<;>omega)).trans (by match i,hi with
  | 0,_=>simp [go_sem]
  | 1,_=>simp [go_sem]
  | 2,_=>simp [go_sem]
  | 3,_=>simp [go_sem]
  | 4,_=>simp [go_sem])
 cases ok with
 | false =>
   have HU:Hid (UN (3 :: []) 0 0 0 0 0 2):=jro rfl (hans.2 rfl)
   clear hans b2
   go_wp2
   refine bodyPost_ret (v:=.tuple #[.agg #[iv 0,iv 0,iv 0,iv 0,iv 0],iv 2]) (by simp [results,Tryz.results62,go_sem,q1]) rfl ⟨0,0,0,0,0,2,rfl,HU.out,?_⟩
   exact jab bw (Nat.le_refl _)
 | true =>
   obtain ⟨x,y,z,g,cap2,htl,_⟩:=jof hans
   have:=jgf x
   have:=congrArg List.length htl
   simp [jb8] at this
   omega
theorem qbd (b off len cap:Nat) (tl:List Int) (w:World) (h:ja6 w (some (aq b off)) len cap (3 :: tl)) :
 Calls Tryz.prog 62 #[.slice (some (aq b off)) len cap] w fun e w'=>∃ k t c u o err,e=.returned (.tuple #[.agg #[iv k,iv t,iv c,iv u,iv o],iv err])/\UN (3 :: tl) k t c u o err/\Below w.heap.size w w':=by
 by_cases hc1:cap=1
 ·subst hc1
  have h1:=h.1
  have h2:=h.2.1
  simp at h1
  have hl:len=1:=by omega
  subst hl
  have ht:tl=[]:=List.eq_nil_of_length_eq_zero (by omega)
  subst ht
  exact jmx b off w h
 ·exact jp1 b off len cap tl w hc1 h
theorem jp3 (b off len cap:Nat) (tl:List Int) (w:World) (hc1:¬ cap=1) (h:ja6 w (some (aq b off)) len cap (4 :: tl)) :
 Calls Tryz.prog 62 #[.slice (some (aq b off)) len cap] w fun e w'=>∃ k t c u o err,e=.returned (.tuple #[.agg #[iv k,iv t,iv c,iv u,iv o],iv err])/\UN (4 :: tl) k t c u o err/\Below w.heap.size w w':=by
 obtain ⟨hl,hlc,hcap,hc0,HT⟩:=je4 h
 have hbw:b<w.heap.size:=World.block_lt_of_cell? w _ hc0
 have hne:((len:Int)==0)=false:=by simp;omega
 have hpos:(0:Int)<(len:Int):=by omega
 have hpos1:(1:Int)<=(len:Int):=by omega
 rw [if_neg hc1] at HT
 have HT':Hid (ja6 w (some (aq b (off+1))) (len - 1) (cap - 1) tl):=HT
 clear HT h
 go_enter Tryz.func62,Tryz.ntmps62
 go_wp2_with (go_at_call 96;refine (jm2 0 0 0 0 _).mono ?_;rintro e w1 ⟨rfl,rfl⟩)
 refine (jjk _ _ _ tl _ (jaa HT'.out bL)).mono ?_
 rintro e w2 ⟨v,ok,rfl,hans,b2⟩
 have bw:Below w.heap.size w w2:=Below.trans bL (b2.mono (by simp<;>omega))
 have s2:w.heap.size+2<w2.heap.size:=by have:=b2.size;simp at this;omega
 have q0:∀ i,i<5->w2.frozen? (aq w.heap.size i)=false:=fun i hi=>(b2.frozen (p:=(aq w.heap.size i)) (by simp<;>omega)).trans (by simp [go_sem])
 have q1:∀ i,i<5->w2.cell? (aq w.heap.size i)=some (iv 0):=fun i hi=>(b2.cell (p:=(aq w.heap.size i)) (by simp<;>omega)).trans (by match i,hi with
  | 0,_=>simp [go_sem]
  | 1,_=>simp [go_sem]
  | 2,_=>simp [go_sem]
  | 3,_=>simp [go_sem]
  | 4,_=>simp [go_sem])
 cases ok with
 | false =>
   have HU:Hid (UN (4 :: tl) 0 0 0 0 0 2):=jro rfl (hans.2 rfl)
   clear hans b2
   go_wp2
   refine bodyPost_ret (v:=.tuple #[.agg #[iv 0,iv 0,iv 0,iv 0,iv 0],iv 2]) (by simp [results,Tryz.results62,go_sem,q1]) rfl ⟨0,0,0,0,0,2,rfl,HU.out,?_⟩
   exact jab bw (Nat.le_refl _)
 | true =>
   obtain ⟨x,y,g,cap2,htl,rfl,hg0,hg1,c0,c1⟩:=qdl hans
   by_cases hall:[(x:Int),(y:Int)].all jc3=true
   ·have HU:Hid (UN (4 :: tl) 4 0 x 0 y 0):=qbg htl hall
    have HA:Hid ([(x:Int),(y:Int)].all jc3=true):=hall
    clear hans b2 htl hall
    go_wp2_with (first
     | (go_at_call 90;refine (jjg g cap2 x y _ c0 c1).mono ?_;rintro e w3 ⟨rfl,rfl⟩;rw [HA.out])
     | (go_at_call 98;refine (jsd g 0 cap2 x y _ c0 c1).mono ?_;rintro e w4 ⟨rfl,b4⟩;have r0:∀ i,i<5->w4.frozen? (aq w.heap.size i)=false:=(fun i hi=>(b4.frozen (p:=(aq w.heap.size i)) (show w.heap.size<w2.heap.size by omega)).trans (q0 i hi));have r1:∀ i,i<5->w4.cell? (aq w.heap.size i)=some (iv 0):=(fun i hi=>(b4.cell (p:=(aq w.heap.size i)) (show w.heap.size<w2.heap.size by omega)).trans (q1 i hi))))
    have bw4:Below w.heap.size w w4:=bw.trans (b4.mono (by omega))
    refine bodyPost_ret (v:=.tuple #[.agg #[iv 4,iv 0,iv x,iv 0,iv y],iv 0]) (by simp [results,Tryz.results62,go_sem,r1]) rfl ⟨4,0,x,0,y,0,rfl,HU.out,?_⟩
    exact jab bw4 (Nat.le_refl _)
   ·have HU:Hid (UN (4 :: tl) 0 0 0 0 0 2):=ju6 (ms:=[x,y]) rfl htl (by simpa using hall)
    have HA:Hid ([(x:Int),(y:Int)].all jc3=false):=by unfold Hid;simpa using hall
    clear hans b2 htl hall
    go_wp2_with (go_at_call 90;refine (jjg g cap2 x y _ c0 c1).mono ?_;rintro e w3 ⟨rfl,rfl⟩;rw [HA.out])
    refine bodyPost_ret (v:=.tuple #[.agg #[iv 0,iv 0,iv 0,iv 0,iv 0],iv 2]) (by simp [results,Tryz.results62,go_sem,q1]) rfl ⟨0,0,0,0,0,2,rfl,HU.out,?_⟩
    exact jab bw (Nat.le_refl _)
theorem jnc (b off:Nat) (w:World) (h:ja6 w (some (aq b off)) 1 1 [4]) :
 Calls Tryz.prog 62 #[.slice (some (aq b off)) 1 1] w fun e w'=>∃ k t c u o err,e=.returned (.tuple #[.agg #[iv k,iv t,iv c,iv u,iv o],iv err])/\UN (4 :: []) k t c u o err/\Below w.heap.size w w':=by
 obtain ⟨_,_,_,hc0,HT⟩:=je4 h
 have hbw:b<w.heap.size:=World.block_lt_of_cell? w _ hc0
 have HT':Hid (ja6 w (some (aq b off)) 0 0 []):=HT
 clear HT h
 go_enter Tryz.func62,Tryz.ntmps62
 go_wp2_with (go_at_call 96;refine (jm2 0 0 0 0 _).mono ?_;rintro e w1 ⟨rfl,rfl⟩)
 refine (jjk _ _ _ [] _ (jaa HT'.out bL)).mono ?_
 rintro e w2 ⟨v,ok,rfl,hans,b2⟩
 have bw:Below w.heap.size w w2:=Below.trans bL (b2.mono (by simp<;>omega))
 have s2:w.heap.size+2<w2.heap.size:=by have:=b2.size;simp at this;omega
 have q0:∀ i,i<5->w2.frozen? (aq w.heap.size i)=false:=fun i hi=>(b2.frozen (p:=(aq w.heap.size i)) (by simp<;>omega)).trans (by simp [go_sem])
 have q1:∀ i,i<5->w2.cell? (aq w.heap.size i)=some (iv 0):=fun i hi=>(b2.cell (p:=(aq w.heap.size i)) (by simp<;>omega)).trans (by match i,hi with
  | 0,_=>simp [go_sem]
  | 1,_=>simp [go_sem]
  | 2,_=>simp [go_sem]
  | 3,_=>simp [go_sem]
  | 4,_=>simp [go_sem])
 cases ok with
 | false =>
   have HU:Hid (UN (4 :: []) 0 0 0 0 0 2):=jro rfl (hans.2 rfl)
   clear hans b2
   go_wp2
   refine bodyPost_ret (v:=.tuple #[.agg #[iv 0,iv 0,iv 0,iv 0,iv 0],iv 2]) (by simp [results,Tryz.results62,go_sem,q1]) rfl ⟨0,0,0,0,0,2,rfl,HU.out,?_⟩
   exact jab bw (Nat.le_refl _)
 | true =>
   obtain ⟨x,y,g,cap2,htl,_⟩:=qdl hans
   have:=jgf x
   have:=congrArg List.length htl
   simp [jb8] at this
   omega
theorem qbi (b off len cap:Nat) (tl:List Int) (w:World) (h:ja6 w (some (aq b off)) len cap (4 :: tl)) :
 Calls Tryz.prog 62 #[.slice (some (aq b off)) len cap] w fun e w'=>∃ k t c u o err,e=.returned (.tuple #[.agg #[iv k,iv t,iv c,iv u,iv o],iv err])/\UN (4 :: tl) k t c u o err/\Below w.heap.size w w':=by
 by_cases hc1:cap=1
 ·subst hc1
  have h1:=h.1
  have h2:=h.2.1
  simp at h1
  have hl:len=1:=by omega
  subst hl
  have ht:tl=[]:=List.eq_nil_of_length_eq_zero (by omega)
  subst ht
  exact jnc b off w h
 ·exact jp3 b off len cap tl w hc1 h
end Go.Proofs.YtfhncfghblkgeaaGreat
