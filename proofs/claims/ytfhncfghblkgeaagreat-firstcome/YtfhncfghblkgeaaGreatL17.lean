import Derived.Test.YtfhncfghblkgeaaGreatL05
set_option maxRecDepth 100000
set_option maxHeartbeats 2000000
namespace Go.Proofs.YtfhncfghblkgeaaGreat
open Go.RowKit
theorem jp4 (b off len cap:Nat) (tl:List Int) (w:World) (hc1:¬ cap=1) (h:jai w (some (aq b off)) len cap (1 :: tl)) :
 Calls Tryz.prog 62 #[.slice (some (aq b off)) len cap] w fun e w'=>∃ k t c u o err,e=.returned (.tuple #[.agg #[iv k,iv t,iv c,iv u,iv o],iv err])/\UN (1 :: tl) k t c u o err/\Below w.heap.size w w':=by
 obtain ⟨hl,hlc,hcap,hc0,HT⟩:=jev h
 have hbw:b<w.heap.size:=World.block_lt_of_cell? w _ hc0
 have hne:((len:Int)==0)=false:=by simp;omega
 have hpos:(0:Int)<(len:Int):=by omega
 have hpos1:(1:Int)<=(len:Int):=by omega
 rw [if_neg hc1] at HT
 have HT':Hid (jai w (some (aq b (off+1))) (len - 1) (cap - 1) tl):=HT
 clear HT h
 go_enter Tryz.func62,Tryz.ntmps62
 go_wp2_with (go_at_call 96;refine (jm2 0 0 0 0 _).mono ?_;rintro e w1 ⟨rfl,rfl⟩)
 refine (jd7 _ _ _ tl _ (jbm HT'.out bL)).mono ?_
 rintro e w2 ⟨v,ok,rfl,hans,b2⟩
 have bw:Below w.heap.size w w2:=Below.trans bL (b2.mono (by simp<;>omega))
 have s2:w.heap.size+2<w2.heap.size:=by have:=b2.size;simp at this;omega
 have q0:∀ i,i<5->w2.frozen? (aq w.heap.size i)=false:=fun i hi=>(b2.frozen (p:=(aq w.heap.size i)) (by simp<;>omega)).trans (by simp [go_sem])
 have q1:∀ i,i<5->w2.cell? (aq w.heap.size i)=some (iv 0):=fun i hi=>(b2.cell (p:=(aq w.heap.size i)) (by simp<;>omega)).trans (by match i,hi with
  | 0,_=>simp [go_sem]
  | 1,_=>simp [go_sem]
  | 2,_=>simp [go_sem]
  | 3,_=>simp [go_sem]
  | 4,_=>simp [go_sem])
 cases ok with
 | false =>
   have HU:Hid (UN (1 :: tl) 0 0 0 0 0 2):=js7 rfl (hans.2 rfl)
   clear hans b2
   go_wp2
   refine bodyPost_ret (v:=.tuple #[.agg #[iv 0,iv 0,iv 0,iv 0,iv 0],iv 2]) (by simp [results,Tryz.results62,go_sem,q1]) rfl ⟨0,0,0,0,0,2,rfl,HU.out,?_⟩
   exact jb1 bw (Nat.le_refl _)
 | true =>
   obtain ⟨x,y,z,g,cap2,htl,rfl,hg0,hg1,c0,c1,c2⟩:=jog hans
   by_cases hall:[(x:Int),(y:Int),(z:Int)].all jbn=true
   ·have HU:Hid (UN (1 :: tl) 1 x y z 0 0):=qc7 htl hall
    have HA:Hid ([(x:Int),(y:Int),(z:Int)].all jbn=true):=hall
    clear hans b2 htl hall
    go_wp2_with (first
     | (go_at_call 90;refine (jd8 g cap2 x y z _ c0 c1 c2).mono ?_;rintro e w3 ⟨rfl,rfl⟩;rw [HA.out])
     | (go_at_call 98;refine (jtd g 0 cap2 x y z _ c0 c1 c2).mono ?_;rintro e w4 ⟨rfl,b4⟩;have r0:∀ i,i<5->w4.frozen? (aq w.heap.size i)=false:=(fun i hi=>(b4.frozen (p:=(aq w.heap.size i)) (show w.heap.size<w2.heap.size by omega)).trans (q0 i hi));have r1:∀ i,i<5->w4.cell? (aq w.heap.size i)=some (iv 0):=(fun i hi=>(b4.cell (p:=(aq w.heap.size i)) (show w.heap.size<w2.heap.size by omega)).trans (q1 i hi))))
    have bw4:Below w.heap.size w w4:=bw.trans (b4.mono (by omega))
    refine bodyPost_ret (v:=.tuple #[.agg #[iv 1,iv x,iv y,iv z,iv 0],iv 0]) (by simp [results,Tryz.results62,go_sem,r1]) rfl ⟨1,x,y,z,0,0,rfl,HU.out,?_⟩
    exact jb1 bw4 (Nat.le_refl _)
   ·have HU:Hid (UN (1 :: tl) 0 0 0 0 0 2):=jms (ms:=[x,y,z]) rfl htl (by simpa using hall)
    have HA:Hid ([(x:Int),(y:Int),(z:Int)].all jbn=false):=by unfold Hid;simpa using hall
    clear hans b2 htl hall
    go_wp2_with (go_at_call 90;refine (jd8 g cap2 x y z _ c0 c1 c2).mono ?_;rintro e w3 ⟨rfl,rfl⟩;rw [HA.out])
    refine bodyPost_ret (v:=.tuple #[.agg #[iv 0,iv 0,iv 0,iv 0,iv 0],iv 2]) (by simp [results,Tryz.results62,go_sem,q1]) rfl ⟨0,0,0,0,0,2,rfl,HU.out,?_⟩
    exact jb1 bw (Nat.le_refl _)
theorem jne (b off:Nat) (w:World) (h:jai w (some (aq b off)) 1 1 [1]) :
 Calls Tryz.prog 62 #[.slice (some (aq b off)) 1 1] w fun e w'=>∃ k t c u o err,e=.returned (.tuple #[.agg #[iv k,iv t,iv c,iv u,iv o],iv err])/\UN (1 :: []) k t c u o err/\Below w.heap.size w w':=by
 obtain ⟨_,_,_,hc0,HT⟩:=jev h
 have hbw:b<w.heap.size:=World.block_lt_of_cell? w _ hc0
 have HT':Hid (jai w (some (aq b off)) 0 0 []):=HT
 clear HT h
 go_enter Tryz.func62,Tryz.ntmps62
 go_wp2_with (go_at_call 96;refine (jm2 0 0 0 0 _).mono ?_;rintro e w1 ⟨rfl,rfl⟩)
 refine (jd7 _ _ _ [] _ (jbm HT'.out bL)).mono ?_
 rintro e w2 ⟨v,ok,rfl,hans,b2⟩
 have bw:Below w.heap.size w w2:=Below.trans bL (b2.mono (by simp<;>omega))
 have s2:w.heap.size+2<w2.heap.size:=by have:=b2.size;simp at this;omega
 have q0:∀ i,i<5->w2.frozen? (aq w.heap.size i)=false:=fun i hi=>(b2.frozen (p:=(aq w.heap.size i)) (by simp<;>omega)).trans (by simp [go_sem])
 have q1:∀ i,i<5->w2.cell? (aq w.heap.size i)=some (iv 0):=fun i hi=>(b2.cell (p:=(aq w.heap.size i)) (by simp<;>omega)).trans (by match i,hi with
  | 0,_=>simp [go_sem]
  | 1,_=>simp [go_sem]
  | 2,_=>simp [go_sem]
  | 3,_=>simp [go_sem]
  | 4,_=>simp [go_sem])
 cases ok with
 | false =>
   have HU:Hid (UN (1 :: []) 0 0 0 0 0 2):=js7 rfl (hans.2 rfl)
   clear hans b2
   go_wp2
   refine bodyPost_ret (v:=.tuple #[.agg #[iv 0,iv 0,iv 0,iv 0,iv 0],iv 2]) (by simp [results,Tryz.results62,go_sem,q1]) rfl ⟨0,0,0,0,0,2,rfl,HU.out,?_⟩
   exact jb1 bw (Nat.le_refl _)
 | true =>
   obtain ⟨x,y,z,g,cap2,htl,_⟩:=jog hans
   have:=jdy x
   have:=congrArg List.length htl
   simp [jct] at this
   omega
theorem qbb (b off len cap:Nat) (tl:List Int) (w:World) (h:jai w (some (aq b off)) len cap (1 :: tl)) :
 Calls Tryz.prog 62 #[.slice (some (aq b off)) len cap] w fun e w'=>∃ k t c u o err,e=.returned (.tuple #[.agg #[iv k,iv t,iv c,iv u,iv o],iv err])/\UN (1 :: tl) k t c u o err/\Below w.heap.size w w':=by
 by_cases hc1:cap=1
 ·subst hc1
  have h1:=h.1
  have h2:=h.2.1
  simp at h1
  have hl:len=1:=by omega
  subst hl
  have ht:tl=[]:=List.eq_nil_of_length_eq_zero (by omega)
  subst ht
  exact jne b off w h
 ·exact jp4 b off len cap tl w hc1 h
theorem jpe (b off len cap:Nat) (tl:List Int) (w:World) (hc1:¬ cap=1) (h:jai w (some (aq b off)) len cap (2 :: tl)) :
 Calls Tryz.prog 62 #[.slice (some (aq b off)) len cap] w fun e w'=>∃ k t c u o err,e=.returned (.tuple #[.agg #[iv k,iv t,iv c,iv u,iv o],iv err])/\UN (2 :: tl) k t c u o err/\Below w.heap.size w w':=by
 obtain ⟨hl,hlc,hcap,hc0,HT⟩:=jev h
 have hbw:b<w.heap.size:=World.block_lt_of_cell? w _ hc0
 have hne:((len:Int)==0)=false:=by simp;omega
 have hpos:(0:Int)<(len:Int):=by omega
 have hpos1:(1:Int)<=(len:Int):=by omega
 rw [if_neg hc1] at HT
 have HT':Hid (jai w (some (aq b (off+1))) (len - 1) (cap - 1) tl):=HT
 clear HT h
 go_enter Tryz.func62,Tryz.ntmps62
 go_wp2_with (go_at_call 96;refine (jm8 0 0 0 0 _).mono ?_;rintro e w1 ⟨rfl,rfl⟩)
 refine (jd7 _ _ _ tl _ (jbm HT'.out bL)).mono ?_
 rintro e w2 ⟨v,ok,rfl,hans,b2⟩
 have bw:Below w.heap.size w w2:=Below.trans bL (b2.mono (by simp<;>omega))
 have s2:w.heap.size+2<w2.heap.size:=by have:=b2.size;simp at this;omega
 have q0:∀ i,i<5->w2.frozen? (aq w.heap.size i)=false:=fun i hi=>(b2.frozen (p:=(aq w.heap.size i)) (by simp<;>omega)).trans (by simp [go_sem])
 have q1:∀ i,i<5->w2.cell? (aq w.heap.size i)=some (iv 0):=fun i hi=>(b2.cell (p:=(aq w.heap.size i)) (by simp<;>omega)).trans (by match i,hi with
  | 0,_=>simp [go_sem]
  | 1,_=>simp [go_sem]
  | 2,_=>simp [go_sem]
  | 3,_=>simp [go_sem]
  | 4,_=>simp [go_sem])
 cases ok with
 | false =>
   have HU:Hid (UN (2 :: tl) 0 0 0 0 0 2):=js7 rfl (hans.2 rfl)
   clear hans b2
   go_wp2
   refine bodyPost_ret (v:=.tuple #[.agg #[iv 0,iv 0,iv 0,iv 0,iv 0],iv 2]) (by simp [results,Tryz.results62,go_sem,q1]) rfl ⟨0,0,0,0,0,2,rfl,HU.out,?_⟩
   exact jb1 bw (Nat.le_refl _)
 | true =>
   obtain ⟨x,y,z,g,cap2,htl,rfl,hg0,hg1,c0,c1,c2⟩:=jog hans
   by_cases hall:[(x:Int),(y:Int),(z:Int)].all jbn=true
   ·have HU:Hid (UN (2 :: tl) 2 x y 0 z 0):=qay htl hall
    have HA:Hid ([(x:Int),(y:Int),(z:Int)].all jbn=true):=hall
    clear hans b2 htl hall
    go_wp2_with (first
     | (go_at_call 90;refine (jd8 g cap2 x y z _ c0 c1 c2).mono ?_;rintro e w3 ⟨rfl,rfl⟩;rw [HA.out])
     | (go_at_call 98;refine (jta g 0 cap2 x y z _ c0 c1 c2).mono ?_;rintro e w4 ⟨rfl,b4⟩;have r0:∀ i,i<5->w4.frozen? (aq w.heap.size i)=false:=(fun i hi=>(b4.frozen (p:=(aq w.heap.size i)) (show w.heap.size<w2.heap.size by omega)).trans (q0 i hi));have r1:∀ i,i<5->w4.cell? (aq w.heap.size i)=some (iv 0):=(fun i hi=>(b4.cell (p:=(aq w.heap.size i)) (show w.heap.size<w2.heap.size by omega)).trans (q1 i hi))))
    have bw4:Below w.heap.size w w4:=bw.trans (b4.mono (by omega))
    refine bodyPost_ret (v:=.tuple #[.agg #[iv 2,iv x,iv y,iv 0,iv z],iv 0]) (by simp [results,Tryz.results62,go_sem,r1]) rfl ⟨2,x,y,0,z,0,rfl,HU.out,?_⟩
    exact jb1 bw4 (Nat.le_refl _)
   ·have HU:Hid (UN (2 :: tl) 0 0 0 0 0 2):=jms (ms:=[x,y,z]) rfl htl (by simpa using hall)
    have HA:Hid ([(x:Int),(y:Int),(z:Int)].all jbn=false):=by unfold Hid;simpa using hall
    clear hans b2 htl hall
    go_wp2_with (go_at_call 90;refine (jd8 g cap2 x y z _ c0 c1 c2).mono ?_;rintro e w3 ⟨rfl,rfl⟩;rw [HA.out])
    refine bodyPost_ret (v:=.tuple #[.agg #[iv 0,iv 0,iv 0,iv 0,iv 0],iv 2]) (by simp [results,Tryz.results62,go_sem,q1]) rfl ⟨0,0,0,0,0,2,rfl,HU.out,?_⟩
    exact jb1 bw (Nat.le_refl _)
theorem jn5 (b off:Nat) (w:World) (h:jai w (some (aq b off)) 1 1 [2]) :
 Calls Tryz.prog 62 #[.slice (some (aq b off)) 1 1] w fun e w'=>∃ k t c u o err,e=.returned (.tuple #[.agg #[iv k,iv t,iv c,iv u,iv o],iv err])/\UN (2 :: []) k t c u o err/\Below w.heap.size w w':=by
 obtain ⟨_,_,_,hc0,HT⟩:=jev h
 have hbw:b<w.heap.size:=World.block_lt_of_cell? w _ hc0
 have HT':Hid (jai w (some (aq b off)) 0 0 []):=HT
 clear HT h
 go_enter Tryz.func62,Tryz.ntmps62
 go_wp2_with (go_at_call 96;refine (jm8 0 0 0 0 _).mono ?_;rintro e w1 ⟨rfl,rfl⟩)
 refine (jd7 _ _ _ [] _ (jbm HT'.out bL)).mono ?_
 rintro e w2 ⟨v,ok,rfl,hans,b2⟩
 have bw:Below w.heap.size w w2:=Below.trans bL (b2.mono (by simp<;>omega))
 have s2:w.heap.size+2<w2.heap.size:=by have:=b2.size;simp at this;omega
 have q0:∀ i,i<5->w2.frozen? (aq w.heap.size i)=false:=fun i hi=>(b2.frozen (p:=(aq w.heap.size i)) (by simp<;>omega)).trans (by simp [go_sem])
 have q1:∀ i,i<5->w2.cell? (aq w.heap.size i)=some (iv 0):=fun i hi=>(b2.cell (p:=(aq w.heap.size i)) (by simp<;>omega)).trans (by match i,hi with
  | 0,_=>simp [go_sem]
  | 1,_=>simp [go_sem]
  | 2,_=>simp [go_sem]
  | 3,_=>simp [go_sem]
  | 4,_=>simp [go_sem])
 cases ok with
 | false =>
   have HU:Hid (UN (2 :: []) 0 0 0 0 0 2):=js7 rfl (hans.2 rfl)
   clear hans b2
   go_wp2
   refine bodyPost_ret (v:=.tuple #[.agg #[iv 0,iv 0,iv 0,iv 0,iv 0],iv 2]) (by simp [results,Tryz.results62,go_sem,q1]) rfl ⟨0,0,0,0,0,2,rfl,HU.out,?_⟩
   exact jb1 bw (Nat.le_refl _)
 | true =>
   obtain ⟨x,y,z,g,cap2,htl,_⟩:=jog hans
   have:=jdy x
   have:=congrArg List.length htl
   simp [jct] at this
   omega
theorem qd2 (b off len cap:Nat) (tl:List Int) (w:World) (h:jai w (some (aq b off)) len cap (2 :: tl)) :
 Calls Tryz.prog 62 #[.slice (some (aq b off)) len cap] w fun e w'=>∃ k t c u o err,e=.returned (.tuple #[.agg #[iv k,iv t,iv c,iv u,iv o],iv err])/\UN (2 :: tl) k t c u o err/\Below w.heap.size w w':=by
 by_cases hc1:cap=1
 ·subst hc1
  have h1:=h.1
  have h2:=h.2.1
  simp at h1
  have hl:len=1:=by omega
  subst hl
  have ht:tl=[]:=List.eq_nil_of_length_eq_zero (by omega)
  subst ht
  exact jn5 b off w h
 ·exact jpe b off len cap tl w hc1 h
theorem jp8 (b off len cap:Nat) (tl:List Int) (w:World) (hc1:¬ cap=1) (h:jai w (some (aq b off)) len cap (3 :: tl)) :
 Calls Tryz.prog 62 #[.slice (some (aq b off)) len cap] w fun e w'=>∃ k t c u o err,e=.returned (.tuple #[.agg #[iv k,iv t,iv c,iv u,iv o],iv err])/\UN (3 :: tl) k t c u o err/\Below w.heap.size w w':=by
 obtain ⟨hl,hlc,hcap,hc0,HT⟩:=jev h
 have hbw:b<w.heap.size:=World.block_lt_of_cell? w _ hc0
 have hne:((len:Int)==0)=false:=by simp;omega
 have hpos:(0:Int)<(len:Int):=by omega
 have hpos1:(1:Int)<=(len:Int):=by omega
 rw [if_neg hc1] at HT
 have HT':Hid (jai w (some (aq b (off+1))) (len - 1) (cap - 1) tl):=HT
 clear HT h
 go_enter Tryz.func62,Tryz.ntmps62
 go_wp2_with (go_at_call 96;refine (jlr 0 0 0 0 _).mono ?_;rintro e w1 ⟨rfl,rfl⟩)
 refine (jd7 _ _ _ tl _ (jbm HT'.out bL)).mono ?_
 rintro e w2 ⟨v,ok,rfl,hans,b2⟩
 have bw:Below w.heap.size w w2:=Below.trans bL (b2.mono (by simp<;>omega))
 have s2:w.heap.size+2<w2.heap.size:=by have:=b2.size;simp at this;omega
 have q0:∀ i,i<5->w2.frozen? (aq w.heap.size i)=false:=fun i hi=>(b2.frozen (p:=(aq w.heap.size i)) (by simp<;>omega)).trans (by simp [go_sem])
 have q1:∀ i,i<5->w2.cell? (aq w.heap.size i)=some (iv 0):=fun i hi=>(b2.cell (p:=(aq w.heap.size i)) (by simp<;>omega)).trans (by match i,hi with
  | 0,_=>simp [go_sem]
  | 1,_=>simp [go_sem]
  | 2,_=>simp [go_sem]
  | 3,_=>simp [go_sem]
  | 4,_=>simp [go_sem])
 cases ok with
 | false =>
   have HU:Hid (UN (3 :: tl) 0 0 0 0 0 2):=js7 rfl (hans.2 rfl)
   clear hans b2
   go_wp2
   refine bodyPost_ret (v:=.tuple #[.agg #[iv 0,iv 0,iv 0,iv 0,iv 0],iv 2]) (by simp [results,Tryz.results62,go_sem,q1]) rfl ⟨0,0,0,0,0,2,rfl,HU.out,?_⟩
   exact jb1 bw (Nat.le_refl _)
 | true =>
   obtain ⟨x,y,z,g,cap2,htl,rfl,hg0,hg1,c0,c1,c2⟩:=jog hans
   by_cases hall:[(x:Int),(y:Int),(z:Int)].all jbn=true
   ·have HU:Hid (UN (3 :: tl) 3 x y 0 z 0):=qaw htl hall
    have HA:Hid ([(x:Int),(y:Int),(z:Int)].all jbn=true):=hall
    clear hans b2 htl hall
    go_wp2_with (first
     | (go_at_call 90;refine (jd8 g cap2 x y z _ c0 c1 c2).mono ?_;rintro e w3 ⟨rfl,rfl⟩;rw [HA.out])
     | (go_at_call 98;refine (jsy g 0 cap2 x y z _ c0 c1 c2).mono ?_;rintro e w4 ⟨rfl,b4⟩;have r0:∀ i,i<5->w4.frozen? (aq w.heap.size i)=false:=(fun i hi=>(b4.frozen (p:=(aq w.heap.size i)) (show w.heap.size<w2.heap.size by omega)).trans (q0 i hi));have r1:∀ i,i<5->w4.cell? (aq w.heap.size i)=some (iv 0):=(fun i hi=>(b4.cell (p:=(aq w.heap.size i)) (show w.heap.size<w2.heap.size by omega)).trans (q1 i hi))))
    have bw4:Below w.heap.size w w4:=bw.trans (b4.mono (by omega))
    refine bodyPost_ret (v:=.tuple #[.agg #[iv 3,iv x,iv y,iv 0,iv z],iv 0]) (by simp [results,Tryz.results62,go_sem,r1]) rfl ⟨3,x,y,0,z,0,rfl,HU.out,?_⟩
    exact jb1 bw4 (Nat.le_refl _)
   ·have HU:Hid (UN (3 :: tl) 0 0 0 0 0 2):=jms (ms:=[x,y,z]) rfl htl (by simpa using hall)
    have HA:Hid ([(x:Int),(y:Int),(z:Int)].all jbn=false):=by unfold Hid;simpa using hall
    clear hans b2 htl hall
    go_wp2_with (go_at_call 90;refine (jd8 g cap2 x y z _ c0 c1 c2).mono ?_;rintro e w3 ⟨rfl,rfl⟩;rw [HA.out])
    refine bodyPost_ret (v:=.tuple #[.agg #[iv 0,iv 0,iv 0,iv 0,iv 0],iv 2]) (by simp [results,Tryz.results62,go_sem,q1]) rfl ⟨0,0,0,0,0,2,rfl,HU.out,?_⟩
    exact jb1 bw (Nat.le_refl _)
theorem jnh (b off:Nat) (w:World) (h:jai w (some (aq b off)) 1 1 [3]) :
 Calls Tryz.prog 62 #[.slice (some (aq b off)) 1 1] w fun e w'=>∃ k t c u o err,e=.returned (.tuple #[.agg #[iv k,iv t,iv c,iv u,iv o],iv err])/\UN (3 :: []) k t c u o err/\Below w.heap.size w w':=by
 obtain ⟨_,_,_,hc0,HT⟩:=jev h
 have hbw:b<w.heap.size:=World.block_lt_of_cell? w _ hc0
 have HT':Hid (jai w (some (aq b off)) 0 0 []):=HT
 clear HT h
 go_enter Tryz.func62,Tryz.ntmps62
 go_wp2_with (go_at_call 96;refine (jlr 0 0 0 0 _).mono ?_;rintro e w1 ⟨rfl,rfl⟩)
 refine (jd7 _ _ _ [] _ (jbm HT'.out bL)).mono ?_
 rintro e w2 ⟨v,ok,rfl,hans,b2⟩
 have bw:Below w.heap.size w w2:=Below.trans bL (b2.mono (by simp<;>omega))
 have s2:w.heap.size+2<w2.heap.size:=by have:=b2.size;simp at this;omega
 have q0:∀ i,i<5->w2.frozen? (aq w.heap.size i)=false:=fun i hi=>(b2.frozen (p:=(aq w.heap.size i)) (by simp<;>omega)).trans (by simp [go_sem])
 have q1:∀ i,i<5->w2.cell? (aq w.heap.size i)=some (iv 0):=fun i hi=>(b2.cell (p:=(aq w.heap.size i)) (by simp<;>omega)).trans (by match i,hi with
  | 0,_=>simp [go_sem]
  | 1,_=>simp [go_sem]
  | 2,_=>simp [go_sem]
  | 3,_=>simp [go_sem]
  | 4,_=>simp [go_sem])
 cases ok with
 | false =>
   have HU:Hid (UN (3 :: []) 0 0 0 0 0 2):=js7 rfl (hans.2 rfl)
   clear hans b2
   go_wp2
   refine bodyPost_ret (v:=.tuple #[.agg #[iv 0,iv 0,iv 0,iv 0,iv 0],iv 2]) (by simp [results,Tryz.results62,go_sem,q1]) rfl ⟨0,0,0,0,0,2,rfl,HU.out,?_⟩
   exact jb1 bw (Nat.le_refl _)
 | true =>
   obtain ⟨x,y,z,g,cap2,htl,_⟩:=jog hans
   have:=jdy x
   have:=congrArg List.length htl
   simp [jct] at this
   omega
theorem qbg (b off len cap:Nat) (tl:List Int) (w:World) (h:jai w (some (aq b off)) len cap (3 :: tl)) :
 Calls Tryz.prog 62 #[.slice (some (aq b off)) len cap] w fun e w'=>∃ k t c u o err,e=.returned (.tuple #[.agg #[iv k,iv t,iv c,iv u,iv o],iv err])/\UN (3 :: tl) k t c u o err/\Below w.heap.size w w':=by
 by_cases hc1:cap=1
 ·subst hc1
  have h1:=h.1
  have h2:=h.2.1
  simp at h1
  have hl:len=1:=by omega
  subst hl
  have ht:tl=[]:=List.eq_nil_of_length_eq_zero (by omega)
  subst ht
  exact jnh b off w h
 ·exact jp8 b off len cap tl w hc1 h
theorem jpg (b off len cap:Nat) (tl:List Int) (w:World) (hc1:¬ cap=1) (h:jai w (some (aq b off)) len cap (4 :: tl)) :
 Calls Tryz.prog 62 #[.slice (some (aq b off)) len cap] w fun e w'=>∃ k t c u o err,e=.returned (.tuple #[.agg #[iv k,iv t,iv c,iv u,iv o],iv err])/\UN (4 :: tl) k t c u o err/\Below w.heap.size w w':=by
 obtain ⟨hl,hlc,hcap,hc0,HT⟩:=jev h
 have hbw:b<w.heap.size:=World.block_lt_of_cell? w _ hc0
 have hne:((len:Int)==0)=false:=by simp;omega
 have hpos:(0:Int)<(len:Int):=by omega
 have hpos1:(1:Int)<=(len:Int):=by omega
 rw [if_neg hc1] at HT
 have HT':Hid (jai w (some (aq b (off+1))) (len - 1) (cap - 1) tl):=HT
 clear HT h
 go_enter Tryz.func62,Tryz.ntmps62
 go_wp2_with (go_at_call 96;refine (jmu 0 0 0 0 _).mono ?_;rintro e w1 ⟨rfl,rfl⟩)
 refine (jia _ _ _ tl _ (jbm HT'.out bL)).mono ?_
 rintro e w2 ⟨v,ok,rfl,hans,b2⟩
 have bw:Below w.heap.size w w2:=Below.trans bL (b2.mono (by simp<;>omega))
 have s2:w.heap.size+2<w2.heap.size:=by have:=b2.size;simp at this;omega
 have q0:∀ i,i<5->w2.frozen? (aq w.heap.size i)=false:=fun i hi=>(b2.frozen (p:=(aq w.heap.size i)) (by simp<;>omega)).trans (by simp [go_sem])
 have q1:∀ i,i<5->w2.cell? (aq w.heap.size i)=some (iv 0):=fun i hi=>(b2.cell (p:=(aq w.heap.size i)) (by simp<;>omega)).trans (by match i,hi with
  | 0,_=>simp [go_sem]
  | 1,_=>simp [go_sem]
  | 2,_=>simp [go_sem]
  | 3,_=>simp [go_sem]
  | 4,_=>simp [go_sem])
 cases ok with
 | false =>
   have HU:Hid (UN (4 :: tl) 0 0 0 0 0 2):=js7 rfl (hans.2 rfl)
   clear hans b2
   go_wp2
   refine bodyPost_ret (v:=.tuple #[.agg #[iv 0,iv 0,iv 0,iv 0,iv 0],iv 2]) (by simp [results,Tryz.results62,go_sem,q1]) rfl ⟨0,0,0,0,0,2,rfl,HU.out,?_⟩
   exact jb1 bw (Nat.le_refl _)
 | true =>
   obtain ⟨x,y,g,cap2,htl,rfl,hg0,hg1,c0,c1⟩:=qdf hans
   by_cases hall:[(x:Int),(y:Int)].all jbn=true
   ·have HU:Hid (UN (4 :: tl) 4 0 x 0 y 0):=qau htl hall
    have HA:Hid ([(x:Int),(y:Int)].all jbn=true):=hall
    clear hans b2 htl hall
    go_wp2_with (first
     | (go_at_call 90;refine (jit g cap2 x y _ c0 c1).mono ?_;rintro e w3 ⟨rfl,rfl⟩;rw [HA.out])
     | (go_at_call 98;refine (jt6 g 0 cap2 x y _ c0 c1).mono ?_;rintro e w4 ⟨rfl,b4⟩;have r0:∀ i,i<5->w4.frozen? (aq w.heap.size i)=false:=(fun i hi=>(b4.frozen (p:=(aq w.heap.size i)) (show w.heap.size<w2.heap.size by omega)).trans (q0 i hi));have r1:∀ i,i<5->w4.cell? (aq w.heap.size i)=some (iv 0):=(fun i hi=>(b4.cell (p:=(aq w.heap.size i)) (show w.heap.size<w2.heap.size by omega)).trans (q1 i hi))))
    have bw4:Below w.heap.size w w4:=bw.trans (b4.mono (by omega))
    refine bodyPost_ret (v:=.tuple #[.agg #[iv 4,iv 0,iv x,iv 0,iv y],iv 0]) (by simp [results,Tryz.results62,go_sem,r1]) rfl ⟨4,0,x,0,y,0,rfl,HU.out,?_⟩
    exact jb1 bw4 (Nat.le_refl _)
   ·have HU:Hid (UN (4 :: tl) 0 0 0 0 0 2):=jms (ms:=[x,y]) rfl htl (by simpa using hall)
    have HA:Hid ([(x:Int),(y:Int)].all jbn=false):=by unfold Hid;simpa using hall
    clear hans b2 htl hall
    go_wp2_with (go_at_call 90;refine (jit g cap2 x y _ c0 c1).mono ?_;rintro e w3 ⟨rfl,rfl⟩;rw [HA.out])
    refine bodyPost_ret (v:=.tuple #[.agg #[iv 0,iv 0,iv 0,iv 0,iv 0],iv 2]) (by simp [results,Tryz.results62,go_sem,q1]) rfl ⟨0,0,0,0,0,2,rfl,HU.out,?_⟩
    exact jb1 bw (Nat.le_refl _)
theorem jng (b off:Nat) (w:World) (h:jai w (some (aq b off)) 1 1 [4]) :
 Calls Tryz.prog 62 #[.slice (some (aq b off)) 1 1] w fun e w'=>∃ k t c u o err,e=.returned (.tuple #[.agg #[iv k,iv t,iv c,iv u,iv o],iv err])/\UN (4 :: []) k t c u o err/\Below w.heap.size w w':=by
 obtain ⟨_,_,_,hc0,HT⟩:=jev h
 have hbw:b<w.heap.size:=World.block_lt_of_cell? w _ hc0
 have HT':Hid (jai w (some (aq b off)) 0 0 []):=HT
 clear HT h
 go_enter Tryz.func62,Tryz.ntmps62
 go_wp2_with (go_at_call 96;refine (jmu 0 0 0 0 _).mono ?_;rintro e w1 ⟨rfl,rfl⟩)
 refine (jia _ _ _ [] _ (jbm HT'.out bL)).mono ?_
 rintro e w2 ⟨v,ok,rfl,hans,b2⟩
 have bw:Below w.heap.size w w2:=Below.trans bL (b2.mono (by simp<;>omega))
 have s2:w.heap.size+2<w2.heap.size:=by have:=b2.size;simp at this;omega
 have q0:∀ i,i<5->w2.frozen? (aq w.heap.size i)=false:=fun i hi=>(b2.frozen (p:=(aq w.heap.size i)) (by simp<;>omega)).trans (by simp [go_sem])
 have q1:∀ i,i<5->w2.cell? (aq w.heap.size i)=some (iv 0):=fun i hi=>(b2.cell (p:=(aq w.heap.size i)) (by simp<;>omega)).trans (by match i,hi with
  | 0,_=>simp [go_sem]
  | 1,_=>simp [go_sem]
  | 2,_=>simp [go_sem]
  | 3,_=>simp [go_sem]
  | 4,_=>simp [go_sem])
 cases ok with
 | false =>
   have HU:Hid (UN (4 :: []) 0 0 0 0 0 2):=js7 rfl (hans.2 rfl)
   clear hans b2
   go_wp2
   refine bodyPost_ret (v:=.tuple #[.agg #[iv 0,iv 0,iv 0,iv 0,iv 0],iv 2]) (by simp [results,Tryz.results62,go_sem,q1]) rfl ⟨0,0,0,0,0,2,rfl,HU.out,?_⟩
   exact jb1 bw (Nat.le_refl _)
 | true =>
   obtain ⟨x,y,g,cap2,htl,_⟩:=qdf hans
   have:=jdy x
   have:=congrArg List.length htl
   simp [jct] at this
   omega
theorem qd1 (b off len cap:Nat) (tl:List Int) (w:World) (h:jai w (some (aq b off)) len cap (4 :: tl)) :
 Calls Tryz.prog 62 #[.slice (some (aq b off)) len cap] w fun e w'=>∃ k t c u o err,e=.returned (.tuple #[.agg #[iv k,iv t,iv c,iv u,iv o],iv err])/\UN (4 :: tl) k t c u o err/\Below w.heap.size w w':=by
 by_cases hc1:cap=1
 ·subst hc1
  have h1:=h.1
  have h2:=h.2.1
  simp at h1
  have hl:len=1:=by omega
  subst hl
  have ht:tl=[]:=List.eq_nil_of_length_eq_zero (by omega)
  subst ht
  exact jng b off w h
 ·exact jpg b off len cap tl w hc1 h
theorem jwe (a:Option Addr) (cap:Nat) (w:World) :
 Calls Tryz.prog 62 #[.slice a 0 cap] w fun e w'=>∃ k t c u o err,e=.returned (.tuple #[.agg #[iv k,iv t,iv c,iv u,iv o],iv err])/\UN [] k t c u o err/\Below w.heap.size w w':=by
 go_enter Tryz.func62,Tryz.ntmps62
 go_wp2
 refine bodyPost_ret (v:=.tuple #[.agg #[iv 0,iv 0,iv 0,iv 0,iv 0],iv 2]) (by simp [results,Tryz.results62,go_sem]) rfl ⟨0,0,0,0,0,2,rfl,qgj,?_⟩
 exact (Below.refl _ _).alloc (Nat.le_refl _) _
theorem jru (b off len cap:Nat) (x:Int) (tl:List Int) (w:World) (h1:¬ x=1) (h2:¬ x=2) (h3:¬ x=3) (h4:¬ x=4) (h:jai w (some (aq b off)) len cap (x :: tl)) :
 Calls Tryz.prog 62 #[.slice (some (aq b off)) len cap] w fun e w'=>∃ k t c u o err,e=.returned (.tuple #[.agg #[iv k,iv t,iv c,iv u,iv o],iv err])/\UN (x :: tl) k t c u o err/\Below w.heap.size w w':=by
 have HU:Hid (UN (x :: tl) 0 0 0 0 0 2):=jzl (by simp [cnt,h1,h2,h3,h4])
 have hxb:=h.2.2.2.1 x (by simp)
 obtain ⟨hl,hlc,hcap,hc0,HT⟩:=jev h
 obtain ⟨hx0,hx1⟩:=hxb
 have hbw:b<w.heap.size:=World.block_lt_of_cell? w _ hc0
 have hne:((len:Int)==0)=false:=by simp;omega
 have hpos:(0:Int)<(len:Int):=by omega
 clear HT h
 go_enter Tryz.func62,Tryz.ntmps62
 go_wp2_with (go_at_call 96;refine (jqp x 0 0 0 0 _ h1 h2 h3 h4).mono ?_;rintro e w1 ⟨rfl,rfl⟩)
 refine bodyPost_ret (v:=.tuple #[.agg #[iv 0,iv 0,iv 0,iv 0,iv 0],iv 2]) (by simp [results,Tryz.results62,go_sem]) rfl ⟨0,0,0,0,0,2,rfl,HU.out,?_⟩
 exact bL
theorem jwi (a:Option Addr) (len cap:Nat) (l:List Int) (w:World) (h:jai w a len cap l) :
 Calls Tryz.prog 62 #[.slice a len cap] w fun e w'=>∃ k t c u o err,e=.returned (.tuple #[.agg #[iv k,iv t,iv c,iv u,iv o],iv err])/\UN l k t c u o err/\Below w.heap.size w w':=by
 match l,h with
 | [],h =>
   have h1:=h.1
   simp at h1
   subst h1
   exact jwe a cap w
 | x :: tl,h =>
   obtain ⟨b,off,rfl,_⟩:=h.2.2.2.2 (by simp)
   by_cases h1:x=1
   ·subst h1;exact qbb b off len cap tl w h
   by_cases h2:x=2
   ·subst h2;exact qd2 b off len cap tl w h
   by_cases h3:x=3
   ·subst h3;exact qbg b off len cap tl w h
   by_cases h4:x=4
   ·subst h4;exact qd1 b off len cap tl w h
   ·exact jru b off len cap x tl w h1 h2 h3 h4 h
theorem juk:∀ (a b:List Int),(∀ x∈a,0<=x/\x<256)->(∀ x∈b,0<=x/\x<256)->(a.map fun n=>UInt8.ofNat n.toNat)=(b.map fun n=>UInt8.ofNat n.toNat)->a=b
 | [],[],_,_,_=>rfl
 | [],_ :: _,_,_,h=>by simp at h
 | _ :: _,[],_,_,h=>by simp at h
 | x :: a,y :: b,ha,hb,h=>by
   simp only [List.map_cons,List.cons.injEq] at h
   have hx:=ha x (by simp)
   have hy:=hb y (by simp)
   have e:x=y:=by
    have:=congrArg UInt8.toNat h.1
    simp at this
    omega
   rw [e,juk a b (fun z hz=>ha z (by simp [hz])) (fun z hz=>hb z (by simp [hz])) h.2]
end Go.Proofs.YtfhncfghblkgeaaGreat
