import Derived.Test.YtfhncfghblkgeabGreatL38
set_option maxRecDepth 100000
set_option maxHeartbeats 2000000
namespace Go.Proofs.YtfhncfghblkgeabGreat
open Go.RowKit
theorem nU {w W:World} {b:Nat} {O:Obj} {v0 v1 v2 v3:Value} (h:Below w.heap.size w W) (hb:w.heap.size<=b) (hz:w.heap.size<=W.heap.size):Below w.heap.size w (((((W.sc b 0 v0).sc b 1 v1).sc b 2 v2).sc b 3 v3).alloc O) :=
 (jM h hb).alloc (by simp [World.setCell];exact hz) _
theorem Yy {w W:World} {b:Nat} {O O':Obj} {v0 v1 v2 v3:Value} (h:Below w.heap.size w W) (hb:w.heap.size<=b) (hz:w.heap.size<=W.heap.size):Below w.heap.size w ((((((W.sc b 0 v0).sc b 1 v1).sc b 2 v2).sc b 3 v3).alloc O).alloc O') :=
 (nU h hb hz).alloc (by simp [World.setCell];omega) _
theorem Az (x:Nat) (k t c u o:Int) (w:World)
 (HF:Hid (∀ W,Below w.heap.size w W->Ca 66 #[pt x 0,.agg #[iv k,iv t,iv c,iv u,iv o]] W fun e w'=>e=.returned (.tuple #[.agg #[iv 0,iv 0,iv 0,iv 0,iv 0,iv 0],.bool false])/\Below W.heap.size W w')) :
 Ca 43 #[pt x 0,.agg #[iv k,iv t,iv c,iv u,iv o]] w fun e w'=>e=.returned (.agg #[iv 19,iv 0,iv 0,iv 0])/\Below w.heap.size w w':=by
 go_enter Tryz.func43,Tryz.ntmps43
 have qb:=zq1 w #[iv k,iv t,iv c,iv u,iv o] 39 #[iv 0,iv 0,iv 0,iv 0] 33
 have rb:=zq2 w #[iv k,iv t,iv c,iv u,iv o] 39 #[iv 0,iv 0,iv 0,iv 0] 33
 have hbl:=zq3 w #[iv k,iv t,iv c,iv u,iv o] 39 #[iv 0,iv 0,iv 0,iv 0] 33
 go_wp2_with fail
 generalize (w.alloc (.cells #[iv k,iv t,iv c,iv u,iv o] 39)).alloc (.cells #[iv 0,iv 0,iv 0,iv 0] 33)=W0 at qb rb hbl ⊢
 have lw:w.heap.size<W0.heap.size:=(blt qb.out)
 have lv:w.heap.size+1<W0.heap.size:=(blt rb.out)
 refine (HF.out _ hbl.out).mono ?_
 rintro e W1 ⟨rfl,b⟩
 have hbl1:Hid (Below w.heap.size w W1):=uL hbl.out (b.mono hbl.out.size)
 have rb1:Hid _:=(b.block (w.heap.size+1) lv).trans rb.out
 have lv1:w.heap.size+1<W1.heap.size:=uB lv b.size
 have lw1:w.heap.size<W1.heap.size:=uO
 clear b qb rb hbl lw lv HF
 obtain ⟨s0,s1,s2,s3⟩:=qC rb1.out
 have f0:=qA rb1.out 0
 have f1:=qA rb1.out 1
 have f2:=qA rb1.out 2
 have f3:=qA rb1.out 3
 go_wp2
 refine uK (v:=.agg #[iv 19,iv 0,iv 0,iv 0]) (by simp [results,Tryz.results43,go_sem,s0,s1,s2,s3,lv1]) rfl ⟨rfl,?_⟩
 exact nU hbl1.out uO uO
theorem Aj (x:Nat) (k t c u o num cust units cents up:Int) (w:World)
 (HF:Hid (∀ W,Below w.heap.size w W->Ca 66 #[pt x 0,.agg #[iv k,iv t,iv c,iv u,iv o]] W fun e w'=>e=.returned (.tuple #[.agg #[iv num,iv cust,iv units,iv 12,iv cents,iv up],.bool true])/\Below W.heap.size W w')) :
 Ca 43 #[pt x 0,.agg #[iv k,iv t,iv c,iv u,iv o]] w fun e w'=>e=.returned (.agg #[iv 12,iv num,iv 0,iv up])/\Below w.heap.size w w':=by
 go_enter Tryz.func43,Tryz.ntmps43
 have qb:=zq1 w #[iv k,iv t,iv c,iv u,iv o] 39 #[iv 0,iv 0,iv 0,iv 0] 33
 have rb:=zq2 w #[iv k,iv t,iv c,iv u,iv o] 39 #[iv 0,iv 0,iv 0,iv 0] 33
 have hbl:=zq3 w #[iv k,iv t,iv c,iv u,iv o] 39 #[iv 0,iv 0,iv 0,iv 0] 33
 go_wp2_with fail
 generalize (w.alloc (.cells #[iv k,iv t,iv c,iv u,iv o] 39)).alloc (.cells #[iv 0,iv 0,iv 0,iv 0] 33)=W0 at qb rb hbl ⊢
 have lw:w.heap.size<W0.heap.size:=(blt qb.out)
 have lv:w.heap.size+1<W0.heap.size:=(blt rb.out)
 refine (HF.out _ hbl.out).mono ?_
 rintro e W1 ⟨rfl,b⟩
 have hbl1:Hid (Below w.heap.size w W1):=uL hbl.out (b.mono hbl.out.size)
 have rb1:Hid _:=(b.block (w.heap.size+1) lv).trans rb.out
 have lv1:w.heap.size+1<W1.heap.size:=uB lv b.size
 have lw1:w.heap.size<W1.heap.size:=uO
 clear b qb rb hbl lw lv HF
 obtain ⟨s0,s1,s2,s3⟩:=qC rb1.out
 have f0:=qA rb1.out 0
 have f1:=qA rb1.out 1
 have f2:=qA rb1.out 2
 have f3:=qA rb1.out 3
 go_wp2
 refine uK (v:=.agg #[iv 12,iv num,iv 0,iv up]) (by simp [results,Tryz.results43,go_sem,s0,s1,s2,s3,lv1,lw1]) rfl ⟨rfl,?_⟩
 exact Yy hbl1.out uO uO
theorem Bd (x:Nat) (k t c u o num cust units cents up:Int) (w:World)
 (HF:Hid (∀ W,Below w.heap.size w W->Ca 66 #[pt x 0,.agg #[iv k,iv t,iv c,iv u,iv o]] W fun e w'=>e=.returned (.tuple #[.agg #[iv num,iv cust,iv units,iv 13,iv cents,iv up],.bool true])/\Below W.heap.size W w')) :
 Ca 43 #[pt x 0,.agg #[iv k,iv t,iv c,iv u,iv o]] w fun e w'=>e=.returned (.agg #[iv 13,iv num,iv cents,iv up])/\Below w.heap.size w w':=by
 go_enter Tryz.func43,Tryz.ntmps43
 have qb:=zq1 w #[iv k,iv t,iv c,iv u,iv o] 39 #[iv 0,iv 0,iv 0,iv 0] 33
 have rb:=zq2 w #[iv k,iv t,iv c,iv u,iv o] 39 #[iv 0,iv 0,iv 0,iv 0] 33
 have hbl:=zq3 w #[iv k,iv t,iv c,iv u,iv o] 39 #[iv 0,iv 0,iv 0,iv 0] 33
 go_wp2_with fail
 generalize (w.alloc (.cells #[iv k,iv t,iv c,iv u,iv o] 39)).alloc (.cells #[iv 0,iv 0,iv 0,iv 0] 33)=W0 at qb rb hbl ⊢
 have lw:w.heap.size<W0.heap.size:=(blt qb.out)
 have lv:w.heap.size+1<W0.heap.size:=(blt rb.out)
 refine (HF.out _ hbl.out).mono ?_
 rintro e W1 ⟨rfl,b⟩
 have hbl1:Hid (Below w.heap.size w W1):=uL hbl.out (b.mono hbl.out.size)
 have rb1:Hid _:=(b.block (w.heap.size+1) lv).trans rb.out
 have lv1:w.heap.size+1<W1.heap.size:=uB lv b.size
 have lw1:w.heap.size<W1.heap.size:=uO
 clear b qb rb hbl lw lv HF
 obtain ⟨s0,s1,s2,s3⟩:=qC rb1.out
 have f0:=qA rb1.out 0
 have f1:=qA rb1.out 1
 have f2:=qA rb1.out 2
 have f3:=qA rb1.out 3
 go_wp2
 refine uK (v:=.agg #[iv 13,iv num,iv cents,iv up]) (by simp [results,Tryz.results43,go_sem,s0,s1,s2,s3,lv1,lw1]) rfl ⟨rfl,?_⟩
 exact Yy hbl1.out uO uO
theorem Tw (x:Nat) (k t c u o num cust units cents up m:Int) (w:World) (hm:IntKind.i64.wrap (units * cents)=m)
 (HF:Hid (∀ W,Below w.heap.size w W->Ca 66 #[pt x 0,.agg #[iv k,iv t,iv c,iv u,iv o]] W fun e w'=>e=.returned (.tuple #[.agg #[iv num,iv cust,iv units,iv 14,iv cents,iv up],.bool true])/\Below W.heap.size W w')) :
 Ca 43 #[pt x 0,.agg #[iv k,iv t,iv c,iv u,iv o]] w fun e w'=>e=.returned (.agg #[iv 14,iv num,iv m,iv 0])/\Below w.heap.size w w':=by
 go_enter Tryz.func43,Tryz.ntmps43
 have qb:=zq1 w #[iv k,iv t,iv c,iv u,iv o] 39 #[iv 0,iv 0,iv 0,iv 0] 33
 have rb:=zq2 w #[iv k,iv t,iv c,iv u,iv o] 39 #[iv 0,iv 0,iv 0,iv 0] 33
 have hbl:=zq3 w #[iv k,iv t,iv c,iv u,iv o] 39 #[iv 0,iv 0,iv 0,iv 0] 33
 go_wp2_with fail
 generalize (w.alloc (.cells #[iv k,iv t,iv c,iv u,iv o] 39)).alloc (.cells #[iv 0,iv 0,iv 0,iv 0] 33)=W0 at qb rb hbl ⊢
 have lw:w.heap.size<W0.heap.size:=(blt qb.out)
 have lv:w.heap.size+1<W0.heap.size:=(blt rb.out)
 refine (HF.out _ hbl.out).mono ?_
 rintro e W1 ⟨rfl,b⟩
 have hbl1:Hid (Below w.heap.size w W1):=uL hbl.out (b.mono hbl.out.size)
 have rb1:Hid _:=(b.block (w.heap.size+1) lv).trans rb.out
 have lv1:w.heap.size+1<W1.heap.size:=uB lv b.size
 have lw1:w.heap.size<W1.heap.size:=uO
 clear b qb rb hbl lw lv HF
 obtain ⟨s0,s1,s2,s3⟩:=qC rb1.out
 have f0:=qA rb1.out 0
 have f1:=qA rb1.out 1
 have f2:=qA rb1.out 2
 have f3:=qA rb1.out 3
 go_wp2
 refine uK (v:=.agg #[iv 14,iv num,iv m,iv 0]) (by simp [results,Tryz.results43,go_sem,s0,s1,s2,s3,lv1,lw1]) rfl ⟨rfl,?_⟩
 exact Yy hbl1.out uO uO
theorem Gm (x:Nat) (k t c u o num cust units cents up st:Int) (w:World) (q1:(st==12)=false) (q2:(st==13)=false) (q3:(st==14)=false)
 (HF:Hid (∀ W,Below w.heap.size w W->Ca 66 #[pt x 0,.agg #[iv k,iv t,iv c,iv u,iv o]] W fun e w'=>e=.returned (.tuple #[.agg #[iv num,iv cust,iv units,iv st,iv cents,iv up],.bool true])/\Below W.heap.size W w')) :
 Ca 43 #[pt x 0,.agg #[iv k,iv t,iv c,iv u,iv o]] w fun e w'=>e=.returned (.agg #[iv st,iv num,iv 0,iv 0])/\Below w.heap.size w w':=by
 go_enter Tryz.func43,Tryz.ntmps43
 have qb:=zq1 w #[iv k,iv t,iv c,iv u,iv o] 39 #[iv 0,iv 0,iv 0,iv 0] 33
 have rb:=zq2 w #[iv k,iv t,iv c,iv u,iv o] 39 #[iv 0,iv 0,iv 0,iv 0] 33
 have hbl:=zq3 w #[iv k,iv t,iv c,iv u,iv o] 39 #[iv 0,iv 0,iv 0,iv 0] 33
 go_wp2_with fail
 generalize (w.alloc (.cells #[iv k,iv t,iv c,iv u,iv o] 39)).alloc (.cells #[iv 0,iv 0,iv 0,iv 0] 33)=W0 at qb rb hbl ⊢
 have lw:w.heap.size<W0.heap.size:=(blt qb.out)
 have lv:w.heap.size+1<W0.heap.size:=(blt rb.out)
 refine (HF.out _ hbl.out).mono ?_
 rintro e W1 ⟨rfl,b⟩
 have hbl1:Hid (Below w.heap.size w W1):=uL hbl.out (b.mono hbl.out.size)
 have rb1:Hid _:=(b.block (w.heap.size+1) lv).trans rb.out
 have lv1:w.heap.size+1<W1.heap.size:=uB lv b.size
 have lw1:w.heap.size<W1.heap.size:=uO
 clear b qb rb hbl lw lv HF
 obtain ⟨s0,s1,s2,s3⟩:=qC rb1.out
 have f0:=qA rb1.out 0
 have f1:=qA rb1.out 1
 have f2:=qA rb1.out 2
 have f3:=qA rb1.out 3
 go_wp2
 refine uK (v:=.agg #[iv st,iv num,iv 0,iv 0]) (by simp [results,Tryz.results43,go_sem,s0,s1,s2,s3,lv1,lw1]) rfl ⟨rfl,?_⟩
 exact Yy hbl1.out uO uO
theorem Qw (x:Nat) (k t c u o:Int) (w:World)
 (HF:Hid (∀ W,Below w.heap.size w W->Ca 66 #[pt x 0,.agg #[iv k,iv t,iv c,iv u,iv o]] W fun e w'=>e=.returned (.tuple #[.agg #[iv 0,iv 0,iv 0,iv 0,iv 0,iv 0],.bool false])/\Below W.heap.size W w')) :
 Ca 97 #[pt x 0,.agg #[iv k,iv t,iv c,iv u,iv o]] w fun e w'=>e=.returned (.agg #[iv 9,iv 0,iv 0,iv 0])/\Below w.heap.size w w':=by
 go_enter Tryz.func97,Tryz.ntmps97
 have qb:=zq1 w #[iv k,iv t,iv c,iv u,iv o] 39 #[iv 0,iv 0,iv 0,iv 0] 33
 have rb:=zq2 w #[iv k,iv t,iv c,iv u,iv o] 39 #[iv 0,iv 0,iv 0,iv 0] 33
 have hbl:=zq3 w #[iv k,iv t,iv c,iv u,iv o] 39 #[iv 0,iv 0,iv 0,iv 0] 33
 go_wp2_with fail
 generalize (w.alloc (.cells #[iv k,iv t,iv c,iv u,iv o] 39)).alloc (.cells #[iv 0,iv 0,iv 0,iv 0] 33)=W0 at qb rb hbl ⊢
 have lw:w.heap.size<W0.heap.size:=(blt qb.out)
 have lv:w.heap.size+1<W0.heap.size:=(blt rb.out)
 refine (HF.out _ hbl.out).mono ?_
 rintro e W1 ⟨rfl,b⟩
 have hbl1:Hid (Below w.heap.size w W1):=uL hbl.out (b.mono hbl.out.size)
 have rb1:Hid _:=(b.block (w.heap.size+1) lv).trans rb.out
 have lv1:w.heap.size+1<W1.heap.size:=uB lv b.size
 have lw1:w.heap.size<W1.heap.size:=uO
 clear b qb rb hbl lw lv HF
 obtain ⟨s0,s1,s2,s3⟩:=qC rb1.out
 have f0:=qA rb1.out 0
 have f1:=qA rb1.out 1
 have f2:=qA rb1.out 2
 have f3:=qA rb1.out 3
 go_wp2
 refine uK (v:=.agg #[iv 9,iv 0,iv 0,iv 0]) (by simp [results,Tryz.results97,go_sem,s0,s1,s2,s3,lv1]) rfl ⟨rfl,?_⟩
 exact nU hbl1.out uO uO
theorem Qj (x:Nat) (k t c u o num cust units cents up st:Int) (w:World) (q3:(st != 13)=true)
 (HF:Hid (∀ W,Below w.heap.size w W->Ca 66 #[pt x 0,.agg #[iv k,iv t,iv c,iv u,iv o]] W fun e w'=>e=.returned (.tuple #[.agg #[iv num,iv cust,iv units,iv st,iv cents,iv up],.bool true])/\Below W.heap.size W w')) :
 Ca 97 #[pt x 0,.agg #[iv k,iv t,iv c,iv u,iv o]] w fun e w'=>e=.returned (.agg #[iv 9,iv 0,iv 0,iv 0])/\Below w.heap.size w w':=by
 go_enter Tryz.func97,Tryz.ntmps97
 have qb:=zq1 w #[iv k,iv t,iv c,iv u,iv o] 39 #[iv 0,iv 0,iv 0,iv 0] 33
 have rb:=zq2 w #[iv k,iv t,iv c,iv u,iv o] 39 #[iv 0,iv 0,iv 0,iv 0] 33
 have hbl:=zq3 w #[iv k,iv t,iv c,iv u,iv o] 39 #[iv 0,iv 0,iv 0,iv 0] 33
 go_wp2_with fail
 generalize (w.alloc (.cells #[iv k,iv t,iv c,iv u,iv o] 39)).alloc (.cells #[iv 0,iv 0,iv 0,iv 0] 33)=W0 at qb rb hbl ⊢
 have lw:w.heap.size<W0.heap.size:=(blt qb.out)
 have lv:w.heap.size+1<W0.heap.size:=(blt rb.out)
 refine (HF.out _ hbl.out).mono ?_
 rintro e W1 ⟨rfl,b⟩
 have hbl1:Hid (Below w.heap.size w W1):=uL hbl.out (b.mono hbl.out.size)
 have rb1:Hid _:=(b.block (w.heap.size+1) lv).trans rb.out
 have lv1:w.heap.size+1<W1.heap.size:=uB lv b.size
 have lw1:w.heap.size<W1.heap.size:=uO
 clear b qb rb hbl lw lv HF
 obtain ⟨s0,s1,s2,s3⟩:=qC rb1.out
 have f0:=qA rb1.out 0
 have f1:=qA rb1.out 1
 have f2:=qA rb1.out 2
 have f3:=qA rb1.out 3
 go_wp2
 refine uK (v:=.agg #[iv 9,iv 0,iv 0,iv 0]) (by simp [results,Tryz.results97,go_sem,s0,s1,s2,s3,lv1]) rfl ⟨rfl,?_⟩
 exact nU hbl1.out uO uO
theorem Uh (x:Nat) (k t c u o:Int) (w:World)
 (HF:Hid (∀ W,Below w.heap.size w W->Ca 66 #[pt x 0,.agg #[iv k,iv t,iv c,iv u,iv o]] W fun e w'=>e=.returned (.tuple #[.agg #[iv 0,iv 0,iv 0,iv 0,iv 0,iv 0],.bool false])/\Below W.heap.size W w')) :
 Ca 98 #[pt x 0,.agg #[iv k,iv t,iv c,iv u,iv o]] w fun e w'=>e=.returned (.agg #[iv 9,iv 0,iv 0,iv 0])/\Below w.heap.size w w':=by
 go_enter Tryz.func98,Tryz.ntmps98
 have qb:=zq1 w #[iv k,iv t,iv c,iv u,iv o] 39 #[iv 0,iv 0,iv 0,iv 0] 33
 have rb:=zq2 w #[iv k,iv t,iv c,iv u,iv o] 39 #[iv 0,iv 0,iv 0,iv 0] 33
 have hbl:=zq3 w #[iv k,iv t,iv c,iv u,iv o] 39 #[iv 0,iv 0,iv 0,iv 0] 33
 go_wp2_with fail
 generalize (w.alloc (.cells #[iv k,iv t,iv c,iv u,iv o] 39)).alloc (.cells #[iv 0,iv 0,iv 0,iv 0] 33)=W0 at qb rb hbl ⊢
 have lw:w.heap.size<W0.heap.size:=(blt qb.out)
 have lv:w.heap.size+1<W0.heap.size:=(blt rb.out)
 refine (HF.out _ hbl.out).mono ?_
 rintro e W1 ⟨rfl,b⟩
 have hbl1:Hid (Below w.heap.size w W1):=uL hbl.out (b.mono hbl.out.size)
 have rb1:Hid _:=(b.block (w.heap.size+1) lv).trans rb.out
 have lv1:w.heap.size+1<W1.heap.size:=uB lv b.size
 have lw1:w.heap.size<W1.heap.size:=uO
 clear b qb rb hbl lw lv HF
 obtain ⟨s0,s1,s2,s3⟩:=qC rb1.out
 have f0:=qA rb1.out 0
 have f1:=qA rb1.out 1
 have f2:=qA rb1.out 2
 have f3:=qA rb1.out 3
 go_wp2
 refine uK (v:=.agg #[iv 9,iv 0,iv 0,iv 0]) (by simp [results,Tryz.results98,go_sem,s0,s1,s2,s3,lv1]) rfl ⟨rfl,?_⟩
 exact nU hbl1.out uO uO
theorem Vl (x:Nat) (k t c u o num cust units cents up st:Int) (w:World) (q3:(st != 13)=true) (q4:(st != 12)=true)
 (HF:Hid (∀ W,Below w.heap.size w W->Ca 66 #[pt x 0,.agg #[iv k,iv t,iv c,iv u,iv o]] W fun e w'=>e=.returned (.tuple #[.agg #[iv num,iv cust,iv units,iv st,iv cents,iv up],.bool true])/\Below W.heap.size W w')) :
 Ca 98 #[pt x 0,.agg #[iv k,iv t,iv c,iv u,iv o]] w fun e w'=>e=.returned (.agg #[iv 9,iv 0,iv 0,iv 0])/\Below w.heap.size w w':=by
 go_enter Tryz.func98,Tryz.ntmps98
 have qb:=zq1 w #[iv k,iv t,iv c,iv u,iv o] 39 #[iv 0,iv 0,iv 0,iv 0] 33
 have rb:=zq2 w #[iv k,iv t,iv c,iv u,iv o] 39 #[iv 0,iv 0,iv 0,iv 0] 33
 have hbl:=zq3 w #[iv k,iv t,iv c,iv u,iv o] 39 #[iv 0,iv 0,iv 0,iv 0] 33
 go_wp2_with fail
 generalize (w.alloc (.cells #[iv k,iv t,iv c,iv u,iv o] 39)).alloc (.cells #[iv 0,iv 0,iv 0,iv 0] 33)=W0 at qb rb hbl ⊢
 have lw:w.heap.size<W0.heap.size:=(blt qb.out)
 have lv:w.heap.size+1<W0.heap.size:=(blt rb.out)
 refine (HF.out _ hbl.out).mono ?_
 rintro e W1 ⟨rfl,b⟩
 have hbl1:Hid (Below w.heap.size w W1):=uL hbl.out (b.mono hbl.out.size)
 have rb1:Hid _:=(b.block (w.heap.size+1) lv).trans rb.out
 have lv1:w.heap.size+1<W1.heap.size:=uB lv b.size
 have lw1:w.heap.size<W1.heap.size:=uO
 clear b qb rb hbl lw lv HF
 obtain ⟨s0,s1,s2,s3⟩:=qC rb1.out
 have f0:=qA rb1.out 0
 have f1:=qA rb1.out 1
 have f2:=qA rb1.out 2
 have f3:=qA rb1.out 3
 go_wp2
 refine uK (v:=.agg #[iv 9,iv 0,iv 0,iv 0]) (by simp [results,Tryz.results98,go_sem,s0,s1,s2,s3,lv1]) rfl ⟨rfl,?_⟩
 exact nU hbl1.out uO uO
theorem Uj (x:Nat) (own:Nat->Prop) (P0 P1 P2 P3:World->(Nat->Prop)->Prop) (K0:Keeps P0) (K3:Keeps P3) (k t c u o num cust units cents up up1 m:Int) (w:World) (hm:IntKind.i64.wrap (units * cents)=m) (hw:∀ k,own k->k<w.heap.size) (h:P0 w own)
 (HF:Hid (jX w own P0 P0 66 #[pt x 0,.agg #[iv k,iv t,iv c,iv u,iv o]] (.tuple #[.agg #[iv num,iv cust,iv units,iv 13,iv cents,iv up],.bool true])))
 (H0:Hid (jX w own P0 P1 129 #[pt x 0,.agg #[iv num,iv cust,iv units,iv 13,iv cents,iv up],iv 14] (.agg #[iv num,iv cust,iv units,iv 14,iv cents,iv up1])))
 (H1:Hid (jX w own P1 P2 130 #[pt x 0] (.tuple #[])))
 (H2:Hid (jX w own P2 P3 104 #[pt x 0] (.tuple #[]))) :
 Ca 97 #[pt x 0,.agg #[iv k,iv t,iv c,iv u,iv o]] w fun e w'=>e=.returned (.agg #[iv 7,iv num,iv m,iv 0])/\zQ P3 w w' own:=by
 replace hw:Hid _:=hw
 go_enter Tryz.func97,Tryz.ntmps97
 have hT0:Hid (qX P0 w own (fun j=>j=w.heap.size\/j=w.heap.size+1) ((w.alloc (.cells #[iv k,iv t,iv c,iv u,iv o] 39)).alloc (.cells #[iv 0,iv 0,iv 0,iv 0] 33))):=yH K0 h (((uM _ _).alloc (uA _) _).alloc vS _) (fun j e=>by rcases e with e|e<;>(subst e;simp;try omega))
 have rb0:=zq2 w #[iv k,iv t,iv c,iv u,iv o] 39 #[iv 0,iv 0,iv 0,iv 0] 33
 clear h
 go_wp2_with fail
 generalize (w.alloc (.cells #[iv k,iv t,iv c,iv u,iv o] 39)).alloc (.cells #[iv 0,iv 0,iv 0,iv 0] 33)=W0 at hT0 rb0 ⊢
 refine (HF.out _ _ hT0.out).mono ?_
 rintro e W1 ⟨rfl,hT1,hk⟩
 have rb1:Hid (W1.heap[w.heap.size+1]?=some (.cells #[iv 0,iv 0,iv 0,iv 0] 33)):=(hk _ (.inr rfl)).trans rb0.out
 have lv1:w.heap.size+1<W1.heap.size:=(blt rb1.out)
 have hT2:Hid (qX P0 w own (fun j=>(j=w.heap.size\/j=w.heap.size+1)\/j=W1.heap.size) (W1.alloc (.cells #[iv num,iv cust,iv units,iv 13,iv cents,iv up] 142))):=xI K0 hT1 _
 have ob2:Hid ((W1.alloc (.cells #[iv num,iv cust,iv units,iv 13,iv cents,iv up] 142)).heap[W1.heap.size]?=some (.cells #[iv num,iv cust,iv units,iv 13,iv cents,iv up] 142)):=uF W1 _
 have rb2:Hid ((W1.alloc (.cells #[iv num,iv cust,iv units,iv 13,iv cents,iv up] 142)).heap[w.heap.size+1]?=some (.cells #[iv 0,iv 0,iv 0,iv 0] 33)):=(uE _ _ _ lv1).trans rb1.out
 clear hk hT0 hT1 rb0 rb1 lv1
 go_wp2_with fail
 refine (H0.out _ _ hT2.out).mono ?_
 rintro e W2 ⟨rfl,hT3,hk⟩
 have ob3:Hid (W2.heap[W1.heap.size]?=some (.cells #[iv num,iv cust,iv units,iv 13,iv cents,iv up] 142)):=(hk _ (.inr rfl)).trans ob2.out
 have rb3:Hid (W2.heap[w.heap.size+1]?=some (.cells #[iv 0,iv 0,iv 0,iv 0] 33)):=(hk _ (.inl (.inr rfl))).trans rb2.out
 clear hk hT2 ob2 rb2
 go_wp2_with fail
 refine (H1.out _ _ hT3).mono ?_
 rintro e W3 ⟨rfl,hT4,hk⟩
 have ob4:Hid (W3.heap[W1.heap.size]?=some (.cells #[iv num,iv cust,iv units,iv 13,iv cents,iv up] 142)):=(hk _ (.inr rfl)).trans ob3.out
 have rb4:Hid (W3.heap[w.heap.size+1]?=some (.cells #[iv 0,iv 0,iv 0,iv 0] 33)):=(hk _ (.inl (.inr rfl))).trans rb3.out
 clear hk hT3 ob3 rb3
 go_wp2_with fail
 refine (H2.out _ _ hT4).mono ?_
 rintro e W4 ⟨rfl,hT5,hk⟩
 have ob5:Hid (W4.heap[W1.heap.size]?=some (.cells #[iv num,iv cust,iv units,iv 13,iv cents,iv up] 142)):=(hk _ (.inr rfl)).trans ob4.out
 have rb5:Hid (W4.heap[w.heap.size+1]?=some (.cells #[iv 0,iv 0,iv 0,iv 0] 33)):=(hk _ (.inl (.inr rfl))).trans rb4.out
 clear hk hT4 ob4 rb4
 have HE:Hid (∀ v0 v1 v2 v3,zQ P3 w ((((W4.sc (w.heap.size+1) 0 v0).sc (w.heap.size+1) 1 v1).sc (w.heap.size+1) 2 v2).sc (w.heap.size+1) 3 v3) own):=fun v0 v1 v2 v3=>zE (zX K3 hT5 hw.out (.inl (.inr rfl)) v0 v1 v2 v3)
 obtain ⟨r0,r1,r2,r3⟩:=qC rb5.out
 obtain ⟨s0,s1,s2,s3,s4,s5⟩:=qB ob5.out
 have g0:=qA rb5.out 0
 have g1:=qA rb5.out 1
 have g2:=qA rb5.out 2
 have g3:=qA rb5.out 3
 have lv:w.heap.size+1<W4.heap.size:=(blt rb5.out)
 have lo:W1.heap.size<W4.heap.size:=(blt ob5.out)
 clear hT5
 go_wp2
 refine uK (v:=.agg #[iv 7,iv num,iv m,iv 0]) (by simp [results,Tryz.results97,go_sem,r0,r1,r2,r3]) rfl ⟨rfl,?_⟩
 exact HE.out _ _ _ _
theorem Kx (x:Nat) (own:Nat->Prop) (P0 P1 P2:World->(Nat->Prop)->Prop) (K0:Keeps P0) (K2:Keeps P2) (k t c u o num cust units cents up up1:Int) (w:World) (hw:∀ k,own k->k<w.heap.size) (h:P0 w own)
 (HF:Hid (jX w own P0 P0 66 #[pt x 0,.agg #[iv k,iv t,iv c,iv u,iv o]] (.tuple #[.agg #[iv num,iv cust,iv units,iv 13,iv cents,iv up],.bool true])))
 (H0:Hid (jX w own P0 P1 129 #[pt x 0,.agg #[iv num,iv cust,iv units,iv 13,iv cents,iv up],iv 16] (.agg #[iv num,iv cust,iv units,iv 16,iv cents,iv up1])))
 (H1:Hid (jX w own P1 P2 104 #[pt x 0] (.tuple #[]))) :
 Ca 98 #[pt x 0,.agg #[iv k,iv t,iv c,iv u,iv o]] w fun e w'=>e=.returned (.agg #[iv 8,iv num,iv 0,iv 0])/\zQ P2 w w' own:=by
 replace hw:Hid _:=hw
 go_enter Tryz.func98,Tryz.ntmps98
 have hT0:Hid (qX P0 w own (fun j=>j=w.heap.size\/j=w.heap.size+1) ((w.alloc (.cells #[iv k,iv t,iv c,iv u,iv o] 39)).alloc (.cells #[iv 0,iv 0,iv 0,iv 0] 33))):=yH K0 h (((uM _ _).alloc (uA _) _).alloc vS _) (fun j e=>by rcases e with e|e<;>(subst e;simp;try omega))
 have rb0:=zq2 w #[iv k,iv t,iv c,iv u,iv o] 39 #[iv 0,iv 0,iv 0,iv 0] 33
 clear h
 go_wp2_with fail
 generalize (w.alloc (.cells #[iv k,iv t,iv c,iv u,iv o] 39)).alloc (.cells #[iv 0,iv 0,iv 0,iv 0] 33)=W0 at hT0 rb0 ⊢
 refine (HF.out _ _ hT0.out).mono ?_
 rintro e W1 ⟨rfl,hT1,hk⟩
 have rb1:Hid (W1.heap[w.heap.size+1]?=some (.cells #[iv 0,iv 0,iv 0,iv 0] 33)):=(hk _ (.inr rfl)).trans rb0.out
 have lv1:w.heap.size+1<W1.heap.size:=(blt rb1.out)
 have hT2:Hid (qX P0 w own (fun j=>(j=w.heap.size\/j=w.heap.size+1)\/j=W1.heap.size) (W1.alloc (.cells #[iv num,iv cust,iv units,iv 13,iv cents,iv up] 142))):=xI K0 hT1 _
 have ob2:Hid ((W1.alloc (.cells #[iv num,iv cust,iv units,iv 13,iv cents,iv up] 142)).heap[W1.heap.size]?=some (.cells #[iv num,iv cust,iv units,iv 13,iv cents,iv up] 142)):=uF W1 _
 have rb2:Hid ((W1.alloc (.cells #[iv num,iv cust,iv units,iv 13,iv cents,iv up] 142)).heap[w.heap.size+1]?=some (.cells #[iv 0,iv 0,iv 0,iv 0] 33)):=(uE _ _ _ lv1).trans rb1.out
 clear hk hT0 hT1 rb0 rb1 lv1
 go_wp2_with fail
 refine (H0.out _ _ hT2.out).mono ?_
 rintro e W2 ⟨rfl,hT3,hk⟩
 have ob3:Hid (W2.heap[W1.heap.size]?=some (.cells #[iv num,iv cust,iv units,iv 13,iv cents,iv up] 142)):=(hk _ (.inr rfl)).trans ob2.out
 have rb3:Hid (W2.heap[w.heap.size+1]?=some (.cells #[iv 0,iv 0,iv 0,iv 0] 33)):=(hk _ (.inl (.inr rfl))).trans rb2.out
 clear hk hT2 ob2 rb2
 go_wp2_with fail
 refine (H1.out _ _ hT3).mono ?_
 rintro e W3 ⟨rfl,hT4,hk⟩
 have ob4:Hid (W3.heap[W1.heap.size]?=some (.cells #[iv num,iv cust,iv units,iv 13,iv cents,iv up] 142)):=(hk _ (.inr rfl)).trans ob3.out
 have rb4:Hid (W3.heap[w.heap.size+1]?=some (.cells #[iv 0,iv 0,iv 0,iv 0] 33)):=(hk _ (.inl (.inr rfl))).trans rb3.out
 clear hk hT3 ob3 rb3
 have HE:Hid (∀ v0 v1 v2 v3,zQ P2 w ((((W3.sc (w.heap.size+1) 0 v0).sc (w.heap.size+1) 1 v1).sc (w.heap.size+1) 2 v2).sc (w.heap.size+1) 3 v3) own):=fun v0 v1 v2 v3=>zE (zX K2 hT4 hw.out (.inl (.inr rfl)) v0 v1 v2 v3)
 obtain ⟨r0,r1,r2,r3⟩:=qC rb4.out
 obtain ⟨s0,s1,s2,s3,s4,s5⟩:=qB ob4.out
 have g0:=qA rb4.out 0
 have g1:=qA rb4.out 1
 have g2:=qA rb4.out 2
 have g3:=qA rb4.out 3
 have lv:w.heap.size+1<W3.heap.size:=(blt rb4.out)
 have lo:W1.heap.size<W3.heap.size:=(blt ob4.out)
 clear hT4
 go_wp2
 refine uK (v:=.agg #[iv 8,iv num,iv 0,iv 0]) (by simp [results,Tryz.results98,go_sem,r0,r1,r2,r3]) rfl ⟨rfl,?_⟩
 exact HE.out _ _ _ _
theorem Ug (x:Nat) (own:Nat->Prop) (P0 P1 P2:World->(Nat->Prop)->Prop) (K0:Keeps P0) (K2:Keeps P2) (k t c u o num cust units cents up up1:Int) (w:World) (hw:∀ k,own k->k<w.heap.size) (h:P0 w own)
 (HF:Hid (jX w own P0 P0 66 #[pt x 0,.agg #[iv k,iv t,iv c,iv u,iv o]] (.tuple #[.agg #[iv num,iv cust,iv units,iv 12,iv cents,iv up],.bool true])))
 (H0:Hid (jX w own P0 P1 129 #[pt x 0,.agg #[iv num,iv cust,iv units,iv 12,iv cents,iv up],iv 16] (.agg #[iv num,iv cust,iv units,iv 16,iv cents,iv up1])))
 (H1:Hid (jX w own P1 P2 104 #[pt x 0] (.tuple #[]))) :
 Ca 98 #[pt x 0,.agg #[iv k,iv t,iv c,iv u,iv o]] w fun e w'=>e=.returned (.agg #[iv 8,iv num,iv 0,iv 0])/\zQ P2 w w' own:=by
 replace hw:Hid _:=hw
 go_enter Tryz.func98,Tryz.ntmps98
 have hT0:Hid (qX P0 w own (fun j=>j=w.heap.size\/j=w.heap.size+1) ((w.alloc (.cells #[iv k,iv t,iv c,iv u,iv o] 39)).alloc (.cells #[iv 0,iv 0,iv 0,iv 0] 33))):=yH K0 h (((uM _ _).alloc (uA _) _).alloc vS _) (fun j e=>by rcases e with e|e<;>(subst e;simp;try omega))
 have rb0:=zq2 w #[iv k,iv t,iv c,iv u,iv o] 39 #[iv 0,iv 0,iv 0,iv 0] 33
 clear h
 go_wp2_with fail
 generalize (w.alloc (.cells #[iv k,iv t,iv c,iv u,iv o] 39)).alloc (.cells #[iv 0,iv 0,iv 0,iv 0] 33)=W0 at hT0 rb0 ⊢
 refine (HF.out _ _ hT0.out).mono ?_
 rintro e W1 ⟨rfl,hT1,hk⟩
 have rb1:Hid (W1.heap[w.heap.size+1]?=some (.cells #[iv 0,iv 0,iv 0,iv 0] 33)):=(hk _ (.inr rfl)).trans rb0.out
 have lv1:w.heap.size+1<W1.heap.size:=(blt rb1.out)
 have hT2:Hid (qX P0 w own (fun j=>(j=w.heap.size\/j=w.heap.size+1)\/j=W1.heap.size) (W1.alloc (.cells #[iv num,iv cust,iv units,iv 12,iv cents,iv up] 142))):=xI K0 hT1 _
 have ob2:Hid ((W1.alloc (.cells #[iv num,iv cust,iv units,iv 12,iv cents,iv up] 142)).heap[W1.heap.size]?=some (.cells #[iv num,iv cust,iv units,iv 12,iv cents,iv up] 142)):=uF W1 _
 have rb2:Hid ((W1.alloc (.cells #[iv num,iv cust,iv units,iv 12,iv cents,iv up] 142)).heap[w.heap.size+1]?=some (.cells #[iv 0,iv 0,iv 0,iv 0] 33)):=(uE _ _ _ lv1).trans rb1.out
 clear hk hT0 hT1 rb0 rb1 lv1
 go_wp2_with fail
 refine (H0.out _ _ hT2.out).mono ?_
 rintro e W2 ⟨rfl,hT3,hk⟩
 have ob3:Hid (W2.heap[W1.heap.size]?=some (.cells #[iv num,iv cust,iv units,iv 12,iv cents,iv up] 142)):=(hk _ (.inr rfl)).trans ob2.out
 have rb3:Hid (W2.heap[w.heap.size+1]?=some (.cells #[iv 0,iv 0,iv 0,iv 0] 33)):=(hk _ (.inl (.inr rfl))).trans rb2.out
 clear hk hT2 ob2 rb2
 go_wp2_with fail
 refine (H1.out _ _ hT3).mono ?_
 rintro e W3 ⟨rfl,hT4,hk⟩
 have ob4:Hid (W3.heap[W1.heap.size]?=some (.cells #[iv num,iv cust,iv units,iv 12,iv cents,iv up] 142)):=(hk _ (.inr rfl)).trans ob3.out
 have rb4:Hid (W3.heap[w.heap.size+1]?=some (.cells #[iv 0,iv 0,iv 0,iv 0] 33)):=(hk _ (.inl (.inr rfl))).trans rb3.out
 clear hk hT3 ob3 rb3
 have HE:Hid (∀ v0 v1 v2 v3,zQ P2 w ((((W3.sc (w.heap.size+1) 0 v0).sc (w.heap.size+1) 1 v1).sc (w.heap.size+1) 2 v2).sc (w.heap.size+1) 3 v3) own):=fun v0 v1 v2 v3=>zE (zX K2 hT4 hw.out (.inl (.inr rfl)) v0 v1 v2 v3)
 obtain ⟨r0,r1,r2,r3⟩:=qC rb4.out
 obtain ⟨s0,s1,s2,s3,s4,s5⟩:=qB ob4.out
 have g0:=qA rb4.out 0
 have g1:=qA rb4.out 1
 have g2:=qA rb4.out 2
 have g3:=qA rb4.out 3
 have lv:w.heap.size+1<W3.heap.size:=(blt rb4.out)
 have lo:W1.heap.size<W3.heap.size:=(blt ob4.out)
 clear hT4
 go_wp2
 refine uK (v:=.agg #[iv 8,iv num,iv 0,iv 0]) (by simp [results,Tryz.results98,go_sem,r0,r1,r2,r3]) rfl ⟨rfl,?_⟩
 exact HE.out _ _ _ _
