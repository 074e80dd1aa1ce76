import Derived.Test.YtfhncfghblkgeaaGreatL44
set_option maxRecDepth 100000
set_option maxHeartbeats 2000000
namespace Go.Proofs.YtfhncfghblkgeaaGreat
open Go.RowKit
theorem juc {w:World} {R:Nat} {c0 c1 c2 c3 c4 c5 c6 c7:Value} {T:TypeId} (h:w.heap[R]?=some (.cells #[c0,c1,c2,c3,c4,c5,c6,c7] T (0,0))):w.cell? (aq R 0)=some c0/\w.cell? (aq R 1)=some c1/\w.cell? (aq R 2)=some c2/\w.cell? (aq R 3)=some c3/\w.cell? (aq R 4)=some c4/\w.cell? (aq R 5)=some c5/\w.cell? (aq R 6)=some c6/\w.cell? (aq R 7)=some c7:=by
 refine ⟨?_,?_,?_,?_,?_,?_,?_,?_⟩<;>(rw [Joins.cell_of_block h];rfl)
theorem jh8 {own:Nat->Prop} {w W:World} {g i:Nat} (hg:own g) (h:Same own w W) (v:Value):Same own w (W.setCell (aq g i) v):=by
 have hz:W.heap.size=(W.setCell (aq g i) v).heap.size:=by simp [World.setCell]
 exact ⟨h.os,h.tape,h.output,by rw [← hz];exact h.size,fun b hb hn=>(Below.heap_setCell _ (aq g i) _ _ (fun e=>hn (by rw [e];exact hg))).trans (h.block b hb hn)⟩
theorem jj9 {own:Nat->Prop} {w W W':World} (h:Same own w W) (hb:Below W.heap.size W W'):Same own w W' :=
 ⟨hb.os.trans h.os,hb.tape.trans h.tape,hb.output.trans h.output,Nat.le_trans h.size hb.size,fun b hk hn=>(hb.block b (Nat.lt_of_lt_of_le hk h.size)).trans (h.block b hk hn)⟩
def Lf.cells (f:Lf):Array Value:=#[iv f.cust,iv f.units,iv f.kind,iv f.wait,iv f.cents,iv f.upto,iv f.alive,iv f.fin,.bool f.over]
theorem qd6 (a b:Int) (w:World) (h:(a=12/\12<=b/\b<=19)\/(a=13/\(b=13\/b=14\/b=15\/b=16\/b=19))\/((a≠12/\a≠13)/\(b=a\/b=19))) :
 Calls Tryz.prog 68 #[iv a,iv b] w fun e w'=>e=.returned (.bool true)/\Below w.heap.size w w':=by
 rcases h with ⟨rfl,h1,h2⟩|⟨rfl,rfl|rfl|rfl|rfl|rfl⟩|⟨⟨h1,h2⟩,h⟩
 ·go_enter Tryz.func68,Tryz.ntmps68
  go_wp2
  refine bodyPost_ret (v:=.bool true) (by simp [results,Tryz.results68,go_sem]) rfl ⟨rfl,bL⟩
 iterate 5
  ·go_enter Tryz.func68,Tryz.ntmps68
   go_wp2
   refine bodyPost_ret (v:=.bool true) (by simp [results,Tryz.results68,go_sem]) rfl ⟨rfl,bL⟩
 ·have d1:(a==12)=false:=by simpa using h1
  have d2:(a==13)=false:=by simpa using h2
  rcases h with rfl|rfl
  ·go_enter Tryz.func68,Tryz.ntmps68
   go_wp2
   refine bodyPost_ret (v:=.bool true) (by simp [results,Tryz.results68,go_sem]) rfl ⟨rfl,bL⟩
  ·by_cases e:a=19
   ·subst e
    go_enter Tryz.func68,Tryz.ntmps68
    go_wp2
    refine bodyPost_ret (v:=.bool true) (by simp [results,Tryz.results68,go_sem]) rfl ⟨rfl,bL⟩
   ·have d3:((19:Int)==a)=false:=by simp;omega
    go_enter Tryz.func68,Tryz.ntmps68
    go_wp2
    refine bodyPost_ret (v:=.bool true) (by simp [results,Tryz.results68,go_sem]) rfl ⟨rfl,bL⟩
theorem qcl (n0 n1 n2 n3 n4 n5 n6:Int) (v7:Value) (r:Rep) (clock:Int) (n:Nat) (w:World) (hn:n<=4294967296) (hc:0<=clock/\clock<=4611686018427387904) (h3:0<=n3/\n3<=4294967296) (h4:0<=n4/\n4<=4294967296) (h:r.order=(n:Int)+1->(r.kind=3->r.upto=clock+n4)/\(r.kind=2->r.upto=clock+n3)) :
 Calls Tryz.prog 20 #[.agg #[iv n0,iv n1,iv n2,iv n3,iv n4,iv n5,iv n6,v7],.agg #[iv r.kind,iv r.order,iv r.cents,iv r.upto],iv clock,iv n] w fun e w'=>e=.returned (.bool true)/\Below w.heap.size w w':=by
 have w0:IntKind.i64.wrap ((n:Int)+1)=(n:Int)+1:=jab (by omega) (by omega)
 have w3:IntKind.i64.wrap (clock+n3)=clock+n3:=jab (by omega) (by omega)
 have w4:IntKind.i64.wrap (clock+n4)=clock+n4:=jab (by omega) (by omega)
 obtain ⟨p1,p2,p3,p4⟩:=r
 simp only at h ⊢
 clear hn hc h3 h4
 go_enter Tryz.func20,Tryz.ntmps20
 by_cases e:p2=(n:Int)+1
 ·obtain ⟨hq,hg⟩:=h e
  subst e
  by_cases e3:p1=3
  ·have:=hq e3
   subst this e3
   go_wp2
   refine bodyPost_ret (v:=.bool true) (by simp [results,Tryz.results20,go_sem]) rfl ⟨rfl,bL⟩
  ·have d3:(p1==3)=false:=by simpa using e3
   by_cases e2:p1=2
   ·have:=hg e2
    subst this e2
    go_wp2
    refine bodyPost_ret (v:=.bool true) (by simp [results,Tryz.results20,go_sem]) rfl ⟨rfl,bL⟩
   ·have d2:(p1 != 2)=true:=by simpa using e2
    clear hq hg
    go_wp2
    refine bodyPost_ret (v:=.bool true) (by simp [results,Tryz.results20,go_sem]) rfl ⟨rfl,bL⟩
 ·have d0:(p2 != (n:Int)+1)=true:=by simpa using e
  clear h
  go_wp2
  refine bodyPost_ret (v:=.bool true) (by simp [results,Tryz.results20,go_sem]) rfl ⟨rfl,bL⟩
theorem jy7 (g:Nat) (n0 n1 n2 n3 n4 n5 n6:Int) (v7:Value) (f:Lf) (p y:Rep) (clock:Int) (w:World) (hg:w.heap[g]?=some (.cells f.cells 120 (0,0))) (ha:0<=f.alive/\f.alive<=4611686018427387904) (h3:0<=n3/\n3<=4294967296) (h:jqj n3 f p clock y) :
 Calls Tryz.prog 69 #[pt g 0,.agg #[iv n0,iv n1,iv n2,iv n3,iv n4,iv n5,iv n6,v7],.agg #[iv p.kind,iv p.order,iv p.cents,iv p.upto],iv clock,.agg #[iv y.kind,iv y.order,iv y.cents,iv y.upto]] w fun e w'=>e=.returned (.bool true)/\Below w.heap.size w w':=by
 have w3:IntKind.i64.wrap (f.alive+n3)=f.alive+n3:=jab (by omega) (by omega)
 obtain ⟨l1,l2,l3,l4,l5,l6,l7,l8,l9⟩:=f
 obtain ⟨p1,p2,p3,p4⟩:=p
 obtain ⟨y1,y2,y3,y4⟩:=y
 unfold jqj at h
 simp only [Lf.cells] at h hg w3 ⊢
 have lg0:g<w.heap.size:=(blt hg)
 obtain ⟨W0,hW0⟩:∃ W0,W0=((w.alloc (.cells #[iv n0,iv n1,iv n2,iv n3,iv n4,iv n5,iv n6,v7] 29)).alloc (.cells #[iv p1,iv p2,iv p3,iv p4] 42)).alloc (.cells #[iv y1,iv y2,iv y3,iv y4] 42):=⟨_,rfl⟩
 have hB:Hid (Below w.heap.size w W0):=by rw [hW0];exact (((Below.refl _ _).alloc (Nat.le_refl _) _).alloc (by simp) _).alloc (by simp;omega) _
 have cb:Hid (W0.heap[w.heap.size]?=some (.cells #[iv n0,iv n1,iv n2,iv n3,iv n4,iv n5,iv n6,v7] 29 (0,0))):=by rw [Hid,hW0];exact (Below.heap_alloc _ _ _ (by simp;omega)).trans ((Below.heap_alloc _ _ _ (by simp)).trans (heap_alloc_new w _))
 have pb:Hid (W0.heap[w.heap.size+1]?=some (.cells #[iv p1,iv p2,iv p3,iv p4] 42 (0,0))):=by rw [Hid,hW0];exact (Below.heap_alloc _ _ _ (by simp)).trans (jbd w _ _)
 have yb:Hid (W0.heap[w.heap.size+2]?=some (.cells #[iv y1,iv y2,iv y3,iv y4] 42 (0,0))):=by
  rw [Hid,hW0]
  have e:((w.alloc (.cells #[iv n0,iv n1,iv n2,iv n3,iv n4,iv n5,iv n6,v7] 29)).alloc (.cells #[iv p1,iv p2,iv p3,iv p4] 42)).heap.size=w.heap.size+2:=by simp
  have:=heap_alloc_new ((w.alloc (.cells #[iv n0,iv n1,iv n2,iv n3,iv n4,iv n5,iv n6,v7] 29)).alloc (.cells #[iv p1,iv p2,iv p3,iv p4] 42)) (.cells #[iv y1,iv y2,iv y3,iv y4] 42)
  rw [e] at this
  exact this
 have hg0:W0.heap[g]?=_:=(hB.out.block g lg0).trans hg
 obtain ⟨x0,x1,x2,x3,x4,x5,x6,x7,x8⟩:=je2 hg0
 obtain ⟨q0,q1,q2,q3⟩:=jck pb.out
 obtain ⟨v0,v1,v2,v3⟩:=jck yb.out
 obtain ⟨c0,c1,c2,c3,c4,c5,c6,c7⟩:=juc cb.out
 have lg:g<W0.heap.size:=(blt hg0)
 have lc:w.heap.size<W0.heap.size:=(blt cb.out)
 have lp:w.heap.size+1<W0.heap.size:=(blt pb.out)
 have ly:w.heap.size+2<W0.heap.size:=(blt yb.out)
 replace hW0:=hW0.symm
 clear hg hg0 ha h3 lg0
 clear cb pb yb
 rcases h with ⟨rfl,rfl,rfl⟩|⟨rfl,rfl,rfl⟩|⟨rfl,rfl,rfl⟩|⟨rfl,rfl,h⟩|⟨rfl,rfl,rfl,h⟩|⟨rfl,rfl,rfl,h⟩
 rotate_right 1
 ·have hd:decide (clock > l7+n3)=true:=by simpa using h
  have hd2:decide (l7+n3<clock)=true:=by simpa using h
  go_enter Tryz.func69,Tryz.ntmps69
  go_wp2_with fail
  go_quiet (fail)
  go_wp2
  refine bodyPost_ret (v:=.bool true) (by simp [results,Tryz.results69,go_sem]) rfl ⟨rfl,bL⟩
 all_goals
  go_enter Tryz.func69,Tryz.ntmps69
  go_wp2
  refine bodyPost_ret (v:=.bool true) (by simp [results,Tryz.results69,go_sem]) rfl ⟨rfl,bL⟩
theorem jcq {w:World} {g:Nat} {cs:Array Value} {T:TypeId} (h:w.heap[g]?=some (.cells cs T (0,0))) (i:Nat) (v:Value):(w.setCell (aq g i) v).heap[g]?=some (.cells (cs.setIfInBounds i v) T (0,0)):=Joins.block_setCell (i:=i) h v
theorem jf3 {own:Nat->Prop} {w W:World} (h:Same own w W):Same own w W.drew:=jj9 h (Below.drew (Below.refl _ _))
theorem jey {own:Nat->Prop} {w W:World} {n:Nat} (h:Same own w W):Same own w (W.drewN n):=jj9 h (jaf (Below.refl _ _))
theorem qcj (g:Nat) (n0 n1 n2 n3 n4 n5 n6:Int) (v7:Value) (f:Lf) (p y:Rep) (clock:Int) (w:World) (hg:w.heap[g]?=some (.cells f.cells 120 (0,0))) (hc:0<=clock/\clock<=4611686018427387904) (h3:0<=n3/\n3<=4294967296) (h5:1<=n5/\n5<=4294967296) (ha:0<=f.alive/\f.alive<=4611686018427387904) (hfi:0<=f.fin/\f.fin<=4611686018427387904) (hm:p.kind=14->(0<=f.cents/\f.cents<=1073741824)/\(0<=f.units/\f.units<=4294967296)) (h:jn4 n3 n5 f p clock y) :
 Calls Tryz.prog 44 #[pt g 0,.agg #[iv n0,iv n1,iv n2,iv n3,iv n4,iv n5,iv n6,v7],.agg #[iv p.kind,iv p.order,iv p.cents,iv p.upto],iv clock,.agg #[iv y.kind,iv y.order,iv y.cents,iv y.upto]] w fun e w'=>e=.returned (.bool true)/\w'.heap[g]?=some (.cells (je7 f p clock).cells 120 (0,0))/\Same (fun k=>k=g) w w':=by
 have HN:Hid (∀ W,Calls Tryz.prog 68 #[iv f.kind,iv p.kind] W fun e w'=>e=.returned (.bool true)/\Below W.heap.size W w'):=fun W=>qd6 _ _ W (by
  unfold jn4 at h
  rcases h with c|c|c|c|c|c<;>omega)
 have HE:Hid (jqj n3 f p clock y->∀ W,W.heap[g]?=some (.cells f.cells 120 (0,0))->Calls Tryz.prog 69 #[pt g 0,.agg #[iv n0,iv n1,iv n2,iv n3,iv n4,iv n5,iv n6,v7],.agg #[iv p.kind,iv p.order,iv p.cents,iv p.upto],iv clock,.agg #[iv y.kind,iv y.order,iv y.cents,iv y.upto]] W fun e w'=>e=.returned (.bool true)/\Below W.heap.size W w'):=fun he W hW=>jy7 g n0 n1 n2 n3 n4 n5 n6 v7 f p y clock W hW ha h3 he
 have w3:IntKind.i64.wrap (clock+n3)=clock+n3:=jab (by omega) (by omega)
 have w5:IntKind.i64.wrap (clock+n5)=clock+n5:=jab (by omega) (by omega)
 have wa:IntKind.i64.wrap (f.alive+n5)=f.alive+n5:=jab (by omega) (by omega)
 have wf:IntKind.i64.wrap (f.fin+n5)=f.fin+n5:=jab (by omega) (by omega)
 have wm:p.kind=14->IntKind.i64.wrap (f.cents * f.units)=f.cents * f.units:=fun e=>by
  obtain ⟨⟨u1,u2⟩,u3,u4⟩:=hm e
  have m0:0<=f.cents * f.units:=Int.mul_nonneg u1 u3
  have m1:f.cents * f.units<=1073741824 * 4294967296:=Int.mul_le_mul u2 u4 u3 (by decide)
  exact jab (by omega) (by omega)
 have k5:clock<clock+n5:=by omega
 clear hm ha hfi h3 h5 hc
 obtain ⟨l1,l2,l3,l4,l5,l6,l7,l8,l9⟩:=f
 obtain ⟨p1,p2,p3,p4⟩:=p
 obtain ⟨y1,y2,y3,y4⟩:=y
 unfold jn4 at h
 simp only [Lf.cells] at h hg wa wf wm HN HE ⊢
 have lg0:g<w.heap.size:=(blt hg)
 obtain ⟨W0,hW0⟩:∃ W0,W0=((w.alloc (.cells #[iv n0,iv n1,iv n2,iv n3,iv n4,iv n5,iv n6,v7] 29)).alloc (.cells #[iv p1,iv p2,iv p3,iv p4] 42)).alloc (.cells #[iv y1,iv y2,iv y3,iv y4] 42):=⟨_,rfl⟩
 have hB:Hid (Below w.heap.size w W0):=by rw [hW0];exact (((Below.refl _ _).alloc (Nat.le_refl _) _).alloc (by simp) _).alloc (by simp;omega) _
 have cb:Hid (W0.heap[w.heap.size]?=some (.cells #[iv n0,iv n1,iv n2,iv n3,iv n4,iv n5,iv n6,v7] 29 (0,0))):=by rw [Hid,hW0];exact (Below.heap_alloc _ _ _ (by simp;omega)).trans ((Below.heap_alloc _ _ _ (by simp)).trans (heap_alloc_new w _))
 have pb:Hid (W0.heap[w.heap.size+1]?=some (.cells #[iv p1,iv p2,iv p3,iv p4] 42 (0,0))):=by rw [Hid,hW0];exact (Below.heap_alloc _ _ _ (by simp)).trans (jbd w _ _)
 have yb:Hid (W0.heap[w.heap.size+2]?=some (.cells #[iv y1,iv y2,iv y3,iv y4] 42 (0,0))):=by
  rw [Hid,hW0]
  have e:((w.alloc (.cells #[iv n0,iv n1,iv n2,iv n3,iv n4,iv n5,iv n6,v7] 29)).alloc (.cells #[iv p1,iv p2,iv p3,iv p4] 42)).heap.size=w.heap.size+2:=by simp
  have:=heap_alloc_new ((w.alloc (.cells #[iv n0,iv n1,iv n2,iv n3,iv n4,iv n5,iv n6,v7] 29)).alloc (.cells #[iv p1,iv p2,iv p3,iv p4] 42)) (.cells #[iv y1,iv y2,iv y3,iv y4] 42)
  rw [e] at this
  exact this
 have hg0:W0.heap[g]?=_:=(hB.out.block g lg0).trans hg
 obtain ⟨x0,x1,x2,x3,x4,x5,x6,x7,x8⟩:=je2 hg0
 obtain ⟨q0,q1,q2,q3⟩:=jck pb.out
 have lg:g<W0.heap.size:=(blt hg0)
 have lp:w.heap.size+1<W0.heap.size:=(blt pb.out)
 replace hg0:Hid _:=hg0
 replace hW0:=hW0.symm
 replace h:Hid _:=h
 clear hg
 go_enter Tryz.func44,Tryz.ntmps44
 go_wp2_with fail
 clear hW0
 go_region_held3 (fun w'=>w'.cell? (aq g 2)=some (iv l3)/\w'.cell? (aq (w.heap.size+1) 0)=some (iv p1)) (simp [go_sem, *])
  (first
    | (go_at_call 68;refine (HN.out _).mono ?_;rintro e W1 ⟨rfl,b1⟩
       have i0:W1.cell? (aq g 2)=some (iv l3):=(b1.cell (p:=(aq g 2)) (by simpa using lg)).trans (by simp [go_sem, *])
       have i1:W1.cell? (aq (w.heap.size+1) 0)=some (iv p1):=(b1.cell (p:=(aq (w.heap.size+1) 0)) (by simpa using lp)).trans (by simp [go_sem, *])))
 clear x0 x1 x2 x3 x4 x5 x6 x7 x8 q0 q1 q2 q3 HN i0 i1
 have hg1:Hid _:=(b1.block g lg).trans hg0.out
 have pb1:Hid _:=(b1.block _ lp).trans pb.out
 have cb1:Hid _:=(b1.block _ (blt cb.out)).trans cb.out
 have yb1:Hid _:=(b1.block _ (blt yb.out)).trans yb.out
 have hS1:Hid (Same (fun k=>k=g) w W1):=Same.of_below ((show Below w.heap.size w W0.drew from hB.out.drew).trans (b1.mono (by simpa using hB.out.size)))
 have lc:w.heap.size<W1.heap.size:=(blt cb1.out)
 have ly:w.heap.size+2<W1.heap.size:=(blt yb1.out)
 replace lg:g<W1.heap.size:=(blt hg1.out)
 replace lp:w.heap.size+1<W1.heap.size:=(blt pb1.out)
 have ng0:w.heap.size≠g:=by omega
 have ng1:w.heap.size+1≠g:=by omega
 have ng2:w.heap.size+2≠g:=by omega
 clear b1 hB cb pb yb hg0 lg0
 obtain ⟨x0,x1,x2,x3,x4,x5,x6,x7,x8⟩:=je2 hg1.out
 obtain ⟨q0,q1,q2,q3⟩:=jck pb1.out
 obtain ⟨c0,c1,c2,c3,c4,c5,c6,c7⟩:=juc cb1.out
 obtain ⟨v0,v1,v2,v3⟩:=jck yb1.out
 have z2:=ja0 hg1.out 2
 have z4:=ja0 hg1.out 4
 have z5:=ja0 hg1.out 5
 have z6:=ja0 hg1.out 6
 have z7:=ja0 hg1.out 7
 have z8:=ja0 hg1.out 8
 rcases h.out with ⟨rfl,rfl,rfl,h1⟩|⟨rfl,rfl,h1,h2⟩|⟨rfl,rfl,rfl,rfl,h1,h2⟩|⟨rfl,h1⟩|⟨⟨h1,h2⟩,rfl,rfl,h3,h4⟩|⟨⟨h1,h2⟩,rfl,h3,h4,h6⟩
 ·clear h HE
  have hF:Hid (je7 ⟨l1,l2,12,p4,l5,l6,l7,l8,l9⟩ ⟨12,p2,p3,p4⟩ clock=⟨l1,l2,12,p4,l5,l6,clock,l8,l9⟩):=rfl
  go_wp2_with fail
  go_quiet (fail)
  go_wp2
  refine bodyPost_ret (v:=.bool true) (by simp [results,Tryz.results44,go_sem]) rfl ⟨rfl,?_,?_⟩
  ·rw [hF.out]
   exact jcq (jcq hg1.out 6 _) 2 _
  ·repeat (first|exact hS1.out|refine jh8 (own:=fun k=>k=g) (g:=g) rfl ?_ _|refine jf3 ?_|refine jey ?_)
 ·clear h HE
  have hF:Hid (je7 ⟨l1,l2,12,l4,l5,l6,l7,l8,l9⟩ ⟨13,p2,p3,p4⟩ clock=⟨l1,l2,13,l4,p3,p4,clock,l8,l9⟩):=rfl
  go_wp2
  refine bodyPost_ret (v:=.bool true) (by simp [results,Tryz.results44,go_sem]) rfl ⟨rfl,?_,?_⟩
  ·rw [hF.out]
   exact jcq (jcq (jcq (jcq hg1.out 4 _) 5 _) 6 _) 2 _
  ·repeat (first|exact hS1.out|refine jh8 (own:=fun k=>k=g) (g:=g) rfl ?_ _|refine jf3 ?_|refine jey ?_)
 ·clear h HE
  have hF:Hid (je7 ⟨l1,l2,13,l4,p3,p4,l7,l8,l9⟩ ⟨13,p2,p3,p4⟩ clock=⟨l1,l2,13,l4,p3,p4,clock,l8,l9⟩):=rfl
  go_wp2_with fail
  go_quiet (fail)
  go_wp2
  refine bodyPost_ret (v:=.bool true) (by simp [results,Tryz.results44,go_sem]) rfl ⟨rfl,?_,?_⟩
  ·rw [hF.out]
   exact jcq (jcq (jcq (jcq hg1.out 4 _) 5 _) 6 _) 2 _
  ·repeat (first|exact hS1.out|refine jh8 (own:=fun k=>k=g) (g:=g) rfl ?_ _|refine jf3 ?_|refine jey ?_)
 ·clear h HE
  have hF:Hid (je7 ⟨l1,l2,l3,l4,l5,l6,l7,l8,l9⟩ ⟨19,p2,p3,p4⟩ clock=⟨l1,l2,19,l4,l5,l6,l7,l8,l9⟩):=rfl
  go_wp2_with fail
  go_quiet (fail)
  go_wp2
  refine bodyPost_ret (v:=.bool true) (by simp [results,Tryz.results44,go_sem]) rfl ⟨rfl,?_,?_⟩
  ·rw [hF.out]
   exact jcq hg1.out 2 _
  ·repeat (first|exact hS1.out|refine jh8 (own:=fun k=>k=g) (g:=g) rfl ?_ _|refine jf3 ?_|refine jey ?_)
 ·have d12:¬ l3=12:=by omega
  have d13:¬ l3=13:=by omega
  have d19:¬ l3=19:=by omega
  have e12:(l3==12)=false:=by simpa using d12
  have e13:(l3==13)=false:=by simpa using d13
  have e19:(l3==19)=false:=by simpa using d19
  have hF:Hid (je7 ⟨l1,l2,l3,l4,l5,l6,l7,l8,true⟩ ⟨l3,p2,p3,p4⟩ clock=⟨l1,l2,l3,l4,l5,l6,l7,l8,true⟩):=by
   show _=_
   unfold je7;dsimp only;rw [if_neg d12,if_neg d13,if_neg d19];rfl
  have hsp:(l3=14/\p3=l5 * l2/\IntKind.i64.wrap (l5 * l2)=l5 * l2)\/(l3 != 14)=true:=by
   by_cases e:l3=14
   ·exact .inl ⟨e,h4 e,wm e⟩
   ·exact .inr (by simpa using e)
  clear h HE h1 h2 h4 wm d12 d13 d19
  rcases hsp with ⟨rfl,rfl,wm⟩|d14
  all_goals
   go_wp2_with fail
   go_quiet (fail)
   go_wp2
   refine bodyPost_ret (v:=.bool true) (by simp [results,Tryz.results44,go_sem]) rfl ⟨rfl,?_,?_⟩
   ·rw [hF.out]
    exact jcq hg1.out 2 _
   ·repeat (first|exact hS1.out|refine jh8 (own:=fun k=>k=g) (g:=g) rfl ?_ _|refine jf3 ?_|refine jey ?_)
 ·have d12:¬ p1=12:=by omega
  have d13:¬ p1=13:=by omega
  have d19:¬ p1=19:=by omega
  have e12:(p1==12)=false:=by simpa using d12
  have e13:(p1==13)=false:=by simpa using d13
  have e19:(p1==19)=false:=by simpa using d19
  have hF:Hid (je7 ⟨l1,l2,l3,l4,l5,l6,l7,l8,false⟩ ⟨p1,p2,p3,p4⟩ clock=⟨l1,l2,p1,l4,l5,l6,l7,clock,true⟩):=by
   show _=_
   unfold je7;dsimp only;rw [if_neg d12,if_neg d13,if_neg d19];rfl
  have hsp:(p1=14/\p3=l5 * l2/\IntKind.i64.wrap (l5 * l2)=l5 * l2)\/(p1 != 14)=true:=by
   by_cases e:p1=14
   ·exact .inl ⟨e,h6 e,wm e⟩
   ·exact .inr (by simpa using e)
  have HE1:Hid _:=HE.out h4
  clear h HE h1 h2 h3 h4 h6 wm d12 d13 d19
  go_wp2_with fail
  refine (HE1.out _ hg1.out).mono ?_
  rintro e W2 ⟨rfl,b2⟩
  clear x0 x1 x2 x3 x4 x5 x6 x7 x8 q0 q1 q2 q3 c0 c1 c2 c3 c4 c5 c6 c7 v0 v1 v2 v3 z2 z4 z5 z6 z7 z8
  replace hg1:Hid _:=(b2.block _ lg).trans hg1.out
  replace pb1:Hid _:=(b2.block _ lp).trans pb1.out
  replace cb1:Hid _:=(b2.block _ lc).trans cb1.out
  replace hS1:Hid (Same (fun k=>k=g) w W2):=jj9 hS1.out b2
  replace lg:g<W2.heap.size:=(blt hg1.out)
  replace lp:w.heap.size+1<W2.heap.size:=(blt pb1.out)
  replace lc:w.heap.size<W2.heap.size:=(blt cb1.out)
  clear b2 yb1 ly HE1
  obtain ⟨x0,x1,x2,x3,x4,x5,x6,x7,x8⟩:=je2 hg1.out
  obtain ⟨q0,q1,q2,q3⟩:=jck pb1.out
  obtain ⟨c0,c1,c2,c3,c4,c5,c6,c7⟩:=juc cb1.out
  have z2:=ja0 hg1.out 2
  have z7:=ja0 hg1.out 7
  have z8:=ja0 hg1.out 8
  rcases hsp with ⟨rfl,rfl,wm⟩|d14
  all_goals
   go_wp2_with fail
   go_quiet (fail)
   go_wp2
   refine bodyPost_ret (v:=.bool true) (by simp [results,Tryz.results44,go_sem]) rfl ⟨rfl,?_,?_⟩
   ·rw [hF.out]
    exact jcq (jcq (jcq hg1.out 8 _) 7 _) 2 _
   ·repeat (first|exact hS1.out|refine jh8 (own:=fun k=>k=g) (g:=g) rfl ?_ _|refine jf3 ?_|refine jey ?_)
theorem qbc (V n cap:Nat) (a:Option Addr) (k t c u o r1 r2 r3 r4 clock:Int) (w:World) (hV:V<w.heap.size) (cV:w.cell? (aq V 0)=some (.slice a n cap)) (hn:n<=4294967296) (ho:r2<=n)
 (h7:r1≠7\/(r1=7/\∃ (i g b:Nat) (ce un:Int),r2=(i:Int)+1/\i<n/\a=some (aq b 0)/\b<w.heap.size/\w.cell? (aq b i)=some (pt g 0)/\g<w.heap.size/\w.cell? (aq g 4)=some (iv ce)/\w.cell? (aq g 1)=some (iv un)/\0<ce/\r3=ce * un/\IntKind.i64.wrap (ce * un)=ce * un)) :
 Calls Tryz.prog 21 #[pt V 0,.agg #[iv k,iv t,iv c,iv u,iv o],.agg #[iv r1,iv r2,iv r3,iv r4],iv clock] w fun e w'=>e=.returned (.bool true)/\Below w.heap.size w w':=by
 have hB:Hid (Below w.heap.size w ((w.alloc (.cells #[iv k,iv t,iv c,iv u,iv o] 46)).alloc (.cells #[iv r1,iv r2,iv r3,iv r4] 42))):=((Below.refl _ _).alloc (Nat.le_refl _) _).alloc (by simp) _
 have hw1:IntKind.i64.wrap ((n:Int)+1)=(n:Int)+1:=jab (by omega) (by omega)
 have e1:(r2==(n:Int)+1)=false:=by simp;omega
 have e2:¬ (n:Int)<r2:=by omega
 have e2d:decide ((n:Int)<r2)=false:=by simp;omega
 have hcc:((r1==2)=true)\/((r1==2)=false/\(r1==3)=true)\/((r1==2)=false/\(r1==3)=false):=by
  cases (r1==2)<;>cases (r1==3)<;>simp
 go_enter Tryz.func21,Tryz.ntmps21
 rcases h7 with h7|⟨rfl,i,g,b,ce,un,rfl,hin,rfl,hb,b0,hg,g4,g1,hce,rfl,hm⟩
 ·have e7:(r1==7)=false:=by simpa using h7
  rcases hcc with d1|⟨d1,d2⟩|⟨d1,d2⟩
  all_goals
   go_wp2_with fail
   try go_quiet (fail)
   try go_wp2
   refine bodyPost_ret (v:=.bool true) (by simp [results,Tryz.results21,go_sem]) rfl ⟨rfl,bL⟩
 ·clear hcc ho
  have b1:(0:Int)<=(i:Int):=by omega
  have b2:(i:Int)<(n:Int):=by omega
  have hw2:IntKind.i64.wrap ((i:Int)+1 - 1)=(i:Int):=by rw [Int.add_sub_cancel];exact jab (by omega) (by omega)
  obtain ⟨W0,hW0⟩:∃ W0,W0=(w.alloc (.cells #[iv k,iv t,iv c,iv u,iv o] 46)).alloc (.cells #[iv 7,iv ((i:Int)+1),iv (ce * un),iv r4] 42):=⟨_,rfl⟩
  have pb:W0.heap[w.heap.size+1]?=some (.cells #[iv 7,iv ((i:Int)+1),iv (ce * un),iv r4] 42 (0,0)):=by rw [hW0];exact jbd w _ _
  obtain ⟨p0,p1,p2,p3⟩:=jck pb
  have lp:=(blt pb)
  rw [← hW0] at hB
  have cV':=(hB.out.cell (p:=(aq V 0)) hV).trans cV
  have b0':=(hB.out.cell (p:=(aq b i)) hb).trans b0
  have g4':=(hB.out.cell (p:=(aq g 4)) hg).trans g4
  have g1':=(hB.out.cell (p:=(aq g 1)) hg).trans g1
  have lV:V<W0.heap.size:=Nat.lt_of_lt_of_le hV hB.out.size
  have lb:b<W0.heap.size:=Nat.lt_of_lt_of_le hb hB.out.size
  have lg:g<W0.heap.size:=Nat.lt_of_lt_of_le hg hB.out.size
  replace hW0:=hW0.symm
  have hcd:decide (0<ce)=true:=by simpa using hce
  clear cV b0 g4 g1 pb
  go_wp2_with fail
  try go_quiet (fail)
  go_wp2_with fail
  try go_quiet (fail)
  go_wp2_with fail
  try go_quiet (fail)
  try go_wp2
  refine bodyPost_ret (v:=.bool true) (by simp [results,Tryz.results21,go_sem]) rfl ⟨rfl,bL⟩
def qfb (gs:List Nat):List Value:=gs.map (fun g=>pt g 0)
def jdt (V:Nat) (gs:List Nat) (fl:List Lf) (W:World) (o:Nat->Prop):Prop :=
 ∃ a c,W.heap[V]?=some (.cells #[.slice a fl.length c] 56 (0,0))/\W.ownsRow 0 118 1 (.slice a fl.length c) fl.length (qfb gs)/\gs.length=fl.length/\gs.Nodup ∧
  (∀ i,i<fl.length->W.heap[gs.getD i 0]?=some (.cells (fl.getD i lf0).cells 120 (0,0)))/\(∀ k,o k↔k=V\/Value.ownBlock (.slice a fl.length c)=some k\/k∈gs)
theorem juj {gs:List Nat} {i:Nat} (h:i<gs.length):gs.getD i 0∈gs:=by
 simp only [List.getD,List.getElem?_eq_getElem h,Option.getD_some]
 exact List.getElem_mem h
theorem qcd {gs:List Nat} {k:Nat} (h:k∈gs):∃ i,i<gs.length/\gs.getD i 0=k:=by
 obtain ⟨i,hi,e⟩:=List.mem_iff_getElem.1 h
 exact ⟨i,hi,by simp [List.getD,List.getElem?_eq_getElem hi,e]⟩
theorem jei (V:Nat) (gs:List Nat) (fl:List Lf):Keeps (jdt V gs fl):=by
 refine ⟨fun {W o} h k hk=>?_,fun {W W' o} h hz hk=>?_⟩
 ·obtain ⟨a,c,h1,h2,h3,_,h4,h5⟩:=h
  rcases (h5 k).1 hk with e|e|e
  ·rw [e];exact (blt h1)
  ·rcases h2.2 with ⟨hv,_⟩|⟨b,cap,cur,hv,_,hh,_⟩
   ·rw [hv] at e;simp [Value.ownBlock] at e
   ·rw [hv] at e
    simp only [Value.ownBlock,Option.some.injEq] at e
    rw [← e];exact (blt hh)
  ·obtain ⟨i,hi,e⟩:=qcd e
   rw [← e]
   exact (Array.getElem?_eq_some_iff.1 (h4 i (by omega))).1
 ·obtain ⟨a,c,h1,h2,h3,hn,h4,h5⟩:=h
  exact ⟨a,c,(hk V ((h5 V).2 (.inl rfl))).trans h1,jad h2 (fun k e=>hk k ((h5 k).2 (.inr (.inl e)))),h3,hn,fun i hi=>(hk _ ((h5 _).2 (.inr (.inr (juj (by omega)))))).trans (h4 i hi),h5⟩
theorem qee {gs:List Nat} {i:Nat} (h:i<gs.length):(qfb gs)[i]?=some (pt (gs.getD i 0) 0):=by
 unfold qfb
 simp [List.getD,List.getElem?_eq_getElem h]
theorem jhw {V:Nat} {gs:List Nat} {fl:List Lf} {W:World} {o:Nat->Prop} (h:jdt V gs fl W o):∃ a c,V<W.heap.size/\W.cell? (aq V 0)=some (.slice a fl.length c)/\∀ i,i<fl.length->∃ b,a=some (aq b 0)/\b<W.heap.size/\W.cell? (aq b i)=some (pt (gs.getD i 0) 0)/\gs.getD i 0<W.heap.size/\W.heap[gs.getD i 0]?=some (.cells (fl.getD i lf0).cells 120 (0,0)):=by
 obtain ⟨a,c,h1,h2,h3,hn,h4,h5⟩:=h
 refine ⟨a,c,(blt h1),by rw [Joins.cell_of_block h1];rfl,fun i hi=>?_⟩
 rcases h2.2 with ⟨_,h0⟩|⟨g,cap,cur,hv,_,hg,_⟩
 ·omega
 ·have e1:a=some (aq g 0):=by simp only [Value.slice.injEq] at hv;exact hv.1
  subst e1
  have:=h2.cells (g:=g) rfl _ _ (qee (gs:=gs) (i:=i) (by omega))
  rw [Addr.add_lit,Nat.zero_add] at this
  exact ⟨g,rfl,(blt hg),this,(Array.getElem?_eq_some_iff.1 (h4 i hi)).1,h4 i hi⟩
theorem ju8 {W:World} {g:Nat} {f:Lf} (h:W.heap[g]?=some (.cells f.cells 120 (0,0))):W.cell? (aq g 0)=some (iv f.cust)/\W.cell? (aq g 1)=some (iv f.units)/\W.cell? (aq g 4)=some (iv f.cents):=by
 obtain ⟨x0,x1,x2,x3,x4,x5,x6,x7,x8⟩:=je2 h
 exact ⟨x0,x1,x4⟩
theorem jti {V:Nat} {gs:List Nat} {fl:List Lf} {W:World} {a:Option Addr} {c:Nat} (h1:W.heap[V]?=some (.cells #[.slice a fl.length c] 56 (0,0))) (h2:W.ownsRow 0 118 1 (.slice a fl.length c) fl.length (qfb gs)) (h3:gs.length=fl.length) (h4:∀ i,i<fl.length->W.heap[gs.getD i 0]?=some (.cells (fl.getD i lf0).cells 120 (0,0))) :
 Value.ownBlock (.slice a fl.length c)≠some V/\∀ g,g∈gs->g≠V/\Value.ownBlock (.slice a fl.length c)≠some g:=by
 have hrow:∀ k,Value.ownBlock (.slice a fl.length c)=some k->∃ cur,W.heap[k]?=some (.cells cur 118 (0,0)):=fun k e=>by
  rcases h2.2 with ⟨hv,_⟩|⟨b,cap,cur,hv,_,hh,_⟩
  ·rw [hv] at e;simp [Value.ownBlock] at e
  ·rw [hv] at e
   simp only [Value.ownBlock,Option.some.injEq] at e
   rw [← e];exact ⟨cur,hh⟩
 refine ⟨fun e=>?_,fun g hg=>⟨fun e=>?_,fun e=>?_⟩⟩
 ·obtain ⟨cur,hc⟩:=hrow V e
  rw [h1] at hc
  simp at hc
 ·obtain ⟨i,hi,ei⟩:=qcd hg
  have:=h4 i (by omega)
  rw [ei,e,h1] at this
  simp at this
 ·obtain ⟨cur,hc⟩:=hrow g e
  obtain ⟨i,hi,ei⟩:=qcd hg
  have:=h4 i (by omega)
  rw [ei,hc] at this
  simp at this
def jjz (S:Sal) (fl:List Lf) (j:Nat):List Lf:=(List.range fl.length).map (fun i=>if i<j then je7 (fl.getD i lf0) (jch S i (S.os.getD i ja3)) S.now else fl.getD i lf0)
theorem jbp (S:Sal) (fl:List Lf) (j:Nat):(jjz S fl j).length=fl.length:=by unfold jjz;simp
theorem jhd (S:Sal) (fl:List Lf) (j:Nat) {i:Nat} (hi:i<fl.length):(jjz S fl j).getD i lf0=if i<j then je7 (fl.getD i lf0) (jch S i (S.os.getD i ja3)) S.now else fl.getD i lf0:=by
 unfold jjz
 simp [List.getD,hi]
theorem qdb {a b:List Lf} (hl:a.length=b.length) (h:∀ i,i<a.length->a.getD i lf0=b.getD i lf0):a=b:=by
 refine List.ext_getElem hl (fun i h1 h2=>?_)
 have:=h i h1
 simpa [List.getD,List.getElem?_eq_getElem h1,List.getElem?_eq_getElem h2] using this
theorem jvt (S:Sal) (fl:List Lf):jjz S fl 0=fl:=qdb (jbp ..) (fun i hi=>by rw [jbp] at hi;rw [jhd S fl 0 hi,if_neg (by omega)])
theorem jyc (S:Sal) (fl:List Lf):jjz S fl fl.length=jhm S fl:=qdb (by rw [jbp];unfold jhm;simp) (fun i hi=>by rw [jbp] at hi;rw [jhd S fl _ hi,if_pos hi,jl2 S fl hi])
theorem qge {V:Nat} {gs:List Nat} {fl:List Lf} {S:Sal} {j:Nat} (hj:j<fl.length) (n0 n1 n2 n4 n6:Int) (v7:Value) (y:Rep) (hc:0<=S.now/\S.now<=4611686018427387904) (h3:0<=S.C.lease/\S.C.lease<=4294967296) (h5:1<=S.C.keep/\S.C.keep<=4294967296) (ha:0<=(fl.getD j lf0).alive/\(fl.getD j lf0).alive<=4611686018427387904) (hfi:0<=(fl.getD j lf0).fin/\(fl.getD j lf0).fin<=4611686018427387904)
 (hm:(jch S j (S.os.getD j ja3)).kind=14->(0<=(fl.getD j lf0).cents/\(fl.getD j lf0).cents<=1073741824)/\(0<=(fl.getD j lf0).units/\(fl.getD j lf0).units<=4294967296)) (h:jn4 S.C.lease S.C.keep (fl.getD j lf0) (jch S j (S.os.getD j ja3)) S.now y) (W:World) (o:Nat->Prop) (hl:jdt V gs (jjz S fl j) W o) :
 Calls Tryz.prog 44 #[pt (gs.getD j 0) 0,.agg #[iv n0,iv n1,iv n2,iv S.C.lease,iv n4,iv S.C.keep,iv n6,v7],.agg #[iv (jch S j (S.os.getD j ja3)).kind,iv (jch S j (S.os.getD j ja3)).order,iv (jch S j (S.os.getD j ja3)).cents,iv (jch S j (S.os.getD j ja3)).upto],iv S.now,.agg #[iv y.kind,iv y.order,iv y.cents,iv y.upto]] W fun e w'=>e=.returned (.bool true)/\jap (jdt V gs (jjz S fl (j+1))) W w' o:=by
 obtain ⟨a,c,h1,h2,hlen,hn,h4,ho⟩:=hl
 rw [jbp] at h1 h2 hlen h4 ho
 have hg:=h4 j hj
 rw [jhd S fl j hj,if_neg (Nat.lt_irrefl _)] at hg
 refine (qcj (gs.getD j 0) n0 n1 n2 S.C.lease n4 S.C.keep n6 v7 (fl.getD j lf0) (jch S j (S.os.getD j ja3)) y S.now W hg hc h3 h5 ha hfi hm h).mono ?_
 rintro e w' ⟨rfl,hg',hs⟩
 have hgj:gs.getD j 0∈gs:=juj (by omega)
 have hrow:∀ k,Value.ownBlock (.slice a fl.length c)=some k->∃ cur,W.heap[k]?=some (.cells cur 118 (0,0)):=fun k e=>by
  rcases h2.2 with ⟨hv,_⟩|⟨b,cap,cur,hv,_,hh,_⟩
  ·rw [hv] at e;simp [Value.ownBlock] at e
  ·rw [hv] at e
   simp only [Value.ownBlock,Option.some.injEq] at e
   rw [← e];exact ⟨cur,hh⟩
 have hVg:V≠gs.getD j 0:=fun e=>by
  rw [← e,h1] at hg
  simp at hg
 have hbg:∀ k,Value.ownBlock (.slice a fl.length c)=some k->k≠gs.getD j 0:=fun k ek e=>by
  obtain ⟨cur,hcu⟩:=hrow k ek
  rw [e,hg] at hcu
  simp at hcu
 have hw:∀ k,o k->k<W.heap.size:=(jei V gs (jjz S fl j)).lt (o:=o) ⟨a,c,by rw [jbp];exact h1,by rw [jbp];exact h2,by rw [jbp];exact hlen,hn,by rw [jbp];exact h4,by rw [jbp];exact ho⟩
 have kb:∀ k,o k->k≠gs.getD j 0->w'.heap[k]?=W.heap[k]?:=fun k hk hne=>hs.block k (hw k hk) hne
 refine ⟨rfl,o,⟨a,c,by rw [jbp];exact (kb V ((ho V).2 (.inl rfl)) hVg).trans h1,by rw [jbp];exact jad h2 (fun k e=>kb k ((ho k).2 (.inr (.inl e))) (hbg k e)),by rw [jbp];exact hlen,hn,fun i hi=>?_,by rw [jbp];exact ho⟩,⟨hs.os,hs.tape,hs.output,hs.size,fun k hk hno=>hs.block k hk (fun e=>hno ((ho k).2 (.inr (.inr (by rw [e];exact hgj)))))⟩,fun k e=>.inl e⟩
 rw [jbp] at hi
 rw [jhd S fl (j+1) hi]
 by_cases e:i=j
 ·subst e
  rw [if_pos (by omega)]
  exact hg'
 ·have hne:gs.getD i 0≠gs.getD j 0:=fun c=>by
   have hi':i<gs.length:=by omega
   have hj':j<gs.length:=by omega
   simp only [List.getD,List.getElem?_eq_getElem hi',List.getElem?_eq_getElem hj',Option.getD_some] at c
   rcases Nat.lt_or_gt_of_ne e with l|l
   ·exact List.pairwise_iff_getElem.1 hn i j hi' hj' l c
   ·exact List.pairwise_iff_getElem.1 hn j i hj' hi' l c.symm
  rw [kb _ ((ho _).2 (.inr (.inr (juj (by omega))))) hne]
  have:=h4 i hi
  rw [jhd S fl j hi] at this
  rw [this]
  by_cases e1:i<j
  ·rw [if_pos e1,if_pos (by omega)]
  ·rw [if_neg e1,if_neg (by omega)]
theorem Tryz.infoLifeP:(Tryz.prog.info? 118).map (fun i=>(i.zero,i.size,i.bytes))=some (some (.pointer none),1,8):=by kernel_rfl
def jv8 (w w':World) (V n:Nat) (v:Value) (E:List Value) (f:Lf):Prop :=
 ∃ g cap lz,w'.heap[V]?=some (.cells #[.slice (some (aq g 0)) (n+1) cap] 56 (0,0))/\w'.ownsRow 0 118 1 (.slice (some (aq g 0)) (n+1) cap) (n+1) (E++[pt lz 0])/\w'.heap[lz]?=some (.cells f.cells 120 (0,0))/\w.heap.size<=lz/\Same (fun b=>b=V\/v.ownBlock=some b) w w'/\(v.ownBlock=some g\/w.heap.size<=g)
theorem qd7 {w w1 w3:World} {V n g cap lz:Nat} {v:Value} {E:List Value} {f:Lf} {O:Obj} (hB:Below w.heap.size w w1) (hV:V<w.heap.size) (hR1:w1.heap[V]?=some (.cells #[v] 56 (0,0))) (hv:v.ownBlock≠some V) (hvz:∀ k,v.ownBlock=some k->k<w.heap.size) (hl:w1.heap[lz]?=some (.cells f.cells 120 (0,0))) (hlz:w.heap.size<=lz)
 (hown:w3.ownsRow 0 118 1 (.slice (some (aq g 0)) (n+1) cap) (n+1) (E++[pt lz 0])) (hg:(w1.alloc O).grownBy w3 v.ownBlock) (hat:v.ownBlock=some g\/g=w1.heap.size+1) :
 jv8 w (w3.setCell (aq V 0) (.slice (some (aq g 0)) (n+1) cap)) V n v E f:=by
 have hz:=hB.size
 have k1:∀ k,k<w1.heap.size->v.ownBlock≠some k->w3.heap[k]?=w1.heap[k]?:=fun k hk hn=>(hg.block k (by simp;omega) (fun e=>hn e.symm)).trans (Below.heap_alloc w1 O k hk)
 have z3:w1.heap.size+1<=w3.heap.size:=by have:=hg.size;simpa using this
 have hR3:w3.heap[V]?=some (.cells #[v] 56 (0,0)):=(k1 V (by omega) hv).trans hR1
 have ks:∀ k,k≠V->(w3.setCell (aq V 0) (.slice (some (aq g 0)) (n+1) cap)).heap[k]?=w3.heap[k]?:=fun k hk=>Below.heap_setCell _ (aq V 0) _ _ hk
 have hgR:g≠V:=by
  rintro rfl
  rcases hat with e|e
  ·exact hv e
  ·omega
 have hsm:Same (fun b=>b=V\/v.ownBlock=some b) w (w3.setCell (aq V 0) (.slice (some (aq g 0)) (n+1) cap)):=by
  refine ⟨hg.os.trans hB.os,hg.tape.trans hB.tape,hg.output.trans hB.output,by simp [World.setCell];omega,fun k hk hn=>?_⟩
  rw [ks k (fun e=>hn (.inl e)),k1 k (by omega) (fun e=>hn (.inr e))]
  exact hB.block k hk
 have hlw:lz<w1.heap.size:=(blt hl)
 exact ⟨g,cap,lz,Joins.block_setCell (i:=0) hR3 _,jad hown (fun k hk=>ks k (fun e=>hgR (by simp [Value.ownBlock] at hk;exact hk.trans e))),(ks lz (by omega)).trans ((k1 lz hlw (fun e=>by have:=hvz lz e;omega)).trans hl),hlz,hsm,hat.imp id (fun e=>by omega)⟩
theorem jo5 {w w':World} {V n:Nat} {v:Value} {E:List Value} {f:Lf} (h:jv8 w w' V n v E f) {W:World} (hW:Below w'.heap.size w' W):jv8 w W V n v E f:=by
 obtain ⟨g,cap,lz,h1,h2,h3,h4,h5,h6⟩:=h
 exact ⟨g,cap,lz,(hW.block V (blt h1)).trans h1,jbg h2 hW (Nat.le_refl _),(hW.block lz (blt h3)).trans h3,h4,jj9 h5 hW,h6⟩
theorem qaz (V n vc:Nat) (va:Option Addr) (E:List Value) (k t c u o r1 r3 r4 clock:Int) (w:World) (hVb:w.heap[V]?=some (.cells #[.slice va n vc] 56 (0,0))) (hO:w.ownsRow 0 118 1 (.slice va n vc) n E) (hv:Value.ownBlock (.slice va n vc)≠some V) (hn:n<=4294967296) (hr:r1=2\/r1=3) :
 Calls Tryz.prog 21 #[pt V 0,.agg #[iv k,iv t,iv c,iv u,iv o],.agg #[iv r1,iv ((n:Int)+1),iv r3,iv r4],iv clock] w fun e w'=>e=.returned (.bool true)/\jv8 w w' V n (.slice va n vc) E (jjd ⟨r1,(n:Int)+1,r3,r4⟩ ⟨0,k,t,c,u,o⟩ clock):=by
 obtain ⟨i0,hi,hz0,hz1,hz2⟩:=info_parts Tryz.infoLifeP
 have hV:V<w.heap.size:=(blt hVb)
 have hvz:Hid (∀ k,Value.ownBlock (.slice va n vc)=some k->k<w.heap.size):=fun k e=>by
  rcases hO.2 with ⟨hv,_⟩|⟨b,cap,cur,hv,_,hh,_⟩
  ·rw [hv] at e;simp [Value.ownBlock] at e
  ·rw [hv] at e
   simp only [Value.ownBlock,Option.some.injEq] at e
   rw [← e];exact (blt hh)
 obtain ⟨W0,hW0⟩:∃ W0,W0=(w.alloc (.cells #[iv k,iv t,iv c,iv u,iv o] 46)).alloc (.cells #[iv r1,iv ((n:Int)+1),iv r3,iv r4] 42):=⟨_,rfl⟩
 have hB:Hid (Below w.heap.size w W0):=by rw [hW0];exact ((Below.refl _ _).alloc (Nat.le_refl _) _).alloc (by simp) _
 have qb:Hid (W0.heap[w.heap.size]?=some (.cells #[iv k,iv t,iv c,iv u,iv o] 46 (0,0))):=by rw [hW0];exact (Below.heap_alloc _ _ _ (by simp)).trans (heap_alloc_new w _)
 have pb:Hid (W0.heap[w.heap.size+1]?=some (.cells #[iv r1,iv ((n:Int)+1),iv r3,iv r4] 42 (0,0))):=by rw [hW0];exact jbd w _ _
 obtain ⟨q0,q1,q2,q3,q4⟩:=jer qb.out
 obtain ⟨p0,p1,p2,p3⟩:=jck pb.out
 have lq:=(blt qb.out)
 have lp:=(blt pb.out)
 have hVW:Hid (W0.heap[V]?=some (.cells #[.slice va n vc] 56 (0,0))):=(hB.out.block V hV).trans hVb
 have hO3:Hid (W0.ownsRow 0 118 1 (.slice va n vc) n E):=jbg hO hB.out (Nat.le_refl _)
 have cV':W0.cell? (aq V 0)=some (.slice va n vc):=by rw [Joins.cell_of_block hVW.out];rfl
 have lV:V<W0.heap.size:=Nat.lt_of_lt_of_le hV hB.out.size
 have hw1:IntKind.i64.wrap ((n:Int)+1)=(n:Int)+1:=jab (by omega) (by omega)
 clear hVb hO
 replace hW0:=hW0.symm
 go_enter Tryz.func21,Tryz.ntmps21
 rcases hr with rfl|rfl
 ·have HX2:Hid (∀ w3 g cap O,w3.ownsRow 0 118 1 (.slice (some (aq g 0)) (n+1) cap) (n+1) (E++[pt W0.heap.size 0])->((W0.alloc (.cells #[iv c,iv u,iv 13,iv 0,iv r3,iv r4,iv clock,iv 0,.bool false] 120)).alloc O).grownBy w3 (Value.ownBlock (.slice va n vc))->(Value.ownBlock (.slice va n vc)=some g\/g=W0.heap.size+1+1)->jv8 w (w3.setCell (aq V 0) (.slice (some (aq g 0)) (n+1) cap)) V n (.slice va n vc) E (jjd ⟨2,(n:Int)+1,r3,r4⟩ ⟨0,k,t,c,u,o⟩ clock)):=fun w3 g cap O h1 h2 h3 =>
   qd7 (w1:=W0.alloc (.cells #[iv c,iv u,iv 13,iv 0,iv r3,iv r4,iv clock,iv 0,.bool false] 120)) (lz:=W0.heap.size) (hB.out.alloc hB.out.size _) hV ((Below.heap_alloc _ _ _ lV).trans hVW.out) hv hvz.out (heap_alloc_new W0 _) hB.out.size h1 h2 (h3.imp id (fun e=>by simpa using e))
  go_wp2_with (at_builtin;refine wpList_append_own_at _ rfl _ _ 54 rfl 0 118 i0 (.pointer none) 1 8 Tryz.underlying54 hi hz0 hz1 hz2 rfl (by decide) _ _ _ rfl ((hO3.out.alloc _).alloc _) (aq (W0.heap.size+1) 0) 1 1 [pt W0.heap.size 0] rfl rfl ?c1 ?c2 ?c3 ?c4 ?c5 ?_)
  case c1=>exact World.news_of_block (cs:=#[pt W0.heap.size 0]) (t:=118) (fr:=(0,0)) (jbd W0 _ _)
  case c2=>first|rfl|(intro u hu;simp at hu;rw [hu];rfl)
  case c3=>unfold maxLen;omega
  case c4=>omega
  case c5=>simp
  intro lv' w3 hown3 hgrow _ hat
  obtain ⟨la',lc',rfl⟩:=jja hown3
  have hR3:w3.heap[V]?=some (.cells #[.slice va n vc] 56 (0,0)):=(hgrow.block V (by simp;omega) (fun e=>hv e.symm)).trans ((Below.heap_alloc _ _ V (by simp;omega)).trans ((Below.heap_alloc W0 _ V lV).trans hVW.out))
  have g1:w3.cell? (aq V 0)=some (.slice va n vc):=by rw [Joins.cell_of_block hR3];rfl
  have gf:=ja0 hR3 0
  have lV3:V<w3.heap.size:=(blt hR3)
  obtain ⟨g,hla⟩:∃ g,la'=some (aq g 0):=by
   rcases hown3.2 with ⟨_,h0⟩|⟨b,cap,cur,hv3,_⟩
   ·simp at h0
   ·simp only [Value.slice.injEq] at hv3
    exact ⟨b,hv3.1⟩
  subst hla
  have hfin:=HX2.out w3 g lc' (.cells #[pt W0.heap.size 0] 118) hown3 ⟨hgrow.os,hgrow.tape,hgrow.output,hgrow.size,hgrow.block⟩ (by
   rcases hat with h|h
   ·simp only [Value.ownBlock] at h ⊢;exact .inl h.symm
   ·simp only [Value.ownBlock,Option.some.injEq] at h;right;simpa using h)
  replace hfin:Hid _:=hfin
  replace hR3:Hid _:=hR3
  clear HX2 hown3 hgrow hat hW0 q0 q1 q2 q3 q4 p0 p1 p2 p3 lq lp cV' lV qb pb hVW hO3
  go_wp2
  refine bodyPost_ret (v:=.bool true) (by simp [results,Tryz.results21,go_sem]) rfl ⟨rfl,jo5 hfin.out bL⟩
 ·have HX2:Hid (∀ w3 g cap O,w3.ownsRow 0 118 1 (.slice (some (aq g 0)) (n+1) cap) (n+1) (E++[pt W0.heap.size 0])->((W0.alloc (.cells #[iv c,iv u,iv 12,iv r4,iv 0,iv 0,iv clock,iv 0,.bool false] 120)).alloc O).grownBy w3 (Value.ownBlock (.slice va n vc))->(Value.ownBlock (.slice va n vc)=some g\/g=W0.heap.size+1+1)->jv8 w (w3.setCell (aq V 0) (.slice (some (aq g 0)) (n+1) cap)) V n (.slice va n vc) E (jjd ⟨3,(n:Int)+1,r3,r4⟩ ⟨0,k,t,c,u,o⟩ clock)):=fun w3 g cap O h1 h2 h3 =>
   qd7 (w1:=W0.alloc (.cells #[iv c,iv u,iv 12,iv r4,iv 0,iv 0,iv clock,iv 0,.bool false] 120)) (lz:=W0.heap.size) (hB.out.alloc hB.out.size _) hV ((Below.heap_alloc _ _ _ lV).trans hVW.out) hv hvz.out (heap_alloc_new W0 _) hB.out.size h1 h2 (h3.imp id (fun e=>by simpa using e))
  go_wp2_with (at_builtin;refine wpList_append_own_at _ rfl _ _ 54 rfl 0 118 i0 (.pointer none) 1 8 Tryz.underlying54 hi hz0 hz1 hz2 rfl (by decide) _ _ _ rfl ((hO3.out.alloc _).alloc _) (aq (W0.heap.size+1) 0) 1 1 [pt W0.heap.size 0] rfl rfl ?c1 ?c2 ?c3 ?c4 ?c5 ?_)
  case c1=>exact World.news_of_block (cs:=#[pt W0.heap.size 0]) (t:=118) (fr:=(0,0)) (jbd W0 _ _)
  case c2=>first|rfl|(intro u hu;simp at hu;rw [hu];rfl)
  case c3=>unfold maxLen;omega
  case c4=>omega
  case c5=>simp
  intro lv' w3 hown3 hgrow _ hat
  obtain ⟨la',lc',rfl⟩:=jja hown3
  have hR3:w3.heap[V]?=some (.cells #[.slice va n vc] 56 (0,0)):=(hgrow.block V (by simp;omega) (fun e=>hv e.symm)).trans ((Below.heap_alloc _ _ V (by simp;omega)).trans ((Below.heap_alloc W0 _ V lV).trans hVW.out))
  have g1:w3.cell? (aq V 0)=some (.slice va n vc):=by rw [Joins.cell_of_block hR3];rfl
  have gf:=ja0 hR3 0
  have lV3:V<w3.heap.size:=(blt hR3)
  obtain ⟨g,hla⟩:∃ g,la'=some (aq g 0):=by
   rcases hown3.2 with ⟨_,h0⟩|⟨b,cap,cur,hv3,_⟩
   ·simp at h0
   ·simp only [Value.slice.injEq] at hv3
    exact ⟨b,hv3.1⟩
  subst hla
  have hfin:=HX2.out w3 g lc' (.cells #[pt W0.heap.size 0] 118) hown3 ⟨hgrow.os,hgrow.tape,hgrow.output,hgrow.size,hgrow.block⟩ (by
   rcases hat with h|h
   ·simp only [Value.ownBlock] at h ⊢;exact .inl h.symm
   ·simp only [Value.ownBlock,Option.some.injEq] at h;right;simpa using h)
  replace hfin:Hid _:=hfin
  replace hR3:Hid _:=hR3
  clear HX2 hown3 hgrow hat hW0 q0 q1 q2 q3 q4 p0 p1 p2 p3 lq lp cV' lV qb pb hVW hO3
  go_wp2
  refine bodyPost_ret (v:=.bool true) (by simp [results,Tryz.results21,go_sem]) rfl ⟨rfl,jo5 hfin.out bL⟩
theorem jwr (V x n:Nat) (n0 n1 n2 n3 n4 n5 n6:Int) (v7:Value) (y:Rep) (clock:Int) (w:World) (own:Nat->Prop) (P:Nat->World->(Nat->Prop)->Prop) (K:∀ j,Keeps (P j)) (h:P 0 w own) (gs:Nat->Nat) (cust:Nat->Int) (rep:Nat->Rep) (hn:n<=4294967296)
 (HX:Hid (∀ j loc W,ja7 (P j) w own loc W->∃ a c,V<W.heap.size/\W.cell? (aq V 0)=some (.slice a n c)/\∀ i,i<n->∃ b,a=some (aq b 0)/\b<W.heap.size/\W.cell? (aq b i)=some (pt (gs i) 0)/\gs i<W.heap.size/\W.cell? (aq (gs i) 0)=some (iv (cust i))))
 (HC:Hid (jc2 w own (P 0) (P 0) 19 #[pt x 0] (iv clock)))
 (HP:Hid (∀ j,j<n->jc2 w own (P j) (P j) 37 #[pt x 0,iv (cust j),iv ((j:Int)+1)] (.tuple #[.agg #[iv (rep j).kind,iv (rep j).order,iv (rep j).cents,iv (rep j).upto],.bool true])))
 (HSe:Hid (∀ j,j<n->jc2 w own (P j) (P (j+1)) 44 #[pt (gs j) 0,.agg #[iv n0,iv n1,iv n2,iv n3,iv n4,iv n5,iv n6,v7],.agg #[iv (rep j).kind,iv (rep j).order,iv (rep j).cents,iv (rep j).upto],iv clock,.agg #[iv y.kind,iv y.order,iv y.cents,iv y.upto]] (.bool true))) :
 Calls Tryz.prog 22 #[pt V 0,.agg #[iv n0,iv n1,iv n2,iv n3,iv n4,iv n5,iv n6,v7],pt x 0,.agg #[iv y.kind,iv y.order,iv y.cents,iv y.upto]] w fun e w'=>e=.returned (.bool true)/\jap (P n) w w' own:=by
 have HW:Hid (∀ k,own k->k<w.heap.size):=(K 0).lt h
 obtain ⟨y1,y2,y3,y4⟩:=y
 simp only at HSe ⊢
 have hT0:Hid (ja7 (P 0) w own (fun k=>k=w.heap.size\/k=w.heap.size+1) ((w.alloc (.cells #[iv n0,iv n1,iv n2,iv n3,iv n4,iv n5,iv n6,v7] 29)).alloc (.cells #[iv y1,iv y2,iv y3,iv y4] 42))):=jah (K 0) h (((Below.refl _ _).alloc (Nat.le_refl _) _).alloc (by simp) _) (fun k e=>by simp;omega)
 have cb0:Hid (((w.alloc (.cells #[iv n0,iv n1,iv n2,iv n3,iv n4,iv n5,iv n6,v7] 29)).alloc (.cells #[iv y1,iv y2,iv y3,iv y4] 42)).heap[w.heap.size]?=some (.cells #[iv n0,iv n1,iv n2,iv n3,iv n4,iv n5,iv n6,v7] 29 (0,0))):=(Below.heap_alloc _ _ _ (by simp)).trans (heap_alloc_new w _)
 have yb0:Hid (((w.alloc (.cells #[iv n0,iv n1,iv n2,iv n3,iv n4,iv n5,iv n6,v7] 29)).alloc (.cells #[iv y1,iv y2,iv y3,iv y4] 42)).heap[w.heap.size+1]?=some (.cells #[iv y1,iv y2,iv y3,iv y4] 42 (0,0))):=jbd w _ _
 clear h
 go_enter Tryz.func22,Tryz.ntmps22
 go_wp2_with fail
 generalize (w.alloc (.cells #[iv n0,iv n1,iv n2,iv n3,iv n4,iv n5,iv n6,v7] 29)).alloc (.cells #[iv y1,iv y2,iv y3,iv y4] 42)=W0 at hT0 cb0 yb0 ⊢
 refine (HC.out _ _ hT0.out).mono ?_
 rintro e W1 ⟨rfl,hT1,hk1⟩
 have cb1:Hid _:=(hk1 _ (.inl rfl)).trans cb0.out
 have yb1:Hid _:=(hk1 _ (.inr rfl)).trans yb0.out
 replace hT1:Hid _:=hT1
 clear hk1 hT0 cb0 yb0 HC
 go_wp2_with fail
 go_loopw [10] (fun i wr=>∃ j:Nat,j<=n/\i=iv j/\Hid (ja7 (P j) w own (fun k=>k=w.heap.size\/k=w.heap.size+1) wr)/\Hid (wr.heap[w.heap.size]?=some (.cells #[iv n0,iv n1,iv n2,iv n3,iv n4,iv n5,iv n6,v7] 29 (0,0)))/\Hid (wr.heap[w.heap.size+1]?=some (.cells #[iv y1,iv y2,iv y3,iv y4] 42 (0,0)))) (fun i _=>n - (intOf i).toNat)
 case atStart=>exact ⟨0,Nat.zero_le _,rfl,hT1,cb1,yb1⟩
 case round =>
  obtain ⟨j,hj,rfl,HK,cb,yb⟩:=hrel
  clear hT1 cb1 yb1
  obtain ⟨a,ca,hV,cV,hrow⟩:=HX.out _ _ _ HK.out
  by_cases hlt:j<n
  ·obtain ⟨b,rfl,hb,b0,hg,g0⟩:=hrow j hlt
   have HPj:Hid _:=HP.out j hlt
   have HSj:Hid _:=HSe.out j hlt
   have bj0:(0:Int)<=(j:Int):=by omega
   have bj1:(j:Int)<(n:Int):=by omega
   have hwj:IntKind.i64.wrap ((j:Int)+1)=(j:Int)+1:=jab (by omega) (by omega)
   have KPj:=K j
   have KPj1:=K (j+1)
   have HNX:Hid (∀ wr',ja7 (P (j+1)) w own (fun k=>k=w.heap.size\/k=w.heap.size+1) wr'->wr'.heap[w.heap.size]?=some (.cells #[iv n0,iv n1,iv n2,iv n3,iv n4,iv n5,iv n6,v7] 29 (0,0))->wr'.heap[w.heap.size+1]?=some (.cells #[iv y1,iv y2,iv y3,iv y4] 42 (0,0))->∃ j':Nat,j'<=n/\Value.int .i64 ((j:Int)+1)=iv j'/\Hid (ja7 (P j') w own (fun k=>k=w.heap.size\/k=w.heap.size+1) wr')/\Hid (wr'.heap[w.heap.size]?=some (.cells #[iv n0,iv n1,iv n2,iv n3,iv n4,iv n5,iv n6,v7] 29 (0,0)))/\Hid (wr'.heap[w.heap.size+1]?=some (.cells #[iv y1,iv y2,iv y3,iv y4] 42 (0,0)))):=fun wr' h1 h2 h3=>⟨j+1,by omega,by simp,h1,h2,h3⟩
   generalize cust j=kc at g0 HPj
   generalize gs j=gj at b0 hg g0 HSj
   generalize rep j=rj at HPj HSj
   obtain ⟨r1,r2,r3,r4⟩:=rj
   simp only at HPj HSj
   generalize P j=Pj at HK HPj HSj KPj
   generalize P (j+1)=Pj1 at HSj KPj1 HNX
   clear HP HSe hrow HX
   go_wp2_with fail
   refine (HPj.out _ _ (ja2 KPj HK.out bL)).mono ?_
   rintro e V1 ⟨rfl,hV1,hk⟩
   have cb1:Hid _:=(hk _ (.inl rfl)).trans cb.out
   have yb1:Hid _:=(hk _ (.inr rfl)).trans yb.out
   have lc1:w.heap.size<V1.heap.size:=(blt cb1.out)
   have ly1:w.heap.size+1<V1.heap.size:=(blt yb1.out)
   have hU1:Hid (ja7 Pj w own (fun k=>(k=w.heap.size\/k=w.heap.size+1)\/k=V1.heap.size) (V1.alloc (.cells #[iv r1,iv r2,iv r3,iv r4] 42))):=jaz KPj hV1 _
   have cu1:Hid ((V1.alloc (.cells #[iv r1,iv r2,iv r3,iv r4] 42)).heap[w.heap.size]?=some (.cells #[iv n0,iv n1,iv n2,iv n3,iv n4,iv n5,iv n6,v7] 29 (0,0))):=(Below.heap_alloc _ _ _ lc1).trans cb1.out
   have yu1:Hid ((V1.alloc (.cells #[iv r1,iv r2,iv r3,iv r4] 42)).heap[w.heap.size+1]?=some (.cells #[iv y1,iv y2,iv y3,iv y4] 42 (0,0))):=(Below.heap_alloc _ _ _ ly1).trans yb1.out
   obtain ⟨c0,c1,c2,c3,c4,c5,c6,c7⟩:=juc cb1.out
   obtain ⟨q0,q1,q2,q3⟩:=jck yb1.out
   have np1:V1.heap.size≠w.heap.size:=by omega
   have np2:V1.heap.size≠w.heap.size+1:=by omega
   clear hk hV1 HPj HK cb yb b0 hb hg g0 cV hV cb1 yb1
   go_wp2_with fail
   refine (HSj.out _ _ (ja2 KPj hU1.out bL)).mono ?_
   rintro e V2 ⟨rfl,hV2,hk2⟩
   have cb2:Hid _:=(hk2 _ (.inl (.inl rfl))).trans cu1.out
   have yb2:Hid _:=(hk2 _ (.inl (.inr rfl))).trans yu1.out
   have hU2:Hid (ja7 Pj1 w own (fun k=>k=w.heap.size\/k=w.heap.size+1) V2):=je9 hV2 (fun k e=>.inl e)
   clear hk2 hV2 hU1 cu1 yu1 c0 c1 c2 c3 c4 c5 c6 c7 q0 q1 q2 q3 HSj lc1 ly1 np1 np2
   go_wp2_with fail
   go_roundw
   case rel=>first|exact HNX.out _ (ja2 KPj1 hU2.out bL) cb2.out yb2.out|(rw [hwj];exact HNX.out _ (ja2 KPj1 hU2.out bL) cb2.out yb2.out)
   case measure=>simp [intOf];omega
  ·have hje:j=n:=by omega
   subst hje
   clear HP HSe HX hrow
   go_wp2
   refine bodyPost_ret (v:=.bool true) (by simp [results,Tryz.results22,go_sem]) rfl ⟨rfl,jan (ja2 (K j) HK.out bL)⟩
theorem jq4 (n:Nat) (v0 v1 v2 v3 v4 v5 v6 v7:Value) (sa:Option Addr) (sc:Nat) (ps:List Stp) (w:World) (Q:Nat->World->(Nat->Prop)->Prop) (KQ:∀ x,Keeps (Q x)) (P Pm Pb:Nat->Nat->Nat->World->(Nat->Prop)->Prop) (KP:∀ a b j,Keeps (P a b j)) (KPm:∀ a b j,Keeps (Pm a b j)) (KPb:∀ a b j,Keeps (Pb a b j)) (rep:Nat->Rep) (clk:Nat->Int) (nl:Nat->Nat) (hn:n<=4611686018427387904) (hps:stepsAt w sa n ps)
 (HO:Hid (∀ W,Below w.heap.size w W->Calls Tryz.prog 13 #[.agg #[v0,v1,v2,v3,v4,v5,v6,v7,.slice sa n sc]] W fun e w'=>∃ x own,e=.returned (.tuple #[pt x 0,.bool true])/\Q x w' own/\(∀ k,own k->W.heap.size<=k)/\Below W.heap.size W w'))
 (HP0:Hid (∀ a L W o1 o,Q a W o1->W.heap[L]?=some (.cells #[.slice none 0 0] 56 (0,0))->(∀ k,o1 k->k≠L)->(∀ k,o k↔o1 k\/k=L)->P a L 0 W o))
 (HDa:Hid (∀ a b j,j<n->∀ W o,P a b j W o->Calls Tryz.prog 15 #[pt a 0,.agg #[iv (ps.getD j jaq).n,iv (ps.getD j jaq).k,iv (ps.getD j jaq).t,iv (ps.getD j jaq).c,iv (ps.getD j jaq).u,iv (ps.getD j jaq).o]] W fun e w'=>e=.returned (.tuple #[.agg #[iv (rep j).kind,iv (rep j).order,iv (rep j).cents,iv (rep j).upto],.bool true])/\jap (Pm a b j) W w' o))
 (HCl:Hid (∀ a b j,j<n->∀ W o,Pm a b j W o->Calls Tryz.prog 19 #[pt a 0] W fun e w'=>e=.returned (iv (clk j))/\jap (Pm a b j) W w' o))
 (HLn:Hid (∀ a b j,j<n->∀ W o,Pm a b j W o->∃ la lc,b<W.heap.size/\W.cell? (aq b 0)=some (.slice la (nl j) lc)))
 (HTo:Hid (∀ a b j,j<n->∀ W o,Pm a b j W o->∀ W,Calls Tryz.prog 20 #[.agg #[v0,v1,v2,v3,v4,v5,v6,v7],.agg #[iv (rep j).kind,iv (rep j).order,iv (rep j).cents,iv (rep j).upto],iv (clk j),iv (nl j)] W fun e w'=>e=.returned (.bool true)/\Below W.heap.size W w'))
 (HBo:Hid (∀ a b j,j<n->∀ W o,Pm a b j W o->Calls Tryz.prog 21 #[pt b 0,.agg #[iv (ps.getD j jaq).k,iv (ps.getD j jaq).t,iv (ps.getD j jaq).c,iv (ps.getD j jaq).u,iv (ps.getD j jaq).o],.agg #[iv (rep j).kind,iv (rep j).order,iv (rep j).cents,iv (rep j).upto],iv (clk j)] W fun e w'=>e=.returned (.bool true)/\jap (Pb a b j) W w' o))
 (HWa:Hid (∀ a b j,j<n->∀ W o,Pb a b j W o->Calls Tryz.prog 22 #[pt b 0,.agg #[v0,v1,v2,v3,v4,v5,v6,v7],pt a 0,.agg #[iv (rep j).kind,iv (rep j).order,iv (rep j).cents,iv (rep j).upto]] W fun e w'=>e=.returned (.bool true)/\jap (P a b (j+1)) W w' o)) :
 Calls Tryz.prog 11 #[.agg #[v0,v1,v2,v3,v4,v5,v6,v7,.slice sa n sc]] w fun e w'=>e=.returned (.bool true)/\Below w.heap.size w w':=by
 have hlen:ps.length=n:=hps.1
 go_enter Tryz.func11,Tryz.ntmps11
 go_wp2_with fail
 refine (HO.out _ ((Below.refl _ _).alloc (Nat.le_refl _) _)).mono ?_
 rintro e W1 ⟨xa,oa,rfl,hqa,hfa,b1⟩
 have hb1:Below w.heap.size w W1:=Below.trans ((Below.refl _ _).alloc (Nat.le_refl _) _) (b1.mono (by simp))
 have x1:Hid _:=(b1.block w.heap.size (by simp)).trans (heap_alloc_new w (.cells #[v0,v1,v2,v3,v4,v5,v6,v7,.slice sa n sc] 32))
 have hfa1:∀ k,oa k->w.heap.size+1<=k:=fun k e=>Nat.le_trans (by simp) (hfa k e)
 obtain ⟨k0,k1,k2,k3,k4,k5,k6,k7,k8⟩:=je2 x1.out
 have l1:w.heap.size<W1.heap.size:=(blt x1.out)
 replace hqa:Hid _:=hqa
 replace hfa1:Hid _:=hfa1
 replace hb1:Hid _:=hb1
 clear b1 hfa
 go_wp2_with fail
 clear k0 k1 k2 k3 k4 k5 k6 k7 k8
 have hb2:Hid (Below w.heap.size w (W1.alloc (.cells #[.slice none 0 0] 56))):=hb1.out.alloc hb1.out.size _
 have x2:Hid ((W1.alloc (.cells #[.slice none 0 0] 56)).heap[w.heap.size]?=some (.cells #[v0,v1,v2,v3,v4,v5,v6,v7,.slice sa n sc] 32 (0,0))):=(Below.heap_alloc _ _ _ l1).trans x1.out
 obtain ⟨own2,hiff⟩:∃ own2:Nat->Prop,∀ k,own2 k↔oa k\/k=W1.heap.size:=⟨fun k=>oa k\/k=W1.heap.size,fun _=>Iff.rfl⟩
 have hown:Hid (∀ k,own2 k->w.heap.size+1<=k):=fun k e=>((hiff k).1 e).elim (hfa1.out k) (fun e=>by omega)
 have hp2:Hid (P xa W1.heap.size 0 (W1.alloc (.cells #[.slice none 0 0] 56)) own2):=HP0.out xa W1.heap.size (W1.alloc (.cells #[.slice none 0 0] 56)) oa own2 ((KQ xa).keep hqa.out (by simp) (fun k e=>Below.heap_alloc _ _ _ ((KQ xa).lt hqa.out k e))) (heap_alloc_new W1 _) (fun k e c=>by have:=(KQ xa).lt hqa.out k e;omega) hiff
 generalize W1.alloc (.cells #[.slice none 0 0] 56)=W2 at hb2 x2 hp2 ⊢
 generalize hxb:W1.heap.size=xb at hp2 ⊢
 have l2:w.heap.size<W2.heap.size:=(blt x2.out)
 have HS2:Hid (∀ W,Same own2 W2 W->stepsAt W sa n ps):=fun W hs=>⟨hps.1,fun hne=>by
  obtain ⟨b,off,e,hb,hc⟩:=hps.2 hne
  have hbW:=hb2.out.block b hb
  have hk:=(hs.block b (by omega) (fun c=>by have:=hown.out b c;omega)).trans hbW
  exact ⟨b,off,e,by have:=hs.size;omega,fun i hi=>jnx (hc i hi) hk⟩⟩
 have HX2:Hid (∀ W,Same own2 W2 W->W.heap[w.heap.size]?=some (.cells #[v0,v1,v2,v3,v4,v5,v6,v7,.slice sa n sc] 32 (0,0))):=fun W hs=>(hs.block _ l2 (fun e=>by have:=hown.out _ e;omega)).trans x2.out
 have HD2:Hid (∀ b off,sa=some (aq b off)->ps≠[]->¬ own2 b):=fun b off e hne c=>by
  obtain ⟨b',off',e',hb,_⟩:=hps.2 hne
  rw [e] at e'
  simp only [Option.some.injEq,Addr.mk.injEq] at e'
  have:=hown.out b c
  omega
 have HE2:Hid (∀ W,jap (P xa xb n) W2 W own2->Below w.heap.size w W):=fun W h=>by
  obtain ⟨_,_,hs,_⟩:=h
  exact hb2.out.trans (hs.toBelow hb2.out.size (fun k e=>by have:=hown.out k e;omega))
 have HW2:Hid (∀ k,own2 k->k<W2.heap.size):=(KP xa xb 0).lt hp2.out
 obtain ⟨k0,k1,k2,k3,k4,k5,k6,k7,k8⟩:=je2 x2.out
 clear hqa hfa1 hb1 x1 hown l1 hiff hxb
 go_wp2_with fail
 have hT2:Hid (ja7 (P xa xb 0) W2 own2 (fun _=>False) W2):=jah (KP xa xb 0) hp2.out (Below.refl _ _) (fun _ e=>e.elim)
 clear k0 k1 k2 k3 k4 k5 k6 k7 k8
 go_loopw [6] (fun i wr=>∃ j:Nat,j<=n/\i=iv j/\Hid (ja7 (P xa xb j) W2 own2 (fun _=>False) wr)) (fun i _=>n - (intOf i).toNat)
 case atStart=>exact ⟨0,Nat.zero_le _,rfl,hT2⟩
 case round =>
  obtain ⟨j,hj,rfl,HK⟩:=hrel
  clear hT2 hp2 HP0 HO hb2 x2 l2
  have HXj:Hid _:=HX2.out
  by_cases hlt:j<n
  ·obtain ⟨b,off,hsa,_,_⟩:=(HS2.out wr (jag HK.out)).2 (by intro e;rw [e] at hlen;simp at hlen;omega)
   have HDaj:Hid _:=ja6 (loc:=fun _=>False) HW2.out (HDa.out xa xb j hlt)
   have HCj:Hid (∀ pz W,ja7 (Pm xa xb j) W2 own2 (fun k=>False\/k=pz) W->_):=fun pz W hW=>ja6 (loc:=(fun k=>False\/k=pz)) HW2.out (HCl.out xa xb j hlt) W hW
   have HLj:Hid (∀ loc W,ja7 (Pm xa xb j) W2 own2 loc W->∃ la lc,xb<W.heap.size/\W.cell? (aq xb 0)=some (.slice la (nl j) lc)):=fun loc W hW=>by
    obtain ⟨o1,a1,_⟩:=hW
    exact HLn.out xa xb j hlt W o1 a1
   have HTj:Hid (∀ loc W,ja7 (Pm xa xb j) W2 own2 loc W->∀ W',Calls Tryz.prog 20 #[.agg #[v0,v1,v2,v3,v4,v5,v6,v7],.agg #[iv (rep j).kind,iv (rep j).order,iv (rep j).cents,iv (rep j).upto],iv (clk j),iv (nl j)] W' fun e w'=>e=.returned (.bool true)/\Below W'.heap.size W' w'):=fun loc W hW=>by
    obtain ⟨o1,a1,_⟩:=hW
    exact HTo.out xa xb j hlt W o1 a1
   have HBj:Hid (∀ pz W,ja7 (Pm xa xb j) W2 own2 (fun k=>False\/k=pz) W->_):=fun pz W hW=>ja6 (loc:=(fun k=>False\/k=pz)) HW2.out (HBo.out xa xb j hlt) W hW
   have HWj:Hid (∀ pz W,ja7 (Pb xa xb j) W2 own2 (fun k=>False\/k=pz) W->_):=fun pz W hW=>ja6 (loc:=(fun k=>False\/k=pz)) HW2.out (HWa.out xa xb j hlt) W hW
   have bj0:(0:Int)<=(j:Int):=by omega
   have bj1:(j:Int)<(n:Int):=by omega
   have hwj:IntKind.i64.wrap ((j:Int)+1)=(j:Int)+1:=jab (by omega) (by omega)
   have HSj:Hid (∀ W,Same own2 W2 W->b<W.heap.size/\jw1 W b (off+j * 6) (ps.getD j jaq)):=by
    intro W hs
    obtain ⟨b',off',e,hb',hc⟩:=(HS2.out W hs).2 (by intro e;rw [e] at hlen;simp at hlen;omega)
    rw [hsa] at e
    simp only [Option.some.injEq,Addr.mk.injEq] at e
    obtain ⟨rfl,rfl,_⟩:=e
    exact ⟨hb',hc j hlt⟩
   have KPj:=KP xa xb j
   have KMj:=KPm xa xb j
   have KBj:=KPb xa xb j
   have KPj1:=KP xa xb (j+1)
   have HNX:Hid (∀ wr',ja7 (P xa xb (j+1)) W2 own2 (fun _=>False) wr'->∃ j':Nat,j'<=n/\Value.int .i64 ((j:Int)+1)=iv j'/\Hid (ja7 (P xa xb j') W2 own2 (fun _=>False) wr')):=fun wr' h=>⟨j+1,by omega,by simp,h⟩
   generalize ps.getD j jaq=pj at HDaj HBj HSj
   obtain ⟨pn,pk,pt,pc,pu,po⟩:=pj
   generalize rep j=rj at HDaj HBj HWj HTj
   obtain ⟨r1,r2,r3,r4⟩:=rj
   generalize clk j=cj at HCj HBj HTj
   generalize nl j=nj at HLj HTj
   simp only at HDaj HBj HSj HWj HTj
   subst hsa
   clear HDa HCl HLn HTo HBo HWa HS2 HX2 HD2 HE2
   generalize P xa xb j=Pj at HK HDaj KPj
   generalize Pm xa xb j=Mj at HDaj HCj HLj HTj HBj KMj
   generalize Pb xa xb j=Bj at HBj HWj KBj
   generalize P xa xb (j+1)=Pj1 at HWj KPj1 HNX
   obtain ⟨k0,k1,k2,k3,k4,k5,k6,k7,k8⟩:=je2 (HXj.out wr (jag HK.out))
   obtain ⟨hb,s0,s1,s2,s3,s4,s5⟩:=HSj.out wr (jag HK.out)
   have lx:w.heap.size<wr.heap.size:=(Array.getElem?_eq_some_iff.1 (HXj.out wr (jag HK.out))).1
   go_wp2_with fail
   refine (HDaj.out _ (ja2 KPj HK.out bL)).mono ?_
   rintro e V2 ⟨rfl,hV2,hk⟩
   clear k0 k1 k2 k3 k4 k5 k6 k7 k8 hb s0 s1 s2 s3 s4 s5 lx
   obtain ⟨k0,k1,k2,k3,k4,k5,k6,k7,k8⟩:=je2 (HXj.out V2 (jag hV2))
   obtain ⟨hb,s0,s1,s2,s3,s4,s5⟩:=HSj.out V2 (jag hV2)
   have lx:w.heap.size<V2.heap.size:=(Array.getElem?_eq_some_iff.1 (HXj.out V2 (jag hV2))).1
   have hU2:Hid (ja7 Mj W2 own2 (fun k=>False\/k=V2.heap.size) (V2.alloc (.cells #[iv r1,iv r2,iv r3,iv r4] 42))):=jaz KMj hV2 _
   have p2:Hid ((V2.alloc (.cells #[iv r1,iv r2,iv r3,iv r4] 42)).heap[V2.heap.size]?=some (.cells #[iv r1,iv r2,iv r3,iv r4] 42 (0,0))):=heap_alloc_new V2 _
   clear hk HK HDaj hV2
   go_wp2_with fail
   generalize V2.alloc (.cells #[iv r1,iv r2,iv r3,iv r4] 42)=U2 at hU2 p2 ⊢
   clear k0 k1 k2 k3 k4 k5 k6 k7 k8 hb s0 s1 s2 s3 s4 s5 lx
   generalize V2.heap.size=pz at hU2 p2 ⊢
   refine (HCj.out _ _ (ja2 KMj hU2.out bL)).mono ?_
   rintro e V3 ⟨rfl,hV3,hk⟩
   have p3:Hid _:=(hk _ (.inr rfl)).trans p2.out
   obtain ⟨k0,k1,k2,k3,k4,k5,k6,k7,k8⟩:=je2 (HXj.out V3 (jag hV3))
   obtain ⟨hb,s0,s1,s2,s3,s4,s5⟩:=HSj.out V3 (jag hV3)
   have lx:w.heap.size<V3.heap.size:=(Array.getElem?_eq_some_iff.1 (HXj.out V3 (jag hV3))).1
   obtain ⟨e0,e1,e2,e3⟩:=jck p3.out
   have lp:pz<V3.heap.size:=(blt p3.out)
   obtain ⟨la,lc,hL,cL⟩:=HLj.out _ _ hV3
   replace hV3:Hid _:=hV3
   clear hk hU2 p2 HCj
   go_wp2_with fail
   go_region_held3 (fun w'=>(w'.cell? (aq w.heap.size 0)=some v0/\w'.cell? (aq w.heap.size 1)=some v1/\w'.cell? (aq w.heap.size 2)=some v2/\w'.cell? (aq w.heap.size 3)=some v3/\w'.cell? (aq w.heap.size 4)=some v4/\w'.cell? (aq w.heap.size 5)=some v5/\w'.cell? (aq w.heap.size 6)=some v6/\w'.cell? (aq w.heap.size 7)=some v7)/\(w'.cell? (aq pz 0)=some (iv r1)/\w'.cell? (aq pz 1)=some (iv r2)/\w'.cell? (aq pz 2)=some (iv r3)/\w'.cell? (aq pz 3)=some (iv r4))/\w'.cell? (aq xb 0)=some (.slice la nj lc)) (simp [go_sem, *])
    (first
      | (go_at_call 20;refine (HTj.out _ _ hV3.out _).mono ?_;rintro e V4 ⟨rfl,b4⟩
         have hV4:Hid (ja7 Mj W2 own2 (fun k=>False\/k=pz) V4):=ja2 KMj hV3.out (Below.trans bL b4)
         have p4:Hid _:=(b4.block _ (blt p3.out)).trans p3.out
         obtain ⟨f0,f1,f2,f3⟩:=jck p4.out
         obtain ⟨j0,j1,j2,j3,j4,j5,j6,j7,j8⟩:=je2 (HXj.out V4 (jag hV4.out))
         have cL4:V4.cell? (aq xb 0)=some (.slice la nj lc):=(b4.cell (p:=(aq xb 0)) (by simpa using hL)).trans (by simp [go_sem, *])))
   clear k0 k1 k2 k3 k4 k5 k6 k7 k8 hb s0 s1 s2 s3 s4 s5 lx
   clear e0 e1 e2 e3 lp
   clear hL cL cL4 f0 f1 f2 f3 j0 j1 j2 j3 j4 j5 j6 j7 j8 b4 hV3 p3 HTj HLj
   obtain ⟨k0,k1,k2,k3,k4,k5,k6,k7,k8⟩:=je2 (HXj.out V4 (jag hV4.out))
   obtain ⟨hb,s0,s1,s2,s3,s4,s5⟩:=HSj.out V4 (jag hV4.out)
   have lx:w.heap.size<V4.heap.size:=(Array.getElem?_eq_some_iff.1 (HXj.out V4 (jag hV4.out))).1
   obtain ⟨e0,e1,e2,e3⟩:=jck p4.out
   have lp:pz<V4.heap.size:=(blt p4.out)
   go_wp2_with fail
   go_region_held3 (fun w'=>(w'.cell? (aq w.heap.size 8)=some (.slice (some (aq b off)) n sc)/\w'.cell? (aq b (off+j * 6+1))=some (iv pk)/\w'.cell? (aq b (off+j * 6+2))=some (iv pt)/\w'.cell? (aq b (off+j * 6+3))=some (iv pc)/\w'.cell? (aq b (off+j * 6+4))=some (iv pu)/\w'.cell? (aq b (off+j * 6+5))=some (iv po))/\w'.cell? (aq pz 0)=some (iv r1)/\w'.cell? (aq pz 1)=some (iv r2)/\w'.cell? (aq pz 2)=some (iv r3)/\w'.cell? (aq pz 3)=some (iv r4)) (simp [go_sem, *])
    (first
      | (go_at_call 21;refine (HBj.out _ _ (ja2 KMj hV4.out bL)).mono ?_;rintro e V5 ⟨rfl,hV5,hk⟩
         have p5:Hid _:=(hk _ (.inr rfl)).trans p4.out
         obtain ⟨f0,f1,f2,f3⟩:=jck p5.out
         obtain ⟨j0,j1,j2,j3,j4,j5,j6,j7,j8⟩:=je2 (HXj.out V5 (jag hV5))
         obtain ⟨ib,i0,i1,i2,i3,i4,i5⟩:=HSj.out V5 (jag hV5)))
   clear k0 k1 k2 k3 k4 k5 k6 k7 k8 hb s0 s1 s2 s3 s4 s5 lx
   clear e0 e1 e2 e3 lp
   have lx:w.heap.size<V5.heap.size:=(Array.getElem?_eq_some_iff.1 (HXj.out V5 (jag hV5))).1
   have lp:pz<V5.heap.size:=(blt p5.out)
   replace hV5:Hid _:=hV5
   clear hk hV4 p4 HBj
   go_wp2_with fail
   refine (HWj.out _ _ (ja2 KBj hV5.out bL)).mono ?_
   rintro e V6 ⟨rfl,hV6,_⟩
   clear f0 f1 f2 f3 j0 j1 j2 j3 j4 j5 j6 j7 j8 ib i0 i1 i2 i3 i4 i5 lx lp
   have hU6:Hid (ja7 Pj1 W2 own2 (fun _=>False) V6):=jc3 hV6
   clear hV5 HWj hV6 HXj HSj p5
   go_wp2_with fail
   go_roundw
   case rel=>first|exact HNX.out _ (ja2 KPj1 hU6.out bL)|(rw [hwj];exact HNX.out _ (ja2 KPj1 hU6.out bL))
   case measure=>simp [intOf];omega
  ·have hje:j=n:=by omega
   subst hje
   obtain ⟨k0,k1,k2,k3,k4,k5,k6,k7,k8⟩:=je2 (HX2.out wr (jag HK.out))
   have lx:w.heap.size<wr.heap.size:=(Array.getElem?_eq_some_iff.1 (HX2.out wr (jag HK.out))).1
   have hE:Hid (Below w.heap.size w wr):=HE2.out _ (jan HK.out)
   clear HDa HCl HLn HTo HBo HWa HS2 HX2 HD2 HXj HE2
   go_wp2
   refine bodyPost_ret (v:=.bool true) (by simp [results,Tryz.results11,go_sem]) rfl ⟨rfl,bL⟩
theorem jpy (v0 v1 v2 v3 v4 v5 v6 v7:Value) (sa:Option Addr) (n sc:Nat) (w:World)
 (HO:Hid (∀ W,Below w.heap.size w W->Calls Tryz.prog 13 #[.agg #[v0,v1,v2,v3,v4,v5,v6,v7,.slice sa n sc]] W fun e w'=>e=.returned (.tuple #[.pointer none,.bool true])/\Below W.heap.size W w')) :
 Calls Tryz.prog 11 #[.agg #[v0,v1,v2,v3,v4,v5,v6,v7,.slice sa n sc]] w fun e w'=>e=.returned (.bool true)/\Below w.heap.size w w':=by
 go_enter Tryz.func11,Tryz.ntmps11
 go_wp2_with fail
 refine (HO.out _ ((Below.refl _ _).alloc (Nat.le_refl _) _)).mono ?_
 rintro e W1 ⟨rfl,b1⟩
 have hb1:Hid (Below w.heap.size w W1):=Below.trans ((Below.refl _ _).alloc (Nat.le_refl _) _) (b1.mono (by simp))
 clear b1 HO
 go_wp2
 refine bodyPost_ret (v:=.bool true) (by simp [results,Tryz.results11,go_sem]) rfl ⟨rfl,bL⟩
section
def dcL (x V:Nat) (S:Sal) (fl:List Lf) (W:World) (o:Nat->Prop):Prop:=∃ gs,jty (jm6 x S) (jdt V gs fl) W o
theorem jjv (x V:Nat) (S:Sal) (fl:List Lf):Keeps (dcL x V S fl) :=
 ⟨fun h=>by obtain ⟨gs,h⟩:=h;exact (qbk (jed x S) (jei V gs fl)).lt h,fun h hz hk=>by obtain ⟨gs,h⟩:=h;exact ⟨gs,(qbk (jed x S) (jei V gs fl)).keep h hz hk⟩⟩
def dcP (x V:Nat) (S:Sal) (fl:List Lf) (W:World) (o:Nat->Prop):Prop:=dcL x V S fl W o/\dInv S fl
structure dcF (S:Sal) (fl:List Lf) (p:Stp) (r:Rep):Prop where
 told:qgl S.C r S.now fl.length
 born:qdw fl r
 len:(je1 fl p r S.now).length=S.os.length
 seen:∀ i,i<S.os.length->((je1 fl p r S.now).getD i lf0).cust=(S.os.getD i ja3).cust/\jn4 S.C.lease S.C.keep ((je1 fl p r S.now).getD i lf0) (jch S i (S.os.getD i ja3)) S.now r/\(0<=((je1 fl p r S.now).getD i lf0).alive/\((je1 fl p r S.now).getD i lf0).alive<=S.now)/\(0<=((je1 fl p r S.now).getD i lf0).fin/\((je1 fl p r S.now).getD i lf0).fin<=S.now)
 inv:dInv S (jhm S (je1 fl p r S.now))
 few:fl.length<=4294967296
def dcM (x V:Nat) (S:Sal) (fl:List Lf) (p:Stp) (r:Rep) (W:World) (o:Nat->Prop):Prop:=dcL x V S fl W o/\dcF S fl p r
def dcB (x V:Nat) (S:Sal) (fl:List Lf) (p:Stp) (r:Rep) (W:World) (o:Nat->Prop):Prop:=dcL x V S (je1 fl p r S.now) W o/\dcF S fl p r
theorem qe1 (x V:Nat) (S:Sal) (fl:List Lf):Keeps (dcP x V S fl):=⟨fun h=>(jjv x V S fl).lt h.1,fun h hz hk=>⟨(jjv x V S fl).keep h.1 hz hk,h.2⟩⟩
theorem qel (x V:Nat) (S:Sal) (fl:List Lf) (p:Stp) (r:Rep):Keeps (dcM x V S fl p r):=⟨fun h=>(jjv x V S fl).lt h.1,fun h hz hk=>⟨(jjv x V S fl).keep h.1 hz hk,h.2⟩⟩
theorem qdo (x V:Nat) (S:Sal) (fl:List Lf) (p:Stp) (r:Rep):Keeps (dcB x V S fl p r):=⟨fun h=>(jjv x V S _).lt h.1,fun h hz hk=>⟨(jjv x V S _).keep h.1 hz hk,h.2⟩⟩
section
variable {x V:Nat} {S:Sal} {fl:List Lf}
theorem onD {S':Sal} {f:FuncId} {args:Array Value} {v:Value} (h:∀ W o,jm6 x S W o->Calls Tryz.prog f args W fun e w'=>e=.returned v/\jap (jm6 x S') W w' o) (W:World) (o:Nat->Prop) (hp:dcL x V S fl W o):Calls Tryz.prog f args W fun e w'=>e=.returned v/\jap (fun W o=>dcL x V S' fl W o/\∃ o1,jm6 x S' W o1) W w' o:=by
 obtain ⟨gs,hp⟩:=hp
 refine (jgq (jei V gs fl) h W o hp).mono ?_
 rintro e w' ⟨rfl,hq⟩
 refine ⟨rfl,jb7 hq (fun _ _ h'=>?_)⟩
 refine ⟨⟨gs,h'⟩,?_⟩
 obtain ⟨o1,_,a1,_⟩:=h'
 exact ⟨o1,a1⟩
theorem qfa {W:World} {o:Nat->Prop} (h:dcP x V S fl W o) (p:Stp) (hf:p.fine) :
 Calls Tryz.prog 15 #[pt x 0,p.val] W fun e w'=>e=.returned (.tuple #[(S.does p).1.val,.bool true])/\jap (dcM x V (S.does p).2 fl p (S.does p).1) W w' o:=by
 obtain ⟨hs,hI⟩:=h
 obtain ⟨gs,o1,o2,a1,a2,a3,a4⟩:=id hs
 have hl:fl.length<=4294967296:=by rw [hI.len];exact a1.J.len
 refine (onD (fun W o hq=>jpf hq p hf) W o hs).mono ?_
 rintro e w' ⟨rfl,hq⟩
 refine ⟨rfl,jb7 hq (fun _ _ h=>?_)⟩
 obtain ⟨h1,o1',b1⟩:=h
 obtain ⟨d1,d2,d3,d4,d5⟩:=jzq hI a1.ps.2.R a1.J.I.now a1.I.os a1.J.I p b1.ps.2.R
 exact ⟨h1,d1,d2,d3,d4,d5,hl⟩
theorem qcr {W:World} {o:Nat->Prop} {p:Stp} {r:Rep} (h:dcM x V S fl p r W o) :
 Calls Tryz.prog 19 #[pt x 0] W fun e w'=>e=.returned (iv S.now)/\jap (dcM x V S fl p r) W w' o:=by
 refine (onD (fun W o hq=>jxu hq) W o h.1).mono ?_
 rintro e w' ⟨rfl,hq⟩
 exact ⟨rfl,jb7 hq (fun _ _ h'=>⟨h'.1,h.2⟩)⟩
theorem qg1 {gs:List Nat} {p:Stp} {r:Rep} {clock:Int} {W:World} {o:Nat->Prop} (h:jdt V gs fl W o) (hb:qdw fl r) (hn:fl.length<=4294967296) :
 Calls Tryz.prog 21 #[pt V 0,.agg #[iv p.k,iv p.t,iv p.c,iv p.u,iv p.o],.agg #[iv r.kind,iv r.order,iv r.cents,iv r.upto],iv clock] W fun e w'=>e=.returned (.bool true)/\jap (fun W o=>∃ gs,jdt V gs (je1 fl p r clock) W o) W w' o:=by
 have K:=jei V gs fl
 have hlt:=K.lt h
 have hh:=h
 obtain ⟨la,lc,hV,cV,hrow⟩:=jhw h
 obtain ⟨a,c,h1,h2,h3,hnd,h4,h5⟩:=h
 obtain ⟨ap1,ap2⟩:=jti h1 h2 h3 h4
 by_cases hnew:(r.kind=2\/r.kind=3)/\r.order=fl.length+1
 ·have e1:je1 fl p r clock=fl++[jjd r p clock]:=if_pos hnew
  rw [e1]
  have e2:jjd r p clock=jjd ⟨r.kind,(fl.length:Int)+1,r.cents,r.upto⟩ ⟨0,p.k,p.t,p.c,p.u,p.o⟩ clock:=rfl
  rw [hnew.2]
  refine (qaz V fl.length c a (qfb gs) p.k p.t p.c p.u p.o r.kind r.cents r.upto clock W h1 h2 ap1 hn hnew.1).mono ?_
  rintro e w' ⟨rfl,g,cap,lz,k1,k2,k3,k4,k5,k6⟩
  have hlen:(fl++[jjd r p clock]).length=fl.length+1:=by simp
  have hmem:∀ i,i<gs.length->gs.getD i 0<W.heap.size:=fun i hi=>(Array.getElem?_eq_some_iff.1 (h4 i (by omega))).1
  have hlz:lz ∉ gs:=fun hm=>by
   obtain ⟨i,hi,e⟩:=qcd hm
   have:=hmem i hi
   omega
  refine ⟨rfl,fun k=>k=V\/Value.ownBlock (.slice (some (aq g 0)) (fl.length+1) cap)=some k\/k∈gs++[lz],⟨gs++[lz],some (aq g 0),cap,by rw [hlen];exact k1,by rw [hlen];unfold qfb at k2 ⊢;rw [List.map_append];exact k2,by simp [h3],?_,fun i hi=>?_,fun k=>by rw [hlen]⟩,⟨k5.os,k5.tape,k5.output,k5.size,fun k hk hno=>k5.block k hk (fun e=>hno ((h5 k).2 (e.imp id .inl)))⟩,fun k e=>?_⟩
  ·rw [List.nodup_append]
   refine ⟨hnd,by simp,fun x hx y hy=>?_⟩
   have:y=lz:=by simpa using hy
   rw [this]
   exact fun e=>hlz (by rw [← e];exact hx)
  ·rw [hlen] at hi
   rw [jub (by omega)]
   by_cases e:i<fl.length
   ·rw [if_pos e]
    have eg:(gs++[lz]).getD i 0=gs.getD i 0:=by
       simp only [List.getD,List.getElem?_append]
       rw [if_pos (by omega)]
    rw [eg]
    have hgi:=hmem i (by omega)
    obtain ⟨q1,q2⟩:=ap2 _ (juj (show i<gs.length by omega))
    exact (k5.block _ hgi (fun c=>c.elim q1 q2)).trans (h4 i e)
   ·rw [if_neg e]
    have eg:(gs++[lz]).getD i 0=lz:=by
       have:i - gs.length=0:=by omega
       simp only [List.getD,List.getElem?_append]
       rw [if_neg (by omega),this]
       rfl
    rw [eg,e2]
    exact k3
  ·rcases e with e|e|e
   ·exact .inl ((h5 k).2 (.inl e))
   ·simp only [Value.ownBlock,Option.some.injEq] at e
    rw [← e]
    exact k6.imp (fun d=>(h5 g).2 (.inr (.inl d))) id
   ·rcases List.mem_append.1 e with e|e
    ·exact .inl ((h5 k).2 (.inr (.inr e)))
    ·have:k=lz:=by simpa using e
     rw [this];exact .inr k4
 ·have e1:je1 fl p r clock=fl:=if_neg hnew
  rw [e1]
  obtain ⟨ho,h7⟩:=hb.resolve_left hnew
  have key:r.kind≠7\/(r.kind=7/\∃ (i g b:Nat) (ce un:Int),r.order=(i:Int)+1/\i<fl.length/\la=some (aq b 0)/\b<W.heap.size/\W.cell? (aq b i)=some (pt g 0)/\g<W.heap.size/\W.cell? (aq g 4)=some (iv ce)/\W.cell? (aq g 1)=some (iv un)/\0<ce/\r.cents=ce * un/\IntKind.i64.wrap (ce * un)=ce * un):=by
   by_cases e:r.kind=7
   ·obtain ⟨b1,⟨b2,b3⟩,⟨b4,b5⟩,b6⟩:=h7 e
    obtain ⟨b,e1,q1,q2,q3,q4⟩:=hrow (r.order - 1).toNat (by omega)
    obtain ⟨_,x1,x4⟩:=ju8 q4
    refine .inr ⟨e,(r.order - 1).toNat,_,b,_,_,by omega,by omega,e1,q1,q2,q3,x4,x1,b2,b6,?_⟩
    have m0:0<=(fl.getD (r.order - 1).toNat lf0).cents * (fl.getD (r.order - 1).toNat lf0).units:=Int.mul_nonneg (by omega) b4
    have m1:(fl.getD (r.order - 1).toNat lf0).cents * (fl.getD (r.order - 1).toNat lf0).units<=1073741824 * 4294967296:=Int.mul_le_mul b3 b5 b4 (by decide)
    exact jab (by omega) (by omega)
   ·exact .inl e
  refine (qbc V fl.length lc la p.k p.t p.c p.u p.o r.kind r.order r.cents r.upto clock W hV cV hn ho key).mono ?_
  rintro e w' ⟨rfl,hb⟩
  exact ⟨rfl,o,⟨gs,K.keep hh hb.size (fun k e=>hb.block k (hlt k e))⟩,Same.of_below hb,fun k e=>.inl e⟩
theorem qe0 {W:World} {o:Nat->Prop} {p:Stp} {r:Rep} (h:dcM x V S fl p r W o) :
 Calls Tryz.prog 21 #[pt V 0,.agg #[iv p.k,iv p.t,iv p.c,iv p.u,iv p.o],.agg #[iv r.kind,iv r.order,iv r.cents,iv r.upto],iv S.now] W fun e w'=>e=.returned (.bool true)/\jap (dcB x V S fl p r) W w' o:=by
 obtain ⟨⟨gs,hp⟩,hF⟩:=h
 refine (jjs (Q:=jdt V gs fl) (Q':=fun W o=>∃ gs,jdt V gs (je1 fl p r S.now) W o) (jed x S) (fun W o hq=>qg1 hq hF.born hF.few) W o hp).mono ?_
 rintro e w' ⟨rfl,hq⟩
 refine ⟨rfl,jb7 hq (fun _ _ h'=>?_)⟩
 obtain ⟨o1,o2,b1,⟨gs',b2⟩,b3,b4⟩:=h'
 exact ⟨⟨gs',o1,o2,b1,b2,b3,b4⟩,hF⟩
theorem qc3 {W:World} {o:Nat->Prop} {p:Stp} {r:Rep} (n0 n1 n2 n4 n6:Int) (v7:Value) (h:dcB x V S fl p r W o) :
 Calls Tryz.prog 22 #[pt V 0,.agg #[iv n0,iv n1,iv n2,iv S.C.lease,iv n4,iv S.C.keep,iv n6,v7],pt x 0,.agg #[iv r.kind,iv r.order,iv r.cents,iv r.upto]] W fun e w'=>e=.returned (.bool true)/\jap (dcP x V S (jhm S (je1 fl p r S.now))) W w' o:=by
 obtain ⟨⟨gs,hp⟩,hF⟩:=h
 obtain ⟨o1,o2,a1,a2,a3,a4⟩:=id hp
 have hJ:=a1.J
 have hR:restS S:=a1.ps.2.R
 have hl:=hF.len
 have hz:=hJ.len
 have hcu:=hF.inv.cu
 have hlife:=hF.inv.life
 have hseen:=hF.seen
 have hinv:=hF.inv
 clear hF
 generalize je1 fl p r S.now=bl at *
 have K:∀ j,Keeps (jty (jm6 x S) (jdt V gs (jjz S bl j))):=fun j=>qbk (jed x S) (jei V gs _)
 have h0:jty (jm6 x S) (jdt V gs (jjz S bl 0)) W o:=by rw [jvt];exact hp
 have hw:=(K 0).lt h0
 have hlt:∀ i,i<S.os.length->i<bl.length:=fun i hi=>by omega
 have hfin:=jwr V x S.os.length n0 n1 n2 S.C.lease n4 S.C.keep n6 v7 r S.now W o (fun j=>jty (jm6 x S) (jdt V gs (jjz S bl j))) K h0 (fun i=>gs.getD i 0) (fun i=>(S.os.getD i ja3).cust) (fun i=>jch S i (S.os.getD i ja3)) hz ?_ ?_ ?_ ?_
 ·refine hfin.mono ?_
  rintro e w' ⟨rfl,hq⟩
  refine ⟨rfl,jb7 hq (fun _ _ h'=>?_)⟩
  rw [← hl,jyc] at h'
  exact ⟨⟨gs,h'⟩,hinv⟩
 ·intro j loc W' hT
  obtain ⟨_,⟨_,o2',_,b2,_⟩,_⟩:=hT
  obtain ⟨a,c,q1,q2,q3⟩:=jhw b2
  rw [jbp,hl] at q2
  refine ⟨a,c,q1,q2,fun i hi=>?_⟩
  obtain ⟨b,e1,r1,r2,r3,r4⟩:=q3 i (by rw [jbp];exact hlt i hi)
  refine ⟨b,e1,r1,r2,r3,?_⟩
  rw [(ju8 r4).1,jhd S bl j (hlt i hi)]
  have hc:=(hseen i hi).1
  split
  ·rw [← hc]
   unfold je7
   split
   ·rfl
   split
   ·rfl
   split
   ·rfl
   split
   ·rfl
   ·rfl
  ·rw [hc]
 ·exact fun loc W' hT=>ja6 hw (jgq (jei V gs _) (fun W o hp=>jxu hp)) W' hT
 ·intro j hj loc W' hT
  have hcj:=hcu j hj
  have hc':=hcj
  unfold jbn at hc'
  simp only [Bool.and_eq_true,decide_eq_true_eq] at hc'
  have:=ja6 (P:=jty (jm6 x S) (jdt V gs (jjz S bl j))) hw (jgq (jei V gs _) (fun W o hp=>jph (S:=S) hp (S.os.getD j ja3).cust ((j:Int)+1) ⟨by omega,by omega⟩ ⟨by omega,by omega⟩)) W' hT
  rw [qbn hz hj hcj] at this
  exact this
 ·intro j hj loc W' hT
  obtain ⟨s1,s2,s3,s4⟩:=hseen j hj
  have hnow:=hJ.I.now
  have hlf:=hlife j hj
  rw [jl2 S bl (hlt j hj)] at hlf
  have hcb:=(hJ.I.ords _ (jal hj)).1
  have hub:=hJ.I.units _ (jal hj)
  refine ja6 hw (jjs (jed x S) (fun W o hq=>qge (hlt j hj) n0 n1 n2 n4 n6 v7 r hnow (by have:=hR.lease;omega) hR.keep ⟨s3.1,by omega⟩ ⟨s4.1,by omega⟩ (fun e=>?_) s2 W o hq)) W' hT
  obtain ⟨c1,c2⟩:=jwu hlf e
  rw [c1,c2]
  exact ⟨hcb,by omega⟩
end
def flS (S0:Sal) (ps:List Stp):Nat->List Lf
 | 0=>[]
 | j+1=>jhm (jro S0 ps (j+1)) (je1 (flS S0 ps j) (ps.getD j jaq) ((jro S0 ps j).does (ps.getD j jaq)).1 (jro S0 ps (j+1)).now)
theorem jt2 {W:World} {V:Nat} (h:W.heap[V]?=some (.cells #[.slice none 0 0] 56 (0,0))):jdt V [] [] W (fun k=>k=V) :=
 ⟨none,0,h,⟨rfl,.inl ⟨rfl,rfl⟩⟩,rfl,by simp,fun i hi=>by simp at hi,fun k=>by simp [Value.ownBlock]⟩
end
theorem jwc {S:Sal} (h1:S.os=[]) (h2:S.ansL=[]):dInv S [] :=
 ⟨by rw [h1];rfl,fun i hi=>by rw [h1] at hi;simp at hi,fun a ha=>by rw [h2] at ha;simp at ha,fun i hi=>by rw [h1] at hi;simp at hi⟩
theorem js4 (n0 n1 n2 n3 n4 n5 n6:Int) (a:Option Addr) (len cap:Nat) (ts:List (Int × Int)) (sa:Option Addr) (sl sc:Nat) (ps:List Stp) (w:World) (ht:tiersAt w a len cap ts) (hps:stepsAt w sa sl ps) (hfine:∀ p∈ps,p.fine) (hl:sl * 48<=140737488351232) :
 Calls Tryz.prog 11 #[.agg #[iv n0,iv n1,iv n2,iv n3,iv n4,iv n5,iv n6,.slice a len cap,.slice sa sl sc]] w fun e w'=>e=.returned (.bool true)/\Below w.heap.size w w':=by
 cases hc:jh2 [n0,n1,n2,n3,n4,n5,n6] ts
 ·refine jpy _ _ _ _ _ _ _ _ sa sl sc w (fun W hW=>?_)
  refine (jlc (sa:=sa) (sl:=sl) (sc:=sc) (ht.below hW (Nat.le_refl _))).mono ?_
  rintro e w' (⟨_,rfl,hb⟩|⟨hc',_⟩)
  ·exact ⟨rfl,hb⟩
  ·rw [hc] at hc';cases hc'
 ·have hfj:∀ j,j<sl->(ps.getD j jaq).fine:=fun j hj=>by
   have hj':j<ps.length:=by rw [hps.1];exact hj
   refine hfine _ ?_
   simp [List.getD,List.getElem?_eq_getElem hj']
  generalize hS0:jht ⟨n0,n1,n2,n3,n4,n5,n6,ts⟩=S0
  have hC:∀ j,(jro S0 ps j).C=⟨n0,n1,n2,n3,n4,n5,n6,ts⟩:=fun j=>by rw [jx2,← hS0];rfl
  refine jq4 sl (iv n0) (iv n1) (iv n2) (iv n3) (iv n4) (iv n5) (iv n6) (.slice a len cap) sa sc ps w (fun x=>jm6 x S0) (fun x=>jed x _)
   (fun a b j=>dcP a b (jro S0 ps j) (flS S0 ps j))
   (fun a b j=>dcM a b (jro S0 ps (j+1)) (flS S0 ps j) (ps.getD j jaq) ((jro S0 ps j).does (ps.getD j jaq)).1)
   (fun a b j=>dcB a b (jro S0 ps (j+1)) (flS S0 ps j) (ps.getD j jaq) ((jro S0 ps j).does (ps.getD j jaq)).1)
   (fun _ _ _=>qe1 _ _ _ _) (fun _ _ _=>qel _ _ _ _ _ _) (fun _ _ _=>qdo _ _ _ _ _ _) (fun j=>((jro S0 ps j).does (ps.getD j jaq)).1) (fun j=>(jro S0 ps (j+1)).now) (fun j=>(flS S0 ps j).length) (by omega) hps ?_ ?_ ?_ ?_ ?_ ?_ ?_ ?_
  ·intro W hW
   rw [← hS0]
   refine (jlc (sa:=sa) (sl:=sl) (sc:=sc) (ht.below hW (Nat.le_refl _))).mono ?_
   rintro e w' (⟨hc',_⟩|⟨_,h⟩)
   ·rw [hc] at hc';cases hc'
   ·exact h
  ·intro a L W o1 o h1 h2 h3 h4
   exact ⟨⟨[],o1,fun k=>k=L,h1,jt2 h2,fun k e c=>h3 k e c,h4⟩,jwc (by rw [← hS0];rfl) (by rw [← hS0];rfl)⟩
  ·intro a b j hj W o hp
   exact qfa hp (ps.getD j jaq) (hfj j hj)
  ·intro a b j hj W o hp
   exact qcr hp
  ·intro a b j hj W o hp
   obtain ⟨⟨gs,o1,o2,_,b2,_⟩,_⟩:=hp
   obtain ⟨la,lc,q1,q2,_⟩:=jhw b2
   exact ⟨la,lc,q1,q2⟩
  ·intro a b j hj W o hp W'
   obtain ⟨⟨gs,o1,o2,b1,_⟩,hF⟩:=hp
   have hcf:=b1.J.I.cfg
   have hnow:=b1.J.I.now
   have htold:=hF.told
   rw [hC] at hcf htold
   dsimp only at hcf
   exact qcl n0 n1 n2 n3 n4 n5 n6 _ _ _ _ W' hF.few hnow (by omega) (by omega) htold
  ·intro a b j hj W o hp
   exact qe0 hp
  ·intro xa xb j hj W o hp
   have:=qc3 n0 n1 n2 n4 n6 (.slice a len cap) hp
   rw [hC] at this
   exact this
section
open Go.ChangeShapes Go.WideShapes Go.ChangeAt Go.RowKit
theorem jnf (os:Os) (started:os.Started) (H:Type) (enc:TypeId × Value->H) :
 ReturnsInHanded {} Tryz.checked os 11 .any (Rows.decidedSpec.pre6 enc Tryz.prog Tryz.f11 Rows.decidedRow.domain false) (Rows.decidedSpec.post enc Tryz.prog Tryz.f11 false true false false):=by
 refine returnsInHanded_of_change_sized (C:=Tryz.checked) own started (by kernel_rfl) Tryz.func11
  (ChangeSpec.witness6 (enc:=enc) (C:=Tryz.checked) false ⟨#[],#[.agg #[iv 0,iv 0,iv 0,iv 0,iv 0,iv 0,iv 0,.slice none 0 0,.slice none 0 0]],[]⟩ 8 (by kernel_rfl) (by kernel_rfl) (by kernel_rfl) (by kernel_rfl)) ?_
 intro W base args ds gs before hval0 hW hcnd hsz0 _
 have hval:∀ (j:Nat) t v,Tryz.f11.params[j]?=some t->args[j]?=some v->Value.okWide Tryz.prog W .any base t v:=hval0
 have hsz:(DataW.weightsEach Tryz.prog (Tryz.f11.params.toList++Rows.decidedSpec.plain.varTypes Tryz.prog) (ds++gs)).all (·<=reachBytes)=true:=hsz0
 have hW':=hW
 obtain ⟨p,q,hA0,hV,rfl,hfz,hnd⟩:=hW
 have hA:DataW.TrodAll enc Tryz.prog W 0 (fun _=>true) true Tryz.f11.params.toList args.toList ds p:=hA0
 rw [Tryz.params11] at hA hval hsz
 obtain ⟨v0,vs0,d0,ds0,p0,q0,hargs,rfl,rfl,h0,r0⟩:=trodAll_cons hA
 obtain ⟨rfl,rfl,rfl⟩:=trodAll_nil r0
 obtain rfl:args=#[v0]:=by cases args;simp_all
 obtain ⟨rfl,rfl⟩:=trodVars_none hV
 have k0:=h0
 have lt0:∀ x∈p0,x.block<W.heap.size:=by obtain ⟨m,hm⟩:=k0;exact DataW.trod_lt m _ _ _ hm
 have w0:wOK 32 d0:=fun x hx=>by simpa using List.all_eq_true.1 hsz x (DataW.weights_mem_each (j:=0) rfl rfl x hx)
 obtain ⟨n0,n1,n2,n3,n4,n5,n6,a,len,cap,ts,sa,sl,sc,ps,rfl,ht,hps,hfine,hl⟩:=jrn (hval 0 32 v0 rfl rfl) h0 w0
 clear hA0 hval0
 refine (js4 n0 n1 n2 n3 n4 n5 n6 a len cap ts sa sl sc ps  W ht hps hfine hl).mono fun e W' ⟨he,bel⟩=>?_
 subst he
 exact ⟨_,rfl,_,_,_,[],_,[],hW',trodAll_mk1 (shut_bool Tryz.underlying4 _),(trodAll_cons_mk (Below.trod jz6 (by kernel_rfl) (of_decide_eq_true (by kernel_rfl)) k0 bel lt0) trodAll_mk0),rfl,bel.frame _,fun h=>by cases h⟩
theorem decided_holds:Rows.DecidedSaid :=
 OpenClaim.holds_of_wide 11 Tryz.f11 rfl rfl rfl rfl rfl rfl rfl ⟨rfl,rfl,rfl,rfl,rfl⟩ rfl rfl rfl rfl rfl (by kernel_rfl) Tryz.func11 (by kernel_rfl)
  (of_decide_eq_true (by kernel_rfl)) (by unfold Func.isWrapper;first|(rw [if_pos (by decide +kernel)];kernel_rfl)|(rw [if_neg (by decide +kernel)];exact ⟨rfl,rfl⟩))
  (fun os started H enc _=>jnf os started H enc)
end
end Go.Proofs.YtfhncfghblkgeaaGreat
