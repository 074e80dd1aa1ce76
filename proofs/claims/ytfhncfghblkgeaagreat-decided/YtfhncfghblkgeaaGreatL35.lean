import Derived.Test.YtfhncfghblkgeaaGreatL33
set_option maxRecDepth 100000
set_option maxHeartbeats 2000000
namespace Go.Proofs.YtfhncfghblkgeaaGreat
open Go.RowKit
theorem qfh (t c u o t' u' o' pk po pc pu:Int) (w:World)
 (HBA:Hid (∀ W,Calls Tryz.prog 39 #[.agg #[iv 2,iv t,iv c,iv u,iv o]] W fun e w'=>e=.returned (.agg #[iv 2,iv t',iv c,iv u',iv o'])/\Below W.heap.size W w'))
 (HIS:Hid (∀ W,Calls Tryz.prog 38 #[.agg #[iv 2,iv t',iv c,iv u',iv o']] W fun e w'=>e=.returned (.bool true)/\Below W.heap.size W w'))
 (hf:((pk=7/\o'=po/\0<o'/\0<pc/\pu=0)\/((pk=9\/pk=10\/pk=11)/\po=0/\pc=0/\pu=0))) :
 Calls Tryz.prog 35 #[.agg #[iv 2,iv t,iv c,iv u,iv o],.agg #[iv pk,iv po,iv pc,iv pu]] w fun e w'=>e=.returned (.bool true)/\Below w.heap.size w w':=by
 rcases hf with ⟨rfl,rfl,h1,h2,rfl⟩|⟨rfl|rfl|rfl,rfl,rfl,rfl⟩
 all_goals
  go_enter Tryz.func35,Tryz.ntmps35
  go_wp2_with fail
  refine (HBA.out _).mono ?_
  rintro e W1 ⟨rfl,b1⟩
  have hb1:Below w.heap.size w W1:=Below.trans bL (b1.mono (by simp;omega))
  have nr:=(b1.block w.heap.size (by simp;omega)).trans ((Below.heap_alloc _ _ _ (by simp)).trans (heap_alloc_new w _))
  have np:=(b1.block (w.heap.size+1) (by simp)).trans (jbd w _ _)
  have g0:=ja0 nr 0
  have g1:=ja0 nr 1
  have g2:=ja0 nr 2
  have g3:=ja0 nr 3
  have g4:=ja0 nr 4
  obtain ⟨q0,q1,q2,q3,q4⟩:=jer nr
  have lr:w.heap.size<W1.heap.size:=(blt nr)
  obtain ⟨W2,eW,hb2,nr2,np2⟩:=jij hb1 nr np (iv 2) (iv t') (iv c) (iv u') (iv o')
  clear b1 hb1
  obtain ⟨r0,r1,r2,r3,r4⟩:=jer nr2
  obtain ⟨p0,p1,p2,p3⟩:=jck np2
  go_wp2_with fail
  clear q0 q1 q2 q3 q4 g0 g1 g2 g3 g4 nr np lr eW
  refine (HIS.out _).mono ?_
  rintro e W3 ⟨rfl,b3⟩
  have lr:w.heap.size<W2.heap.size:=(blt nr2)
  have lp:w.heap.size+1<W2.heap.size:=(blt np2)
  have hb3:Hid (Below w.heap.size w W3):=hb2.trans (b3.mono hb2.size)
  have r0':=(b3.cell (p:=(aq w.heap.size 0)) lr).trans r0
  have r1':=(b3.cell (p:=(aq w.heap.size 1)) lr).trans r1
  have r2':=(b3.cell (p:=(aq w.heap.size 2)) lr).trans r2
  have r3':=(b3.cell (p:=(aq w.heap.size 3)) lr).trans r3
  have r4':=(b3.cell (p:=(aq w.heap.size 4)) lr).trans r4
  have p0':=(b3.cell (p:=(aq (w.heap.size+1) 0)) lp).trans p0
  have p1':=(b3.cell (p:=(aq (w.heap.size+1) 1)) lp).trans p1
  have p2':=(b3.cell (p:=(aq (w.heap.size+1) 2)) lp).trans p2
  have p3':=(b3.cell (p:=(aq (w.heap.size+1) 3)) lp).trans p3
  have lr':w.heap.size<W3.heap.size:=Nat.lt_of_lt_of_le lr b3.size
  have lp':w.heap.size+1<W3.heap.size:=Nat.lt_of_lt_of_le lp b3.size
  clear r0 r1 r2 r3 r4 p0 p1 p2 p3 b3 hb2 lr lp nr2 np2
  go_wp2
  refine bodyPost_ret (v:=.bool true) (by simp [results,Tryz.results35,go_sem]) rfl ⟨rfl,bL⟩
theorem qfy (t c u o t' u' o' pk po pc pu:Int) (w:World)
 (HBA:Hid (∀ W,Calls Tryz.prog 39 #[.agg #[iv 3,iv t,iv c,iv u,iv o]] W fun e w'=>e=.returned (.agg #[iv 3,iv t',iv c,iv u',iv o'])/\Below W.heap.size W w'))
 (HIS:Hid (∀ W,Calls Tryz.prog 38 #[.agg #[iv 3,iv t',iv c,iv u',iv o']] W fun e w'=>e=.returned (.bool true)/\Below W.heap.size W w'))
 (hf:((pk=8/\o'=po/\0<o'/\pc=0/\pu=0)\/((pk=9\/pk=10\/pk=11)/\po=0/\pc=0/\pu=0))) :
 Calls Tryz.prog 35 #[.agg #[iv 3,iv t,iv c,iv u,iv o],.agg #[iv pk,iv po,iv pc,iv pu]] w fun e w'=>e=.returned (.bool true)/\Below w.heap.size w w':=by
 rcases hf with ⟨rfl,rfl,h1,rfl,rfl⟩|⟨rfl|rfl|rfl,rfl,rfl,rfl⟩
 all_goals
  go_enter Tryz.func35,Tryz.ntmps35
  go_wp2_with fail
  refine (HBA.out _).mono ?_
  rintro e W1 ⟨rfl,b1⟩
  have hb1:Below w.heap.size w W1:=Below.trans bL (b1.mono (by simp;omega))
  have nr:=(b1.block w.heap.size (by simp;omega)).trans ((Below.heap_alloc _ _ _ (by simp)).trans (heap_alloc_new w _))
  have np:=(b1.block (w.heap.size+1) (by simp)).trans (jbd w _ _)
  have g0:=ja0 nr 0
  have g1:=ja0 nr 1
  have g2:=ja0 nr 2
  have g3:=ja0 nr 3
  have g4:=ja0 nr 4
  obtain ⟨q0,q1,q2,q3,q4⟩:=jer nr
  have lr:w.heap.size<W1.heap.size:=(blt nr)
  obtain ⟨W2,eW,hb2,nr2,np2⟩:=jij hb1 nr np (iv 3) (iv t') (iv c) (iv u') (iv o')
  clear b1 hb1
  obtain ⟨r0,r1,r2,r3,r4⟩:=jer nr2
  obtain ⟨p0,p1,p2,p3⟩:=jck np2
  go_wp2_with fail
  clear q0 q1 q2 q3 q4 g0 g1 g2 g3 g4 nr np lr eW
  refine (HIS.out _).mono ?_
  rintro e W3 ⟨rfl,b3⟩
  have lr:w.heap.size<W2.heap.size:=(blt nr2)
  have lp:w.heap.size+1<W2.heap.size:=(blt np2)
  have hb3:Hid (Below w.heap.size w W3):=hb2.trans (b3.mono hb2.size)
  have r0':=(b3.cell (p:=(aq w.heap.size 0)) lr).trans r0
  have r1':=(b3.cell (p:=(aq w.heap.size 1)) lr).trans r1
  have r2':=(b3.cell (p:=(aq w.heap.size 2)) lr).trans r2
  have r3':=(b3.cell (p:=(aq w.heap.size 3)) lr).trans r3
  have r4':=(b3.cell (p:=(aq w.heap.size 4)) lr).trans r4
  have p0':=(b3.cell (p:=(aq (w.heap.size+1) 0)) lp).trans p0
  have p1':=(b3.cell (p:=(aq (w.heap.size+1) 1)) lp).trans p1
  have p2':=(b3.cell (p:=(aq (w.heap.size+1) 2)) lp).trans p2
  have p3':=(b3.cell (p:=(aq (w.heap.size+1) 3)) lp).trans p3
  have lr':w.heap.size<W3.heap.size:=Nat.lt_of_lt_of_le lr b3.size
  have lp':w.heap.size+1<W3.heap.size:=Nat.lt_of_lt_of_le lp b3.size
  clear r0 r1 r2 r3 r4 p0 p1 p2 p3 b3 hb2 lr lp nr2 np2
  go_wp2
  refine bodyPost_ret (v:=.bool true) (by simp [results,Tryz.results35,go_sem]) rfl ⟨rfl,bL⟩
theorem qbl (k t c u o t' u' o':Int) (w:World)
 (HBA:Hid (∀ W,Calls Tryz.prog 39 #[.agg #[iv k,iv t,iv c,iv u,iv o]] W fun e w'=>e=.returned (.agg #[iv k,iv t',iv c,iv u',iv o'])/\Below W.heap.size W w'))
 (HIS:Hid (∀ W,Calls Tryz.prog 38 #[.agg #[iv k,iv t',iv c,iv u',iv o']] W fun e w'=>e=.returned (.bool false)/\Below W.heap.size W w')) :
 Calls Tryz.prog 35 #[.agg #[iv k,iv t,iv c,iv u,iv o],.agg #[iv 1,iv 0,iv 0,iv 0]] w fun e w'=>e=.returned (.bool true)/\Below w.heap.size w w':=by
 go_enter Tryz.func35,Tryz.ntmps35
 go_wp2_with fail
 refine (HBA.out _).mono ?_
 rintro e W1 ⟨rfl,b1⟩
 have hb1:Below w.heap.size w W1:=Below.trans bL (b1.mono (by simp;omega))
 have nr:=(b1.block w.heap.size (by simp;omega)).trans ((Below.heap_alloc _ _ _ (by simp)).trans (heap_alloc_new w _))
 have np:=(b1.block (w.heap.size+1) (by simp)).trans (jbd w _ _)
 have g0:=ja0 nr 0
 have g1:=ja0 nr 1
 have g2:=ja0 nr 2
 have g3:=ja0 nr 3
 have g4:=ja0 nr 4
 obtain ⟨q0,q1,q2,q3,q4⟩:=jer nr
 have lr:w.heap.size<W1.heap.size:=(blt nr)
 obtain ⟨W2,eW,hb2,nr2,np2⟩:=jij hb1 nr np (iv k) (iv t') (iv c) (iv u') (iv o')
 clear b1 hb1
 obtain ⟨r0,r1,r2,r3,r4⟩:=jer nr2
 obtain ⟨p0,p1,p2,p3⟩:=jck np2
 go_wp2_with fail
 clear q0 q1 q2 q3 q4 g0 g1 g2 g3 g4 nr np lr eW
 refine (HIS.out _).mono ?_
 rintro e W3 ⟨rfl,b3⟩
 have lr:w.heap.size<W2.heap.size:=(blt nr2)
 have lp:w.heap.size+1<W2.heap.size:=(blt np2)
 have hb3:Hid (Below w.heap.size w W3):=hb2.trans (b3.mono hb2.size)
 have r0':=(b3.cell (p:=(aq w.heap.size 0)) lr).trans r0
 have r1':=(b3.cell (p:=(aq w.heap.size 1)) lr).trans r1
 have r2':=(b3.cell (p:=(aq w.heap.size 2)) lr).trans r2
 have r3':=(b3.cell (p:=(aq w.heap.size 3)) lr).trans r3
 have r4':=(b3.cell (p:=(aq w.heap.size 4)) lr).trans r4
 have p0':=(b3.cell (p:=(aq (w.heap.size+1) 0)) lp).trans p0
 have p1':=(b3.cell (p:=(aq (w.heap.size+1) 1)) lp).trans p1
 have p2':=(b3.cell (p:=(aq (w.heap.size+1) 2)) lp).trans p2
 have p3':=(b3.cell (p:=(aq (w.heap.size+1) 3)) lp).trans p3
 have lr':w.heap.size<W3.heap.size:=Nat.lt_of_lt_of_le lr b3.size
 have lp':w.heap.size+1<W3.heap.size:=Nat.lt_of_lt_of_le lp b3.size
 clear r0 r1 r2 r3 r4 p0 p1 p2 p3 b3 hb2 lr lp nr2 np2
 go_wp2
 refine bodyPost_ret (v:=.bool true) (by simp [results,Tryz.results35,go_sem]) rfl ⟨rfl,bL⟩
end Go.Proofs.YtfhncfghblkgeaaGreat
