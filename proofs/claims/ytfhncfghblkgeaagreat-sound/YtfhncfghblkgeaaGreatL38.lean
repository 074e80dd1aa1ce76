import Derived.Test.YtfhncfghblkgeaaGreatL34
import Derived.Test.YtfhncfghblkgeaaGreatL37
set_option maxRecDepth 100000
set_option maxHeartbeats 2000000
namespace Go.Proofs.YtfhncfghblkgeaaGreat
open Go.RowKit
theorem jz9 (x:Nat) (n k t c u o:Int) (w:World) (own:Nat->Prop) (P0:World->(Nat->Prop)->Prop) (K0:Keeps P0) (h:P0 w own)
 (HS:Hid (∀ W,Calls Tryz.prog 32 #[.agg #[iv k,iv t,iv c,iv u,iv o]] W fun e w'=>e=.returned (.bool false)/\Below W.heap.size W w')) :
 Calls Tryz.prog 15 #[pt x 0,.agg #[iv n,iv k,iv t,iv c,iv u,iv o]] w fun e w'=>e=.returned (.tuple #[.agg #[iv 0,iv 0,iv 0,iv 0],.bool true])/\jar P0 w w' own:=by
 have hw:=K0.lt h
 have HW:Hid (∀ k,own k->k<w.heap.size):=hw
 go_enter Tryz.func15,Tryz.ntmps15
 have hT0:Hid (jb5 P0 w own 2 ((w.alloc (.cells #[iv n,iv k,iv t,iv c,iv u,iv o] 48)).alloc (.cells #[iv 0,iv 0,iv 0,iv 0] 42))):=jcw K0 h (((Below.refl _ _).alloc (Nat.le_refl _) _).alloc (by simp) _) (by simp)
 have ob0:Hid (((w.alloc (.cells #[iv n,iv k,iv t,iv c,iv u,iv o] 48)).alloc (.cells #[iv 0,iv 0,iv 0,iv 0] 42)).heap[w.heap.size]?=some (.cells #[iv n,iv k,iv t,iv c,iv u,iv o] 48 (0,0))):=(Below.heap_alloc _ _ _ (by simp)).trans (heap_alloc_new w _)
 have rb0:Hid (((w.alloc (.cells #[iv n,iv k,iv t,iv c,iv u,iv o] 48)).alloc (.cells #[iv 0,iv 0,iv 0,iv 0] 42)).heap[w.heap.size+1]?=some (.cells #[iv 0,iv 0,iv 0,iv 0] 42 (0,0))):=jcj w _ _
 clear h
 go_wp2_with fail
 generalize (w.alloc (.cells #[iv n,iv k,iv t,iv c,iv u,iv o] 48)).alloc (.cells #[iv 0,iv 0,iv 0,iv 0] 42)=W0 at hT0 ob0 rb0 ⊢
 have lo0:w.heap.size<W0.heap.size:=(blt ob0.out)
 have lr0:w.heap.size+1<W0.heap.size:=(blt rb0.out)
 refine (HS.out _).mono ?_
 rintro e W1 ⟨rfl,b1⟩
 have hT1:Hid _:=jai K0 hT0.out b1
 have ob1:Hid _:=(b1.block _ lo0).trans ob0.out
 have rb1:Hid _:=(b1.block _ lr0).trans rb0.out
 have lo1:w.heap.size<W1.heap.size:=(blt ob1.out)
 have lr1:w.heap.size+1<W1.heap.size:=(blt rb1.out)
 obtain ⟨c10,c11,c12,c13,c14,c15⟩:=ja1 ob1.out
 clear ob0 rb0 lo0 lr0 hT0 b1 HS
 have HE:Hid (∀ v0 v1 v2 v3,jar P0 w ((((W1.setCell (aq (w.heap.size+1) 0) v0).setCell (aq (w.heap.size+1) 1) v1).setCell (aq (w.heap.size+1) 2) v2).setCell (aq (w.heap.size+1) 3) v3) own):=fun v0 v1 v2 v3=>jdg (jim K0 hT1.out HW.out (by omega) (by omega) v0 v1 v2 v3)
 have f0:=ja0 rb1.out 0
 have f1:=ja0 rb1.out 1
 have f2:=ja0 rb1.out 2
 have f3:=ja0 rb1.out 3
 obtain ⟨z0,z1,z2,z3⟩:=jf2 rb1.out
 clear hT1 HW
 go_wp2
 refine bodyPost_ret (v:=.tuple #[.agg #[iv 0,iv 0,iv 0,iv 0],.bool true]) (by simp [results,Tryz.results15,go_sem,z0,z1,z2,z3]) rfl ⟨rfl,?_⟩
 exact HE.out _ _ _ _
theorem jwf (x:Nat) (n k t c u o pk po pc pu:Int) (w:World) (own:Nat->Prop) (P0 P1:World->(Nat->Prop)->Prop) (K0:Keeps P0) (K1:Keeps P1) (h:P0 w own) (hk:(k != 0)=true) (Fr:World->Option Addr->Nat->Nat->Prop)
 (HS:Hid (∀ W,Calls Tryz.prog 32 #[.agg #[iv k,iv t,iv c,iv u,iv o]] W fun e w'=>e=.returned (.bool true)/\Below W.heap.size W w'))
 (HF:Hid (∀ W,Calls Tryz.prog 34 #[.agg #[iv k,iv t,iv c,iv u,iv o]] W fun e w'=>∃ ba bl bc,e=.returned (.slice ba bl bc)/\Fr w' ba bl bc/\Below W.heap.size W w'))
 (HSend:Hid (∀ W o ba bl bc,P0 W o->Fr W ba bl bc->Calls Tryz.prog 33 #[pt x 0,.slice ba bl bc] W fun e w'=>e=.returned (.agg #[iv pk,iv po,iv pc,iv pu])/\jar P1 W w' o))
 (HFi:Hid (∀ W,Calls Tryz.prog 35 #[.agg #[iv k,iv t,iv c,iv u,iv o],.agg #[iv pk,iv po,iv pc,iv pu]] W fun e w'=>e=.returned (.bool true)/\Below W.heap.size W w')) :
 Calls Tryz.prog 15 #[pt x 0,.agg #[iv n,iv k,iv t,iv c,iv u,iv o]] w fun e w'=>e=.returned (.tuple #[.agg #[iv pk,iv po,iv pc,iv pu],.bool true])/\jar P1 w w' own:=by
 have hw:=K0.lt h
 have HW:Hid (∀ k,own k->k<w.heap.size):=hw
 go_enter Tryz.func15,Tryz.ntmps15
 have hT0:Hid (jb5 P0 w own 2 ((w.alloc (.cells #[iv n,iv k,iv t,iv c,iv u,iv o] 48)).alloc (.cells #[iv 0,iv 0,iv 0,iv 0] 42))):=jcw K0 h (((Below.refl _ _).alloc (Nat.le_refl _) _).alloc (by simp) _) (by simp)
 have ob0:Hid (((w.alloc (.cells #[iv n,iv k,iv t,iv c,iv u,iv o] 48)).alloc (.cells #[iv 0,iv 0,iv 0,iv 0] 42)).heap[w.heap.size]?=some (.cells #[iv n,iv k,iv t,iv c,iv u,iv o] 48 (0,0))):=(Below.heap_alloc _ _ _ (by simp)).trans (heap_alloc_new w _)
 have rb0:Hid (((w.alloc (.cells #[iv n,iv k,iv t,iv c,iv u,iv o] 48)).alloc (.cells #[iv 0,iv 0,iv 0,iv 0] 42)).heap[w.heap.size+1]?=some (.cells #[iv 0,iv 0,iv 0,iv 0] 42 (0,0))):=jcj w _ _
 clear h
 go_wp2_with fail
 generalize (w.alloc (.cells #[iv n,iv k,iv t,iv c,iv u,iv o] 48)).alloc (.cells #[iv 0,iv 0,iv 0,iv 0] 42)=W0 at hT0 ob0 rb0 ⊢
 have lo0:w.heap.size<W0.heap.size:=(blt ob0.out)
 have lr0:w.heap.size+1<W0.heap.size:=(blt rb0.out)
 refine (HS.out _).mono ?_
 rintro e W1 ⟨rfl,b1⟩
 have hT1:Hid _:=jai K0 hT0.out b1
 have ob1:Hid _:=(b1.block _ lo0).trans ob0.out
 have rb1:Hid _:=(b1.block _ lr0).trans rb0.out
 have lo1:w.heap.size<W1.heap.size:=(blt ob1.out)
 have lr1:w.heap.size+1<W1.heap.size:=(blt rb1.out)
 obtain ⟨c10,c11,c12,c13,c14,c15⟩:=ja1 ob1.out
 clear ob0 rb0 lo0 lr0 hT0 b1 HS
 go_wp2_with fail
 refine (HF.out _).mono ?_
 rintro e W2 ⟨ba,bl,bc,rfl,hFr,b2⟩
 have hT2:Hid _:=jai K0 hT1.out b2
 have ob2:Hid _:=(b2.block _ lo1).trans ob1.out
 have rb2:Hid _:=(b2.block _ lr1).trans rb1.out
 have lo2:w.heap.size<W2.heap.size:=(blt ob2.out)
 have lr2:w.heap.size+1<W2.heap.size:=(blt rb2.out)
 obtain ⟨c20,c21,c22,c23,c24,c25⟩:=ja1 ob2.out
 clear c10 c11 c12 c13 c14 c15 ob1 rb1 lo1 lr1 hT1
 have hT2':Hid (jb5 (fun W o=>P0 W o/\Fr W ba bl bc) w own 2 W2):=by
  obtain ⟨o1,a1,a⟩:=hT2.out
  exact ⟨o1,⟨a1,hFr⟩,a⟩
 have HS2:Hid (∀ W,jb5 (fun W o=>P0 W o/\Fr W ba bl bc) w own 2 W->Calls Tryz.prog 33 #[pt x 0,.slice ba bl bc] W fun e w'=>e=.returned (.agg #[iv pk,iv po,iv pc,iv pu])/\jb5 P1 w own 2 w'/\∀ b,w.heap.size<=b->b<w.heap.size+2->w'.heap[b]?=W.heap[b]?):=fun W hT=>jcb HW.out (fun W o hp=>HSend.out W o ba bl bc hp.1 hp.2) W hT
 clear b2 hFr HF HSend
 go_wp2_with fail
 refine (HS2.out _ hT2'.out).mono ?_
 rintro e W3 ⟨rfl,hT3,hk3⟩
 replace hT3:Hid _:=hT3
 have ob3:Hid _:=(hk3 _ (Nat.le_refl _) (by omega)).trans ob2.out
 have rb3:Hid _:=(hk3 _ (by omega) (by omega)).trans rb2.out
 have lo3:w.heap.size<W3.heap.size:=(blt ob3.out)
 have lr3:w.heap.size+1<W3.heap.size:=(blt rb3.out)
 obtain ⟨c30,c31,c32,c33,c34,c35⟩:=ja1 ob3.out
 clear c20 c21 c22 c23 c24 c25 ob2 rb2 lo2 lr2 hT2
 clear hk3 hT2' HS2
 have hTa:Hid (jb5 P1 w own 2 (W3.alloc (.cells #[iv pk,iv po,iv pc,iv pu] 42))):=jai K1 hT3.out ((Below.refl _ _).alloc (Nat.le_refl _) _)
 have oba:Hid ((W3.alloc (.cells #[iv pk,iv po,iv pc,iv pu] 42)).heap[w.heap.size]?=some (.cells #[iv n,iv k,iv t,iv c,iv u,iv o] 48 (0,0))):=(Below.heap_alloc _ _ _ lo3).trans ob3.out
 have rba:Hid ((W3.alloc (.cells #[iv pk,iv po,iv pc,iv pu] 42)).heap[w.heap.size+1]?=some (.cells #[iv 0,iv 0,iv 0,iv 0] 42 (0,0))):=(Below.heap_alloc _ _ _ lr3).trans rb3.out
 have pba:Hid ((W3.alloc (.cells #[iv pk,iv po,iv pc,iv pu] 42)).heap[W3.heap.size]?=some (.cells #[iv pk,iv po,iv pc,iv pu] 42 (0,0))):=heap_alloc_new W3 _
 go_wp2_with fail
 generalize W3.alloc (.cells #[iv pk,iv po,iv pc,iv pu] 42)=Wa at hTa oba rba pba ⊢
 have hpz1:w.heap.size≠W3.heap.size:=by omega
 have hpz2:w.heap.size+1≠W3.heap.size:=by omega
 generalize W3.heap.size=pz at pba hpz1 hpz2 ⊢
 clear c30 c31 c32 c33 c34 c35 ob3 rb3 lo3 lr3 hT3
 obtain ⟨a0,a1,a2,a3,a4,a5⟩:=ja1 oba.out
 obtain ⟨p0,p1,p2,p3⟩:=jf2 pba.out
 have loa:w.heap.size<Wa.heap.size:=(blt oba.out)
 have lra:w.heap.size+1<Wa.heap.size:=(blt rba.out)
 have lpa:pz<Wa.heap.size:=(blt pba.out)
 go_region_held3 (fun w'=>(w'.cell? (aq w.heap.size 1)=some (iv k)/\w'.cell? (aq w.heap.size 2)=some (iv t)/\w'.cell? (aq w.heap.size 3)=some (iv c)/\w'.cell? (aq w.heap.size 4)=some (iv u)/\w'.cell? (aq w.heap.size 5)=some (iv o))/\w'.cell? (aq pz 0)=some (iv pk)/\w'.cell? (aq pz 1)=some (iv po)/\w'.cell? (aq pz 2)=some (iv pc)/\w'.cell? (aq pz 3)=some (iv pu)) (simp [go_sem, *])
  (first
    | (go_at_call 35;refine (HFi.out _).mono ?_;rintro e W4 ⟨rfl,b4⟩
       have hb4:Below Wa.heap.size Wa W4:=by first|exact b4|exact Below.trans (show Below Wa.heap.size Wa _ from bL) (b4.mono (by simp))
       have hT4:Hid _:=jai K1 hTa.out hb4
       have ob4:Hid _:=(hb4.block _ loa).trans oba.out
       have rb4:Hid _:=(hb4.block _ lra).trans rba.out
       have pb4:Hid _:=(hb4.block _ lpa).trans pba.out
       obtain ⟨d0,d1,d2,d3,d4,d5⟩:=ja1 ob4.out
       obtain ⟨r0,r1,r2,r3⟩:=jf2 pb4.out
       have lo4:w.heap.size<W4.heap.size:=(blt ob4.out)
       have lr4:w.heap.size+1<W4.heap.size:=(blt rb4.out)
       have lp4:pz<W4.heap.size:=(blt pb4.out)
       have f0:=ja0 rb4.out 0
       have f1:=ja0 rb4.out 1
       have f2:=ja0 rb4.out 2
       have f3:=ja0 rb4.out 3
       obtain ⟨z0,z1,z2,z3⟩:=jf2 rb4.out
       clear b4 hb4))
 clear a0 a1 a2 a3 a4 a5 p0 p1 p2 p3 hTa oba rba pba HFi
 have HE:Hid (∀ v0 v1 v2 v3,jar P1 w ((((W4.setCell (aq (w.heap.size+1) 0) v0).setCell (aq (w.heap.size+1) 1) v1).setCell (aq (w.heap.size+1) 2) v2).setCell (aq (w.heap.size+1) 3) v3) own):=fun v0 v1 v2 v3=>jdg (jim K1 hT4.out HW.out (by omega) (by omega) v0 v1 v2 v3)
 clear hT4 HW
 go_wp2
 refine bodyPost_ret (v:=.tuple #[.agg #[iv pk,iv po,iv pc,iv pu],.bool true]) (by simp [results,Tryz.results15,go_sem,z0,z1,z2,z3]) rfl ⟨rfl,?_⟩
 first|exact HE.out _ _ _ _|exact ansP_drew (HE.out _ _ _ _)
theorem jy8 (x:Nat) (n t c u o now now' tk er:Int) (w:World) (own:Nat->Prop) (P0 P1:World->(Nat->Prop)->Prop) (K0:Keeps P0) (K1:Keeps P1) (h:P0 w own) (hb:0<=now/\now<=4611686018427387904)
 (hto:(n<0/\er=3/\tk=0/\now'=now)\/(¬ n<0/\n<4611686018427387904 - now/\er=0/\tk=now+n/\now'=now+n)\/(¬ n<0/\¬ n<4611686018427387904 - now/\er=0/\tk=4611686018427387904/\now'=4611686018427387904))
 (HS:Hid (∀ W,Calls Tryz.prog 32 #[.agg #[iv 0,iv t,iv c,iv u,iv o]] W fun e w'=>e=.returned (.bool true)/\Below W.heap.size W w'))
 (HC:Hid (∀ W o,P0 W o->Calls Tryz.prog 19 #[pt x 0] W fun e w'=>e=.returned (iv now)/\jar P0 W w' o))
 (HT:Hid (∀ W o,P0 W o->Calls Tryz.prog 36 #[pt x 0,iv n] W fun e w'=>e=.returned (.tuple #[iv tk,iv er])/\jar P1 W w' o))
 (HC1:Hid (∀ W o,P1 W o->Calls Tryz.prog 19 #[pt x 0] W fun e w'=>e=.returned (iv now')/\jar P1 W w' o)) :
 Calls Tryz.prog 15 #[pt x 0,.agg #[iv n,iv 0,iv t,iv c,iv u,iv o]] w fun e w'=>e=.returned (.tuple #[.agg #[iv 0,iv 0,iv 0,iv 0],.bool true])/\jar P1 w w' own:=by
 have hw:=K0.lt h
 have HW:Hid (∀ k,own k->k<w.heap.size):=hw
 go_enter Tryz.func15,Tryz.ntmps15
 have hT0:Hid (jb5 P0 w own 2 ((w.alloc (.cells #[iv n,iv 0,iv t,iv c,iv u,iv o] 48)).alloc (.cells #[iv 0,iv 0,iv 0,iv 0] 42))):=jcw K0 h (((Below.refl _ _).alloc (Nat.le_refl _) _).alloc (by simp) _) (by simp)
 have ob0:Hid (((w.alloc (.cells #[iv n,iv 0,iv t,iv c,iv u,iv o] 48)).alloc (.cells #[iv 0,iv 0,iv 0,iv 0] 42)).heap[w.heap.size]?=some (.cells #[iv n,iv 0,iv t,iv c,iv u,iv o] 48 (0,0))):=(Below.heap_alloc _ _ _ (by simp)).trans (heap_alloc_new w _)
 have rb0:Hid (((w.alloc (.cells #[iv n,iv 0,iv t,iv c,iv u,iv o] 48)).alloc (.cells #[iv 0,iv 0,iv 0,iv 0] 42)).heap[w.heap.size+1]?=some (.cells #[iv 0,iv 0,iv 0,iv 0] 42 (0,0))):=jcj w _ _
 clear h
 go_wp2_with fail
 generalize (w.alloc (.cells #[iv n,iv 0,iv t,iv c,iv u,iv o] 48)).alloc (.cells #[iv 0,iv 0,iv 0,iv 0] 42)=W0 at hT0 ob0 rb0 ⊢
 have lo0:w.heap.size<W0.heap.size:=(blt ob0.out)
 have lr0:w.heap.size+1<W0.heap.size:=(blt rb0.out)
 refine (HS.out _).mono ?_
 rintro e W1 ⟨rfl,b1⟩
 have hT1:Hid _:=jai K0 hT0.out b1
 have ob1:Hid _:=(b1.block _ lo0).trans ob0.out
 have rb1:Hid _:=(b1.block _ lr0).trans rb0.out
 have lo1:w.heap.size<W1.heap.size:=(blt ob1.out)
 have lr1:w.heap.size+1<W1.heap.size:=(blt rb1.out)
 obtain ⟨c10,c11,c12,c13,c14,c15⟩:=ja1 ob1.out
 clear ob0 rb0 lo0 lr0 hT0 b1 HS
 have HCa:Hid _:=jcb (m:=2) HW.out HC.out
 have HTa:Hid _:=jcb (m:=2) HW.out HT.out
 have HCb:Hid _:=jcb (m:=2) HW.out HC1.out
 clear HC HT HC1
 go_wp2_with fail
 refine (HCa.out _ hT1.out).mono ?_
 rintro e W2 ⟨rfl,hT2,hk2⟩
 replace hT2:Hid _:=hT2
 have ob2:Hid _:=(hk2 _ (Nat.le_refl _) (by omega)).trans ob1.out
 have rb2:Hid _:=(hk2 _ (by omega) (by omega)).trans rb1.out
 have lo2:w.heap.size<W2.heap.size:=(blt ob2.out)
 have lr2:w.heap.size+1<W2.heap.size:=(blt rb2.out)
 obtain ⟨c20,c21,c22,c23,c24,c25⟩:=ja1 ob2.out
 clear c10 c11 c12 c13 c14 c15 ob1 rb1 lo1 lr1 hT1
 clear hk2
 go_wp2_with fail
 refine (HTa.out _ hT2.out).mono ?_
 rintro e W3 ⟨rfl,hT3,hk3⟩
 replace hT3:Hid _:=hT3
 have ob3:Hid _:=(hk3 _ (Nat.le_refl _) (by omega)).trans ob2.out
 have rb3:Hid _:=(hk3 _ (by omega) (by omega)).trans rb2.out
 have lo3:w.heap.size<W3.heap.size:=(blt ob3.out)
 have lr3:w.heap.size+1<W3.heap.size:=(blt rb3.out)
 obtain ⟨c30,c31,c32,c33,c34,c35⟩:=ja1 ob3.out
 clear c20 c21 c22 c23 c24 c25 ob2 rb2 lo2 lr2 hT2
 clear hk3
 go_wp2_with fail
 refine (HCb.out _ hT3.out).mono ?_
 rintro e W4 ⟨rfl,hT4,hk4⟩
 replace hT4:Hid _:=hT4
 have ob4:Hid _:=(hk4 _ (Nat.le_refl _) (by omega)).trans ob3.out
 have rb4:Hid _:=(hk4 _ (by omega) (by omega)).trans rb3.out
 have lo4:w.heap.size<W4.heap.size:=(blt ob4.out)
 have lr4:w.heap.size+1<W4.heap.size:=(blt rb4.out)
 obtain ⟨c40,c41,c42,c43,c44,c45⟩:=ja1 ob4.out
 clear c30 c31 c32 c33 c34 c35 ob3 rb3 lo3 lr3 hT3
 clear hk4 HCa HTa HCb
 have HE:Hid (∀ v0 v1 v2 v3,jar P1 w ((((W4.setCell (aq (w.heap.size+1) 0) v0).setCell (aq (w.heap.size+1) 1) v1).setCell (aq (w.heap.size+1) 2) v2).setCell (aq (w.heap.size+1) 3) v3) own):=fun v0 v1 v2 v3=>jdg (jim K1 hT4.out HW.out (by omega) (by omega) v0 v1 v2 v3)
 have f0:=ja0 rb4.out 0
 have f1:=ja0 rb4.out 1
 have f2:=ja0 rb4.out 2
 have f3:=ja0 rb4.out 3
 obtain ⟨z0,z1,z2,z3⟩:=jf2 rb4.out
 clear hT4 HW
 obtain ⟨hb0,hb1⟩:=hb
 rcases hto with ⟨hn,rfl,rfl,rfl⟩|⟨hn,hlt,rfl,rfl,rfl⟩|⟨hn,hlt,rfl,rfl,rfl⟩
 ·go_wp2
  refine bodyPost_ret (v:=.tuple #[.agg #[iv 0,iv 0,iv 0,iv 0],.bool true]) (by simp [results,Tryz.results15,go_sem,z0,z1,z2,z3]) rfl ⟨rfl,?_⟩
  exact HE.out _ _ _ _
 ·have hw1:IntKind.i64.wrap (4611686018427387904 - now)=4611686018427387904 - now:=jag (by omega) (by omega)
  have hw2:IntKind.i64.wrap (now+n)=now+n:=jag (by omega) (by omega)
  go_wp2
  refine bodyPost_ret (v:=.tuple #[.agg #[iv 0,iv 0,iv 0,iv 0],.bool true]) (by simp [results,Tryz.results15,go_sem,z0,z1,z2,z3]) rfl ⟨rfl,?_⟩
  exact HE.out _ _ _ _
 ·have hw1:IntKind.i64.wrap (4611686018427387904 - now)=4611686018427387904 - now:=jag (by omega) (by omega)
  go_wp2
  refine bodyPost_ret (v:=.tuple #[.agg #[iv 0,iv 0,iv 0,iv 0],.bool true]) (by simp [results,Tryz.results15,go_sem,z0,z1,z2,z3]) rfl ⟨rfl,?_⟩
  exact HE.out _ _ _ _
structure rightC (C:Cfg):Prop where
 some:1<=C.prices.length
 first:(C.prices.getD 0 (0,0)).1=0
 cents:∀ p∈C.prices,1<=p.2
theorem jmt {ps:List (Int × Int)} (h0:(ps.getD 0 (0,0)).1=0) (h:∀ p∈ps,1<=p.2) {sold:Int} (hs:0<=sold):∀ k,1<=k->k<=ps.length->1<=jd0 ps sold k
 | 0,h1,_=>by omega
 | 1,_,hk=>by
   unfold jd0
   rw [h0,if_pos hs]
   exact h _ (jeb (q:=0) (by omega))
 | k+2,_,hk=>by
   have ih:=jmt h0 h hs (k+1) (by omega) (by omega)
   rw [jd0]
   split
   ·exact h _ (jeb (by omega))
   ·exact ih
def jjl (o:Ord):Prop:=1<=o.units/\(12<=o.state/\o.state<=18)/\((o.state=13\/o.state=14)->1<=o.cents)
theorem jog {S:Sal} (hC:rightC S.C) (h:∀ o∈S.os,1<=o.units):1<=S.price :=
 jmt hC.first hC.cents (jay 14 0 (fun o ho=>by have:=h o ho;omega)) _ hC.some (Nat.le_refl _)
theorem jr8 {S:Sal} (hC:rightC S.C) (h:∀ o∈S.os,1<=o.units) {i:Nat} (hi:i<S.os.length):1<=(S.put i { S.os.getD i ja2 with state:=13 }).price:=by
 refine jog (S:=S.put i { S.os.getD i ja2 with state:=13 }) hC (fun o ho=>?_)
 rcases jei (show o∈S.os.set i _ from ho) with rfl|ho
 ·have:=h _ (jb2 hi)
  exact this
 ·exact h o ho
theorem jhm:∀ (n:Nat) (S:Sal),rightC S.C->(∀ o∈S.os,jjl o)->∀ o∈(jam n S).os,jjl o
 | 0,_,_,h=>h
 | n+1,S,hC,h=>by
   unfold jam
   split
   ·exact h
   ·next q qs hq =>
    split
    ·exact h
    ·obtain ⟨_,hl,hs⟩:=jcc hq ja2 (by decide)
     refine jhm n (S.holds q) hC (fun o ho=>?_)
     rcases jei (show o∈S.os.set q _ from ho) with rfl|ho
     ·have hp:=jr8 hC (fun o ho=>(h o ho).1) hl
      exact ⟨(h _ (jb2 hl)).1,by show (12:Int)<=13/\(13:Int)<=18;omega,fun _=>hp⟩
     ·exact h o ho
theorem jg7 {S:Sal} (hC:rightC S.C) (h:∀ o∈S.os,jjl o):∀ o∈S.promote.os,jjl o:=jhm _ S hC h
theorem jkn {S:Sal} (h:∀ o∈S.os,jjl o) {i:Nat} (hi:i<S.os.length) {st:Int} (hst:14<=st/\st<=18) (h14:st=14->(S.os.getD i ja2).state=13):∀ o∈(S.ends i st).os,jjl o:=by
 intro o ho
 rcases jei (show o∈S.os.set i _ from ho) with rfl|ho
 ·obtain ⟨a,b,c⟩:=h _ (jb2 hi)
  refine ⟨a,by show 12<=st/\st<=18;omega,?_⟩
  rintro (e|e)
  ·have e':st=13:=e;omega
  ·exact c (.inl (h14 e))
 ·exact h o ho
theorem jph {S:Sal} (h:∀ o∈S.os,jjl o):∀ o∈S.drained.os,jjl o:=by
 intro o ho
 obtain ⟨p,hp,rfl⟩:=List.mem_map.1 (show o∈S.os.map (dry S.left S.now) from ho)
 unfold dry
 split
 ·obtain ⟨a,b,c⟩:=h p hp
  exact ⟨a,by show (12:Int)<=18/\(18:Int)<=18;omega,fun e=>by rcases e with e|e<;>simp at e⟩
 ·exact h p hp
theorem jn8 {S:Sal} (h:∀ o∈S.os,jjl o) {st en:Int} (hen:15<=en/\en<=18):∀ n,n<=S.os.length->∀ o∈(jbq S st en n).os,jjl o
 | 0,_=>h
 | n+1,hn=>by
   have ih:=jn8 h (st:=st) hen n (by omega)
   unfold jbq
   split
   ·exact jkn ih (by rw [jc7];omega) ⟨by omega,hen.2⟩ (fun e=>by omega)
   ·exact ih
theorem joj {S:Sal} (hC:rightC S.C) (h:∀ o∈S.os,jjl o) {st en:Int} (hen:15<=en/\en<=18):∀ o∈(S.past st en).os,jjl o :=
 jg7 (by rw [(jdw S st en _).1];exact hC) (jn8 h hen _ (Nat.le_refl _))
theorem jtk {S:Sal} (hC:rightC S.C) (h:∀ o∈S.os,jjl o) (t:Int):∀ o∈(S.round t).os,jjl o :=
 joj (by rw [(jeo _ 13 15).1];exact hC) (joj (S:={ S with now:=t }) hC h ⟨by decide,by decide⟩) ⟨by decide,by decide⟩
theorem jmr:∀ (n:Nat) (S:Sal) (to:Int),rightC S.C->(∀ o∈S.os,jjl o)->∀ o∈(jdv n S to).os,jjl o
 | 0,_,_,_,h=>h
 | n+1,S,to,hC,h=>by
   unfold jdv
   split
   ·exact h
   ·exact jmr n _ to (by rw [(jnf S _).1];exact hC) (jtk hC h _)
def qdl (a:Ans):Prop:=∃ k t c u o:Int,isB k t c u o=true/\k≠4/\a.token=t/\a.frame=strOfNums (jak k (jat k t c u o))/\juw k o a.rep.kind a.rep.order a.rep.cents a.rep.upto
structure keepI (S:Sal):Prop where
 C:rightC S.C
 os:∀ o∈S.os,jjl o
 an:∀ a∈S.ansL,qdl a
theorem jth {S:Sal} (h:keepI S) (n:Int):keepI (S.tick n).2:=by
 obtain ⟨a,b,_⟩:=ji8 S n
 refine ⟨by rw [a];exact h.C,?_,by rw [b];exact h.an⟩
 unfold Sal.tick
 split
 ·exact h.os
 split<;>exact jmr _ _ _ h.C h.os
theorem qbj {S:Sal} (h:keepI S) (hR:restP S) (h0:0<=S.now) (r:Req):juw 1 r.order (S.ask r).1.kind (S.ask r).1.order (S.ask r).1.cents (S.ask r).1.upto/\(1<=r.units->∀ o∈(S.ask r).2.os,jjl o):=by
 have hl:=hR.R.lease
 have hwt:=hR.R.wait
 unfold Sal.ask
 split
 ·exact ⟨.inl ⟨rfl,.inr (.inr ⟨.inl rfl,rfl,rfl,rfl⟩)⟩,fun _=>h.os⟩
 split
 ·exact ⟨.inl ⟨rfl,.inr (.inr ⟨.inr (.inl rfl),rfl,rfl,rfl⟩)⟩,fun _=>h.os⟩
 split
 ·exact ⟨.inl ⟨rfl,.inr (.inr ⟨.inr (.inr (.inl rfl)),rfl,rfl,rfl⟩)⟩,fun _=>h.os⟩
 split
 ·have hp:1<=S.price:=jog h.C (fun o ho=>(h.os o ho).1)
  obtain ⟨e1,e2⟩:=jdu S r.cust r.units
  rw [e1,e2]
  have hg:(S.more ⟨r.cust,r.units,13,S.price,S.now+S.C.lease,0⟩).os.getD S.os.length ja2=⟨r.cust,r.units,13,S.price,S.now+S.C.lease,0⟩:=by
   show (S.os++[_]).getD S.os.length ja2=_
   rw [jax (by omega),if_pos rfl]
  rw [hg]
  refine ⟨.inl ⟨rfl,.inl ⟨rfl,?_,?_,?_⟩⟩,fun hu o ho=>?_⟩
  ·show (0:Int)<(S.os.length:Int)+1;omega
  ·show 0<S.price;omega
  ·show 0<S.now+S.C.lease;omega
  ·rcases List.mem_append.1 (show o∈S.os++[_] from ho) with ho|ho
   ·exact h.os o ho
   ·have e:o=⟨r.cust,r.units,13,S.price,S.now+S.C.lease,0⟩:=by simpa using ho
    rw [e]
    exact ⟨hu,by show (12:Int)<=13/\(13:Int)<=18;omega,fun _=>hp⟩
 split
 ·exact ⟨.inl ⟨rfl,.inr (.inr ⟨.inr (.inr (.inl rfl)),rfl,rfl,rfl⟩)⟩,fun _=>h.os⟩
 ·refine ⟨.inl ⟨rfl,.inr (.inl ⟨rfl,?_,rfl,?_⟩)⟩,fun hu o ho=>?_⟩
  ·show (0:Int)<(S.os.length:Int)+1;omega
  ·show 0<S.now+S.C.wait;omega
  ·rcases List.mem_append.1 (show o∈S.os++[_] from ho) with ho|ho
   ·exact h.os o ho
   ·have e:o=⟨r.cust,r.units,12,0,S.now+S.C.wait,0⟩:=by simpa using ho
    rw [e]
    exact ⟨hu,by show (12:Int)<=12/\(12:Int)<=18;omega,fun c=>by rcases c with c|c<;>simp at c⟩
theorem jqy {S:Sal} (h:keepI S) (r:Req) (ho:1<=r.order):juw 2 r.order (S.confirm r).1.kind (S.confirm r).1.order (S.confirm r).1.cents (S.confirm r).1.upto/\∀ o∈(S.confirm r).2.os,jjl o:=by
 unfold Sal.confirm
 split
 ·exact ⟨.inr (.inl ⟨rfl,.inr ⟨.inl rfl,rfl,rfl,rfl⟩⟩),h.os⟩
 ·next i hf =>
  obtain ⟨hi,_,_⟩:=jbw ho hf
  split
  ·exact ⟨.inr (.inl ⟨rfl,.inr ⟨.inl rfl,rfl,rfl,rfl⟩⟩),h.os⟩
  ·next hs =>
   have hs':(S.os.getD i ja2).state=13:=Classical.not_not.1 hs
   have h1:=jkn h.os hi (st:=14) (by decide) (fun _=>hs')
   rw [jc6]
   have h2:=jg7 (S:=(S.ends i 14).drained) h.C (jph h1)
   refine ⟨.inr (.inl ⟨rfl,.inl ⟨rfl,rfl,by omega,?_,rfl⟩⟩),h2⟩
   have hg:(S.ends i 14).os.getD i ja2={ S.os.getD i ja2 with state:=14,ended:=S.now }:=by
    have:(S.ends i 14).os.getD i ja2=if i=i then _ else _:=jb4 _ hi
    rw [if_pos rfl] at this
    exact this
   have e1:(S.ends i 14).drained.os.getD i ja2=(S.ends i 14).os.getD i ja2:=jkt _ (by rw [hg];show ¬ (14:Int)=12;decide)
   have e2:(S.ends i 14).drained.promote.os.getD i ja2=(S.ends i 14).os.getD i ja2:=(jlb _ (by rw [e1,hg];show ¬ (14:Int)=12;decide)).trans e1
   show 0<((S.ends i 14).drained.promote.os.getD i ja2).units * ((S.ends i 14).drained.promote.os.getD i ja2).cents
   rw [e2,hg]
   obtain ⟨a,b,c⟩:=h.os _ (jb2 hi)
   have c':=c (.inl hs')
   show 0<(S.os.getD i ja2).units * (S.os.getD i ja2).cents
   exact Int.mul_pos (by omega) (by omega)
theorem jtl {S:Sal} (h:keepI S) (r:Req) (ho:1<=r.order):juw 3 r.order (S.cancel r).1.kind (S.cancel r).1.order (S.cancel r).1.cents (S.cancel r).1.upto/\∀ o∈(S.cancel r).2.os,jjl o:=by
 unfold Sal.cancel
 split
 ·exact ⟨.inr (.inr (.inl ⟨rfl,.inr ⟨.inl rfl,rfl,rfl,rfl⟩⟩)),h.os⟩
 ·next i hf =>
  obtain ⟨hi,_,_⟩:=jbw ho hf
  split
  ·exact ⟨.inr (.inr (.inl ⟨rfl,.inr ⟨.inl rfl,rfl,rfl,rfl⟩⟩)),h.os⟩
  ·refine ⟨.inr (.inr (.inl ⟨rfl,.inl ⟨rfl,rfl,by omega,rfl,rfl⟩⟩)),?_⟩
   exact jg7 (S:=S.ends i 16) h.C (jkn h.os hi (st:=16) (by decide) (fun e=>by omega))
theorem jz7 {S:Sal} (h:keepI S) (hR:restP S) (h0:0<=S.now) (r:Req) (ho:1<=r.order):juw 4 r.order (S.poll r).kind (S.poll r).order (S.poll r).cents (S.poll r).upto:=by
 unfold Sal.poll
 split
 ·exact .inr (.inr (.inr ⟨rfl,.inr (.inr (.inr (.inr ⟨rfl,rfl,rfl,rfl⟩)))⟩))
 ·next i hf =>
  obtain ⟨hi,_,_⟩:=jbw ho hf
  obtain ⟨a,b,c⟩:=h.os _ (jb2 hi)
  split
  ·next hs =>
   have:=hR.R.fut _ (jb2 hi) (.inl hs)
   exact .inr (.inr (.inr ⟨rfl,.inl ⟨rfl,rfl,by omega,rfl,by show 0<(S.os.getD i ja2).upto;omega⟩⟩))
  split
  ·next hs =>
   have:=hR.R.fut _ (jb2 hi) (.inr hs)
   have:=c (.inl hs)
   exact .inr (.inr (.inr ⟨rfl,.inr (.inl ⟨rfl,rfl,by omega,by show 0<(S.os.getD i ja2).cents;omega,by show 0<(S.os.getD i ja2).upto;omega⟩)⟩))
  split
  ·exact .inr (.inr (.inr ⟨rfl,.inr (.inr (.inr (.inr ⟨rfl,rfl,rfl,rfl⟩)))⟩))
  split
  ·next hs =>
   have:=c (.inr hs)
   exact .inr (.inr (.inr ⟨rfl,.inr (.inr (.inl ⟨rfl,rfl,by omega,Int.mul_pos (by omega) (by omega),rfl⟩))⟩))
  ·next h12 h13 _ h14 =>
   refine .inr (.inr (.inr ⟨rfl,.inr (.inr (.inr (.inl ⟨?_,rfl,by omega,rfl,rfl⟩)))⟩))
   show (S.os.getD i ja2).state=15\/(S.os.getD i ja2).state=16\/(S.os.getD i ja2).state=17\/(S.os.getD i ja2).state=18
   omega
structure Stp where
 n:Int
 k:Int
 t:Int
 c:Int
 u:Int
 o:Int
def Stp.req (p:Stp):Req:=⟨p.k,jdr p.k p.t,p.c,jdl p.k p.u,jdc p.k p.o⟩
def Stp.ok (p:Stp):Bool:=isB p.k (jdr p.k p.t) p.c (jdl p.k p.u) (jdc p.k p.o)
def Stp.bytes (p:Stp):List Int:=jak p.k (jk3 p.k p.t p.c p.u p.o)
def Stp.val (p:Stp):Value:=.agg #[iv p.n,iv p.k,iv p.t,iv p.c,iv p.u,iv p.o]
def inI (n:Int):Prop:=-9223372036854775808<=n/\n<9223372036854775808
def Stp.fine (p:Stp):Prop:=inI p.n/\inI p.k/\inI p.t/\inI p.c/\inI p.u/\inI p.o
theorem Stp.nums {p:Stp} (h:p.ok=true):jat p.k (jdr p.k p.t) p.c (jdl p.k p.u) (jdc p.k p.o)=jk3 p.k p.t p.c p.u p.o:=by
 unfold Stp.ok isB at h
 unfold jat jk3 jdr jdl jdc
 by_cases h1:p.k=1
 ·simp [h1]
 ·by_cases h2:p.k=2\/p.k=3
  ·have h4:p.k≠4:=by omega
   simp [h1,h2,h4]
  ·by_cases h4:p.k=4
   ·simp [h4]
   ·simp [h1,h2,h4] at h
def Sal.sendK (S:Sal) (p:Stp):Rep × Sal:=if p.ok then S.send p.bytes p.req 0 else (⟨1,0,0,0⟩,S)
def Sal.does (S:Sal) (p:Stp):Rep × Sal :=
 if 0<=p.k/\p.k<256 then (if p.k=0 then (jse,(S.tick p.n).2) else S.sendK p) else (jse,S)
theorem jpm {k o:Int} (e:k=1\/k=2\/k=3) (pk':Int) (h':pk'=10\/pk'=11):juw k o pk' 0 0 0:=by
 rcases e with rfl|rfl|rfl
 ·exact .inl ⟨rfl,.inr (.inr ⟨by omega,rfl,rfl,rfl⟩)⟩
 ·exact .inr (.inl ⟨rfl,.inr ⟨by omega,rfl,rfl,rfl⟩⟩)
 ·exact .inr (.inr (.inl ⟨rfl,.inr ⟨by omega,rfl,rfl,rfl⟩⟩))
theorem jkb {k t c u o:Int} (h:isB k t c u o=true):k=1\/k=2\/k=3\/k=4:=by
 unfold isB at h
 by_cases h1:k=1
 ·exact .inl h1
 ·by_cases h2:k=2\/k=3
  ·omega
  ·by_cases h4:k=4
   ·omega
   ·simp [h1,h2,h4] at h
theorem jg3 {k t c u o:Int} (h:isB k t c u o=true):(k=1/\1<=u/\u<=4294967296/\c≠0)\/(k≠1/\1<=o/\c≠0):=by
 unfold isB jby at h
 by_cases h1:k=1
 ·simp [h1] at h
  refine .inl ⟨h1,by omega,by omega,by omega⟩
 ·by_cases h2:k=2\/k=3
  ·simp [h1,h2] at h
   exact .inr ⟨h1,by omega,by omega⟩
  ·by_cases h4:k=4
   ·simp [h4] at h
    exact .inr ⟨h1,by omega,by omega⟩
   ·simp [h1,h2,h4] at h
theorem qbb {S:Sal} (h:keepI S) (hR:restP S) (h0:0<=S.now) (r:Req) (hb:isB r.kind r.token r.cust r.units r.order=true) (h4:r.kind≠4):juw r.kind r.order (S.doS r).1.kind (S.doS r).1.order (S.doS r).1.cents (S.doS r).1.upto/\∀ o∈(S.doS r).2.os,jjl o:=by
 have hp:=jg3 hb
 unfold Sal.doS
 rcases jkb hb with e|e|e|e
 ·rw [if_pos e]
  obtain ⟨a,b⟩:=qbj h hR h0 r
  rw [e]
  exact ⟨a,b (by omega)⟩
 ·rw [if_neg (by omega),if_pos e]
  have:=jqy h r (by omega)
  rw [e]
  exact this
 ·rw [if_neg (by omega),if_neg (by omega)]
  have:=jtl h r (by omega)
  rw [e]
  exact this
 ·exact absurd e h4
theorem jsj {S:Sal} {t:Int} {a:Ans} (h:S.used t=some a):a∈S.ansL/\a.token=t/\S.remem a=true:=by
 unfold Sal.used at h
 have h1:=List.mem_of_find?_eq_some h
 have h2:=List.find?_some h
 simp only [Bool.and_eq_true,beq_iff_eq] at h2
 exact ⟨h1,h2.2,h2.1⟩
theorem jol {k k' o o' pk po pc pu:Int} (e:k=k') (e':o=o') (h:juw k o pk po pc pu):juw k' o' pk po pc pu:=by rw [← e,← e'];exact h
theorem jom {S:Sal} (h:keepI S) (hR:restP S) (h0:0<=S.now) {p:Stp} (hb:p.ok=true):juw p.k (jdc p.k p.o) (S.sendK p).1.kind (S.sendK p).1.order (S.sendK p).1.cents (S.sendK p).1.upto/\keepI (S.sendK p).2:=by
 have hb':isB p.k (jdr p.k p.t) p.c (jdl p.k p.u) (jdc p.k p.o)=true:=hb
 have hk:=jkb hb'
 have hpart:=jg3 hb'
 unfold Sal.sendK
 rw [if_pos hb]
 unfold Sal.send
 rw [if_neg (fun c=>c rfl)]
 split
 ·next h4 =>
  have h4':p.k=4:=h4
  have ho:1<=jdc p.k p.o:=by
   rcases hpart with c|c
   ·omega
   ·exact c.2.1
  exact ⟨jol h4'.symm rfl (jz7 h hR h0 p.req ho),h⟩
 ·next h4 =>
  have h4':p.k≠4:=h4
  have hk3:p.k=1\/p.k=2\/p.k=3:=by omega
  split
  ·next a ha =>
   obtain ⟨m1,m2,m3⟩:=jsj ha
   split
   ·next hf =>
    obtain ⟨k,t,c,u,o,q1,q2,q3,q4,q5⟩:=h.an a m1
    rw [q4] at hf
    have hbytes:p.bytes=jak p.k (jat p.k (jdr p.k p.t) p.c (jdl p.k p.u) (jdc p.k p.o)):=by unfold Stp.bytes;rw [Stp.nums hb]
    rw [hbytes] at hf
    obtain ⟨e1,_,_,_,e5⟩:=ji6 q1 hb' (jqw (jec q1) (jec hb') hf)
    exact ⟨jol e1 e5 q5,h⟩
   ·exact ⟨jpm hk3 10 (.inl rfl),h⟩
  ·split
   ·exact ⟨jpm hk3 11 (.inr rfl),h⟩
   ·obtain ⟨a,b⟩:=qbb h hR h0 p.req hb' h4'
    obtain ⟨c,_,d⟩:=jfq S p.req
    refine ⟨a,⟨by show rightC (S.doS p.req).2.C;rw [c];exact h.C,b,fun x hx=>?_⟩⟩
    rcases List.mem_append.1 (show x∈(S.doS p.req).2.ansL++[_] from hx) with hx|hx
    ·rw [d] at hx;exact h.an x hx
    ·have e:x=⟨strOfNums p.bytes,p.req.token,(S.doS p.req).1,S.now⟩:=by simpa using hx
     rw [e]
     exact ⟨p.k,jdr p.k p.t,p.c,jdl p.k p.u,jdc p.k p.o,hb',h4',rfl,by unfold Stp.bytes;rw [Stp.nums hb],a⟩
theorem Stp.un (p:Stp):(p.ok=true/\UN p.bytes p.k (jdr p.k p.t) p.c (jdl p.k p.u) (jdc p.k p.o) 0)\/(p.ok=false/\UN p.bytes 0 0 0 0 0 2):=by
 cases hb:p.ok
 ·refine .inr ⟨rfl,?_⟩
  unfold Stp.bytes
  rw [jcg]
  unfold Stp.ok isB at hb
  have hnb:∀ n:Int,jby ((n.toNat:Nat):Int)=jby n:=fun n=>by
   unfold jby
   by_cases h:0<=n
   ·rw [Int.toNat_of_nonneg h]
   ·have e:n.toNat=0:=by omega
    rw [e]
    have h1:decide (1<=n)=false:=decide_eq_false (by omega)
    rw [h1];rfl
  have hall:∀ l:List Int,((l.map Int.toNat).map fun n:Nat=>(n:Int)).all jby=l.all jby:=fun l=>by
   induction l with
   | nil=>rfl
   | cons a l ih=>simp only [List.map_cons,List.all_cons,hnb,ih]
  by_cases h1:p.k=1
  ·have e:jk3 p.k p.t p.c p.u p.o=[p.t,p.c,p.u]:=by unfold jk3;rw [if_neg (by omega),if_pos h1]
   rw [if_pos h1,show jdr p.k p.t=p.t from if_neg (by omega),show jdl p.k p.u=p.u from if_pos h1,show jdc p.k p.o=0 from if_pos h1] at hb
   refine jkh (by rw [e,h1];rfl) rfl ?_
   rw [hall,e]
   simp only [List.all_cons,List.all_nil]
   revert hb
   cases jby p.t<;>cases jby p.c<;>cases jby p.u<;>simp
  ·by_cases h2:p.k=2\/p.k=3
   ·have e:jk3 p.k p.t p.c p.u p.o=[p.t,p.c,p.o]:=by unfold jk3;rw [if_neg (by omega),if_neg h1]
    rw [if_neg h1,if_pos h2,show jdr p.k p.t=p.t from if_neg (by omega),show jdl p.k p.u=0 from if_neg h1,show jdc p.k p.o=p.o from if_neg h1] at hb
    refine jkh (by rw [e];unfold cnt;rw [if_neg h1,if_pos h2];rfl) rfl ?_
    rw [hall,e]
    simp only [List.all_cons,List.all_nil]
    revert hb
    cases jby p.t<;>cases jby p.c<;>cases jby p.o<;>simp
   ·by_cases h4:p.k=4
    ·have e:jk3 p.k p.t p.c p.u p.o=[p.c,p.o]:=by unfold jk3;rw [if_pos h4]
     rw [if_neg h1,if_neg h2,if_pos h4,show jdr p.k p.t=0 from if_pos h4,show jdl p.k p.u=0 from if_neg h1,show jdc p.k p.o=p.o from if_neg h1] at hb
     refine jkh (by rw [e,h4];rfl) rfl ?_
     rw [hall,e]
     simp only [List.all_cons,List.all_nil]
     revert hb
     cases jby p.c<;>cases jby p.o<;>simp
    ·exact jx0 (by unfold cnt;simp [h1,h2,h4])
 ·refine .inl ⟨rfl,.inl ⟨rfl,hb,?_⟩⟩
  unfold Stp.bytes
  rw [Stp.nums hb]
theorem jys {S:Sal} (h:salJ S) (r:Req) (hb:isB r.kind r.token r.cust r.units r.order=true):salI (S.doS r).2:=by
 have hp:=jg3 hb
 have hI:=h.I
 unfold Sal.doS
 split
 ·next hk =>
  have hu:1<=r.units/\r.units<=4294967296/\r.cust≠0:=by omega
  unfold Sal.ask
  split
  ·exact hI
  ·next hcap =>
   split
   ·exact hI
   split
   ·exact hI
   split
   ·next hg =>
    obtain ⟨e1,e2⟩:=jdu S r.cust r.units
    rw [e1,e2]
    have hpr:0<=S.price/\S.price<=1073741824:=je8 hI.prices _ _ (Nat.le_refl _)
    exact jtv hI _ rfl ⟨hu.1,hu.2.1⟩ hg.2 ⟨hpr,by show (0:Int)<=0/\(0:Int)<=4611686018427387904;omega⟩
   split
   ·exact hI
   ·have h13:=je1 hI 13 r.cust
    have h14:=je1 hI 14 r.cust
    have:=h.cap
    exact jvs hI _ _ ⟨hu.1,hu.2.1⟩ (by omega) _
 split
 ·unfold Sal.confirm
  split
  ·exact hI
  ·next i hf =>
   obtain ⟨hi,_,_⟩:=jbw (by omega) hf
   split
   ·exact hI
   ·next hs =>
    have hs':(S.os.getD i ja2).state=13:=Classical.not_not.1 hs
    have h1:=jij hI hi 14 (.inl rfl) (fun _=>hs')
    exact jft _ (jhi (n:=(S.ends i 14).os.length) _ _ h1 rfl (fun q hq=>((jbc _ _ q).1 hq).1)).1
 ·unfold Sal.cancel
  split
  ·exact hI
  ·next i hf =>
   obtain ⟨hi,_,_⟩:=jbw (by omega) hf
   split
   ·exact hI
   ·exact jft _ (jij hI hi 16 (.inr (by decide)) (fun e=>by omega))
theorem ju5 {S:Sal} (h:salJ S) (p:Stp):salJ (S.sendK p).2:=by
 unfold Sal.sendK
 split
 ·next hb =>
  refine jwa h _ _ _ ?_
  unfold Sal.send
  rw [if_neg (fun c=>c rfl)]
  split
  ·exact h.I
  ·next h4 =>
   split
   ·split
    ·exact h.I
    ·exact h.I
   ·split
    ·exact h.I
    ·obtain ⟨a,b,c,d,e,f,g⟩:=jys h p.req hb
     exact ⟨a,b,c,d,e,f,g⟩
 ·exact h
theorem jj5:∀ (n:Nat) (S:Sal) (to:Int),salI S->0<=to->to<=4611686018427387904->salI (jdv n S to)
 | 0,_,_,h,h0,h1=>jhx h ⟨h0,h1⟩
 | n+1,S,to,h,h0,h1=>by
   unfold jdv
   split
   ·exact jhx h ⟨h0,h1⟩
   ·next hd =>
    obtain ⟨_,_,_,_,hle⟩:=jj0 S.os to S.os.length (Nat.le_refl _) (by unfold Sal.due at hd;omega)
    have hle':S.due to<=to:=hle
    exact jj5 n _ to (jk5 (jk5 (jhx h ⟨by omega,by omega⟩) 13 15 (by decide)) 12 17 (by decide)) h0 h1
theorem jxj {S:Sal} (h:salJ S) (n:Int):salJ (S.tick n).2:=by
 refine jy0 h n ?_
 have h0:=h.I.now
 unfold Sal.tick
 split
 ·exact h.I
 split
 ·exact jj5 _ _ _ h.I (by omega) (by omega)
 ·exact jj5 _ _ _ h.I (by omega) (by omega)
theorem Stp.bytes_byte (p:Stp) (h:0<=p.k/\p.k<256):∀ x∈p.bytes,0<=x/\x<256:=by
 intro x hx
 rcases List.mem_cons.1 hx with rfl|hx
 ·exact h
 ·obtain ⟨n,_,hx⟩:=List.mem_flatMap.1 hx
  exact joi _ x hx
theorem jq5 (x aw:Nat) (now er:Int) (D:List (Int × Int)) (w:World) (own:Nat->Prop) (P0:World->(Nat->Prop)->Prop) (Q:Nat->World->(Nat->Prop)->Prop) (K0:Keeps P0) (KQ:∀ j,Keeps (Q j)) (h:P0 w own) (hn:D.length<=4294967296)
 (HX:Hid (∀ loc W,ja9 P0 w own loc W->x<W.heap.size/\W.cell? (aq x 23)=some (pt aw 0)))
 (HA:Hid (∀ loc W,ja9 P0 w own loc W->Calls Tryz.prog 119 #[pt aw 0,iv now] W fun e w'=>∃ da dc,e=.returned (.tuple #[.slice da D.length dc,iv er])/\ja9 (jdj (Q 0) da D) w own loc w'))
 (HR:Hid (∀ da j,j<D.length->jc2 w own (jdj (Q j) da D) (jdj (Q (j+1)) da D) 138 #[pt x 23,iv (D.getD j (0,0)).2] (.tuple #[]))) :
 Calls Tryz.prog 105 #[pt x 23,iv now] w fun e w'=>e=.returned (.tuple #[])/\jar (Q D.length) w w' own:=by
 have hT0:Hid (ja9 P0 w own (fun _=>False) w):=jaj K0 h (Below.refl _ _) (fun _ e=>e.elim)
 obtain ⟨hx,c23⟩:=HX.out _ _ hT0.out
 clear h HX
 go_enter Tryz.func105,Tryz.ntmps105
 go_wp2_with (go_at_call 119;refine (HA.out _ _ (ja4 K0 hT0.out bL)).mono ?_;rintro e W1 ⟨da,dc,rfl,hT1⟩
              replace hT1:Hid (ja9 (jdj (Q 0) da D) w own (fun _=>False) W1):=hT1
              clear c23 hx)
 clear hT0 HA
 go_loopw [6] (fun i wr=>∃ j:Nat,j<=D.length/\i=iv j/\Hid (ja9 (jdj (Q j) da D) w own (fun _=>False) wr)) (fun i _=>D.length - (intOf i).toNat)
 case atStart=>exact ⟨0,Nat.zero_le _,rfl,hT1⟩
 case round =>
  obtain ⟨j,hj,rfl,HK⟩:=hrel
  clear hT1
  by_cases hlt:j<D.length
  ·obtain ⟨g,rfl,hb,c0,c1⟩:=qdf HK.out j hlt
   have HRj:Hid _:=HR.out (some (aq g 0)) j hlt
   have KJ:=jnp (KQ j) (some (aq g 0)) D
   have KJ1:=jnp (KQ (j+1)) (some (aq g 0)) D
   have HNX:Hid (∀ wr',ja9 (jdj (Q (j+1)) (some (aq g 0)) D) w own (fun _=>False) wr'->∃ j':Nat,j'<=D.length/\Value.int .i64 ((j:Int)+1)=iv j'/\Hid (ja9 (jdj (Q j') (some (aq g 0)) D) w own (fun _=>False) wr')):=fun wr' h=>⟨j+1,by omega,by simp,h⟩
   have b0:(0:Int)<=(j:Int):=by omega
   have b1:(j:Int)<(D.length:Int):=by omega
   have hwj:IntKind.i64.wrap ((j:Int)+1)=(j:Int)+1:=jag (by omega) (by omega)
   generalize D.getD j (0,0)=dj at c0 c1 HRj
   obtain ⟨dt,di⟩:=dj
   simp only at c0 c1 HRj
   clear HR
   go_wp2_with (go_at_call 138;refine (HRj.out _ _ (ja4 KJ HK.out bL)).mono ?_;rintro e W4 ⟨rfl,hT4,hk⟩
                replace hT4:Hid _:=hT4
                clear hk c0 c1 hb)
   go_roundw
   case rel=>first|exact HNX.out _ (ja4 KJ1 hT4.out bL)|(rw [hwj];exact HNX.out _ (ja4 KJ1 hT4.out bL))
   case measure=>simp [intOf];omega
  ·have hje:j=D.length:=by omega
   subst hje
   go_wp2_with fail
   first|go_end0|refine bodyPost_ret (results_none rfl _ _ _) rfl ?_
   exact ⟨rfl,jmx (ja4 (jnp (KQ _) da D) HK.out bL)⟩
theorem jxp (x tw:Nat) (now er:Int) (D:List (Int × Int)) (w:World) (own:Nat->Prop) (P0 P1 P2 P3 P4 P5 P6:World->(Nat->Prop)->Prop) (K0:Keeps P0) (K1:Keeps P1) (K2:Keeps P2) (K3:Keeps P3) (K4:Keeps P4) (K5:Keeps P5) (K6:Keeps P6) (h:P0 w own)
 (HX:Hid (∀ loc W,ja9 P0 w own loc W->x<W.heap.size/\W.cell? (aq x 10)=some (pt tw 0)/\W.cell? (aq x 8)=some (iv now)))
 (HX1:Hid (∀ da loc W,ja9 (jdj P1 da D) w own loc W->x<W.heap.size/\W.cell? (aq x 10)=some (pt tw 0)/\W.cell? (aq x 8)=some (iv now)))
 (HA:Hid (∀ loc W,ja9 P0 w own loc W->Calls Tryz.prog 119 #[pt tw 0,iv now] W fun e w'=>∃ da dc,e=.returned (.tuple #[.slice da D.length dc,iv er])/\ja9 (jdj P1 da D) w own loc w'))
 (HF:Hid (∀ da dc,jc2 w own (jdj P1 da D) (jdj P2 da D) 135 #[pt x 0,.slice da D.length dc] (.tuple #[])))
 (HE:Hid (∀ da dc,jc2 w own (jdj P2 da D) (jdj P3 da D) 136 #[pt x 0,.slice da D.length dc,iv 13,iv 15] (.tuple #[])))
 (HP:Hid (∀ da,jc2 w own (jdj P3 da D) (jdj P4 da D) 137 #[pt x 0] (.tuple #[])))
 (HE2:Hid (∀ da dc,jc2 w own (jdj P4 da D) (jdj P5 da D) 136 #[pt x 0,.slice da D.length dc,iv 12,iv 17] (.tuple #[])))
 (HP2:Hid (∀ da,jc2 w own (jdj P5 da D) (jdj P6 da D) 137 #[pt x 0] (.tuple #[]))) :
 Calls Tryz.prog 104 #[pt x 0] w fun e w'=>e=.returned (.tuple #[])/\jar P6 w w' own:=by
 have hT0:Hid (ja9 P0 w own (fun _=>False) w):=jaj K0 h (Below.refl _ _) (fun _ e=>e.elim)
 obtain ⟨hx,c10,c8⟩:=HX.out _ _ hT0.out
 clear h HX
 go_enter Tryz.func104,Tryz.ntmps104
 go_wp2_with fail
 go_region_held3 (fun w'=>w'.cell? (aq x 10)=some (pt tw 0)/\w'.cell? (aq x 8)=some (iv now)) (simp [go_sem, *])
  (first
    | (go_at_call 119;refine (HA.out _ _ (ja4 K0 hT0.out bL)).mono ?_;rintro e W1 ⟨da,dc,rfl,hT1⟩
       obtain ⟨hx1,d10,d8⟩:=HX1.out _ _ _ hT1
       replace hT1:Hid (ja9 (jdj P1 da D) w own (fun _=>False) W1):=hT1))
 clear c10 c8 d10 d8 hT0 HA HX1
 go_wp2_with (first
  | (go_at_call 135;refine (HF.out _ _ _ _ (ja4 (jnp K1 _ _) hT1.out bL)).mono ?_;rintro e W2 ⟨rfl,hT2,hk⟩
     replace hT2:Hid _:=hT2
     clear hk hT1)
  | (go_at_call 136;refine (HE.out _ _ _ _ (ja4 (jnp K2 _ _) hT2.out bL)).mono ?_;rintro e W3 ⟨rfl,hT3,hk⟩
     replace hT3:Hid _:=hT3
     clear hk hT2)
  | (go_at_call 137;refine (HP.out _ _ _ (ja4 (jnp K3 _ _) hT3.out bL)).mono ?_;rintro e W4 ⟨rfl,hT4,hk⟩
     replace hT4:Hid _:=hT4
     clear hk hT3)
  | (go_at_call 136;refine (HE2.out _ _ _ _ (ja4 (jnp K4 _ _) hT4.out bL)).mono ?_;rintro e W5 ⟨rfl,hT5,hk⟩
     replace hT5:Hid _:=hT5
     clear hk hT4)
  | (go_at_call 137;refine (HP2.out _ _ _ (ja4 (jnp K5 _ _) hT5.out bL)).mono ?_;rintro e W6 ⟨rfl,hT6,hk⟩
     replace hT6:Hid _:=hT6
     clear hk hT5))
 first|go_end0|refine bodyPost_ret (results_none rfl _ _ _) rfl ?_
 exact ⟨rfl,jmx (ja4 (jnp K6 _ _) hT6.out bL)⟩
def jm3 {σ:Type} (P PE:σ->World->(Nat->Prop)->Prop) (Inv:σ->Prop) (fs:σ->Int × Int) (fb:σ->Bool) (μ:σ->Nat) (s:σ) (w1:World) (own:Nat->Prop) (v:Value) (wr:World) (n:Nat):Prop :=
 ∃ s',Inv s'/\μ s'=n/\PE s'=PE s/\jb5 (P s') w1 own 1 wr/\v=.bool (fb s')/\wr.heap[w1.heap.size]?=some (.cells #[iv (fs s').1,iv (fs s').2] 131 (0,0))
theorem jiw {P P':World->(Nat->Prop)->Prop} {w W W':World} {own:Nat->Prop} {m:Nat} (h:jb5 P w own m W) (hx:∀ o,P W o->jar P' W W' o):jb5 P' w own m W':=by
 obtain ⟨o1,a1,a2,a3,a4⟩:=h
 obtain ⟨o2,b1,b2,b3⟩:=hx o1 a1
 have z1:=a2.size
 have z2:=b2.size
 exact ⟨o2,b1,Same.trans a2 b2 (fun k hk e=>e.elim id (fun e=>(a3 k e).elim id (fun e=>by omega))),fun k e=>(b3 k e).elim (a3 k) (fun e=>.inr (by omega)),by omega⟩
theorem jvh {σ:Type} (x:Nat) (to:Int) (P PE:σ->World->(Nat->Prop)->Prop) (PC:σ->Int->World->(Nat->Prop)->Prop) (KP:∀ s,Keeps (P s)) (KC:∀ s t,Keeps (PC s t)) (KE:∀ s,Keeps (PE s)) (Inv:σ->Prop) (fs:σ->Int × Int) (fb:σ->Bool) (nx:σ->σ) (μ:σ->Nat) (cd:σ->Prop) (hcd:Hid (∀ s,cd s↔(fs s).1<=to))
 (lo:σ->Int) (hLo:Hid (∀ s,Inv s->lo s<=to/\(fb s=true->lo s<=(fs s).1)))
 (hX:Hid (∀ s,Inv s->∀ W o,P s W o->o x/\∀ t,lo s<=t->jar (PC s t) W (W.setCell (aq x 8) (iv t)) o))
 (hY:Hid (∀ s,Inv s->∀ W o,P s W o->x<W.heap.size/\(∃ u,W.cell? (aq x 8)=some u)/\W.frozen? (aq x 8)=false))
 (hF:Hid (∀ s,Inv s->∀ W o,P s W o->∃ tw,W.cell? (aq x 10)=some (pt tw 0)/\∀ W',Below W.heap.size W W'->Calls Tryz.prog 79 #[pt tw 0] W' fun e w'=>e=.returned (.tuple #[.agg #[iv (fs s).1,iv (fs s).2],.bool (fb s)])/\Below W'.heap.size W' w'))
 (hS:Hid (∀ s,Inv s->fb s=true->cd s->∀ W o,PC s (fs s).1 W o->Calls Tryz.prog 104 #[pt x 0] W fun e w'=>e=.returned (.tuple #[])/\jar (P (nx s)) W w' o))
 (hN:Hid (∀ s,Inv s->fb s=true->cd s->Inv (nx s)/\μ (nx s)<μ s/\PE (nx s)=PE s))
 (hE:Hid (∀ s,Inv s->(fb s=true->¬ cd s)->∀ W o,PC s to W o->Calls Tryz.prog 105 #[pt x 23,iv to] W fun e w'=>e=.returned (.tuple #[])/\jar (PE s) W w' o)) (s:σ) (w:World) (own:Nat->Prop) (hi:Inv s) (h:P s w own) :
 Calls Tryz.prog 66 #[pt x 0,iv to] w fun e w'=>e=.returned (.tuple #[])/\jar (PE s) w w' own:=by
 have hw:=(KP s).lt h
 obtain ⟨tw,c10,HF0⟩:=hF.out s hi w own h
 obtain ⟨hxw,_,_⟩:=hY.out s hi w own h
 replace HF0:Hid _:=HF0
 go_enter Tryz.func66,Tryz.ntmps66
 go_wp2_with fail
 refine (HF0.out _ bL).mono ?_
 rintro e w1 ⟨rfl,b1⟩
 replace b1:Below w.heap.size w w1:=b1
 have h1:P s w1 own:=(KP s).keep h b1.size (fun k e=>b1.block k (hw k e))
 have hw1:Hid (∀ k,own k->k<w1.heap.size):=fun k e=>Nat.lt_of_lt_of_le (hw k e) b1.size
 have HFRONT:Hid (∀ w',jar (PE s) w1 w' own->jar (PE s) w w' own):=fun w' ha=>jiv b1 ha
 have HI0:Hid (jm3 P PE Inv fs fb μ s w1 own (.bool (fb s)) (w1.alloc (.cells #[iv (fs s).1,iv (fs s).2] 131)) (μ s)):=⟨s,hi,rfl,rfl,jcw (KP s) h1 ((Below.refl _ _).alloc (Nat.le_refl _) _) (by simp),rfl,heap_alloc_new w1 _⟩
 clear h h1 hi hw b1 c10 HF0 hxw
 generalize (fs s).1=p1 at HI0 ⊢
 generalize (fs s).2=p2 at HI0 ⊢
 generalize fb s=b0 at HI0 ⊢
 go_wp2_with fail
 go_loopw [5] (fun v wr=>∃ n,jm3 P PE Inv fs fb μ s w1 own v wr n) (fun v wr=>fuel (jm3 P PE Inv fs fb μ s w1 own v wr))
 case atStart=>exact ⟨_,HI0.out⟩
 case round =>
  have hfu:=jr4 hrel
  obtain ⟨s',i1,i2,i3,hT,rfl,ob⟩:=hfu
  replace hT:Hid _:=hT
  replace i1:Hid _:=i1
  replace ob:Hid _:=ob
  have HM:Hid (∀ v' w' m,jm3 P PE Inv fs fb μ s w1 own v' w' m->m<μ s'->(∃ n,jm3 P PE Inv fs fb μ s w1 own v' w' n)/\fuel (jm3 P PE Inv fs fb μ s w1 own v' w')<fuel (jm3 P PE Inv fs fb μ s w1 own (.bool (fb s')) wr)):=fun v' w' m h1 h2=>⟨⟨m,h1⟩,by rw [← i2];exact Nat.lt_of_le_of_lt (jrm h1) h2⟩
  clear hrel i2 HI0
  obtain ⟨hlo1,hlo2⟩:=hLo.out s' i1.out
  have HXs:Hid (∀ W o,P s' W o->o x/\∀ t,lo s'<=t->jar (PC s' t) W (W.setCell (aq x 8) (iv t)) o):=hX.out s' i1.out
  have hy:x<wr.heap.size/\(∃ u,wr.cell? (aq x 8)=some u)/\wr.frozen? (aq x 8)=false:=by
   obtain ⟨o1,a1,_⟩:=hT.out
   exact hY.out s' i1.out wr o1 a1
  have hne:x≠w1.heap.size:=by
   obtain ⟨o1,a1,a2,a3,a4⟩:=hT.out
   rcases a3 x (HXs.out wr o1 a1).1 with e|e
   ·have:=hw1.out x e;omega
   ·omega
  obtain ⟨hxr,⟨u8,c8⟩,fz8⟩:=hy
  obtain ⟨s0,s1⟩:=jdm ob.out
  have lw:w1.heap.size<wr.heap.size:=(blt ob.out)
  have HEs:Hid ((fb s'=true->¬ cd s')->∀ W,jb5 (PC s' to) w1 own 1 W->Calls Tryz.prog 105 #[pt x 23,iv to] W fun e w'=>e=.returned (.tuple #[])/\jb5 (PE s) w1 own 1 w'/\∀ b,w1.heap.size<=b->b<w1.heap.size+1->w'.heap[b]?=W.heap[b]?):=fun hc W hW=>by
   rw [← i3]
   exact jcb hw1.out (hE.out s' i1.out hc) W hW
  cases hb:fb s' with
  | false =>
    have HEs:Hid _:=HEs.out (fun c=>by rw [hb] at c;cases c)
    replace hlo1:Hid _:=hlo1
    clear HM hN hE hF hS hX hY ob s0 s1 hlo2 hLo
    go_wp2_with fail
    try go_quiet (fail)
    go_wp2_with fail
    have hC:=jiw hT.out (fun o hp=>(HXs.out wr o hp).2 to hlo1.out)
    have hTc:Hid (jb5 (PC s' to) w1 own 1 (wr.setCell (aq x 8) (iv to))):=hC
    refine (HEs.out _ (jai (KC s' to) hTc.out bL)).mono ?_
    rintro e W1 ⟨rfl,hT1,hk⟩
    go_wp2
    first|go_end0|refine bodyPost_ret (results_none rfl _ _ _) rfl ?_
    exact ⟨rfl,HFRONT.out _ (jdg (jai (KE s) hT1 bL))⟩
  | true =>
    rw [hb] at HM
    by_cases hle:cd s'
    ·have HSs:Hid (∀ W,jb5 (PC s' (fs s').1) w1 own 1 W->Calls Tryz.prog 104 #[pt x 0] W fun e w'=>e=.returned (.tuple #[])/\jb5 (P (nx s')) w1 own 1 w'/\∀ b,w1.heap.size<=b->b<w1.heap.size+1->w'.heap[b]?=W.heap[b]?):=fun W hW=>jcb hw1.out (hS.out s' i1.out hb hle) W hW
     obtain ⟨n1,n2,n3⟩:=hN.out s' i1.out hb hle
     have HFs:Hid (∀ W,jb5 (P (nx s')) w1 own 1 W->∃ tw,(x<W.heap.size/\W.cell? (aq x 10)=some (pt tw 0))/\∀ W',Below W.heap.size W W'->Calls Tryz.prog 79 #[pt tw 0] W' fun e w'=>e=.returned (.tuple #[.agg #[iv (fs (nx s')).1,iv (fs (nx s')).2],.bool (fb (nx s'))])/\Below W'.heap.size W' w'):=fun W hW=>by
      obtain ⟨o1,a1,_⟩:=hW
      obtain ⟨tw,q1,q2⟩:=hF.out (nx s') n1 W o1 a1
      exact ⟨tw,⟨(hY.out (nx s') n1 W o1 a1).1,q1⟩,q2⟩
     have HR:Hid (∀ W',jb5 (P (nx s')) w1 own 1 W'->W'.heap[w1.heap.size]?=some (.cells #[iv (fs (nx s')).1,iv (fs (nx s')).2] 131 (0,0))->(∃ n,jm3 P PE Inv fs fb μ s w1 own (.bool (fb (nx s'))) W' n)/\fuel (jm3 P PE Inv fs fb μ s w1 own (.bool (fb (nx s'))) W')<fuel (jm3 P PE Inv fs fb μ s w1 own (.bool true) wr)):=fun W' h1 h2=>HM.out _ W' _ ⟨nx s',n1,rfl,n3.trans i3,h1,rfl,h2⟩ n2
     have hC:=jiw hT.out (fun o hp=>(HXs.out wr o hp).2 (fs s').1 (hlo2 hb))
     have hTc:Hid (jb5 (PC s' (fs s').1) w1 own 1 (wr.setCell (aq x 8) (iv (fs s').1))):=hC
     have obc:Hid ((wr.setCell (aq x 8) (iv (fs s').1)).heap[w1.heap.size]?=some (.cells #[iv (fs s').1,iv (fs s').2] 131 (0,0))):=(Below.heap_setCell _ (aq x 8) _ _ (Ne.symm hne)).trans ob.out
     have hle2:=(hcd.out s').1 hle
     clear HM hN hE hF hS hX hY HEs hcd hle n1 n2 n3 i3 HXs hT hC ob hLo hlo1 hlo2
     have KPc:=KC s' (fs s').1
     have KPb:=KP (nx s')
     generalize (fs s').1=f1 at *
     generalize (fs s').2=f2 at *
     generalize (fs (nx s')).1=q1 at HFs HR
     generalize (fs (nx s')).2=q2 at HFs HR
     generalize fb (nx s')=b1 at HFs HR
     generalize PC s' f1=Pc at hTc HSs KPc
     generalize P (nx s')=Pb at HSs HFs HR KPb
     go_wp2_with fail
     try go_quiet (fail)
     go_wp2_with fail
     refine (HSs.out _ (jai KPc hTc.out bL)).mono ?_
     rintro e W2 ⟨rfl,hT2,hk⟩
     have ob2:Hid _:=(hk _ (Nat.le_refl _) (by omega)).trans obc.out
     obtain ⟨tw,⟨hx2,c10⟩,HF2⟩:=HFs.out _ hT2
     replace HF2:Hid _:=HF2
     clear hk hTc obc s0 s1 c8 fz8
     go_wp2_with fail
     refine (HF2.out _ bL).mono ?_
     rintro e W3 ⟨rfl,b3⟩
     replace b3:Below W2.heap.size W2 W3:=b3
     have ob3:=(b3.block _ (blt ob2.out)).trans ob2.out
     have hT3:=jai KPb hT2 b3
     have HS2:Hid (((W3.setCell (aq w1.heap.size 0) (iv q1)).setCell (aq w1.heap.size 1) (iv q2)).heap[w1.heap.size]?=some (.cells #[iv q1,iv q2] 131 (0,0))):=Joins.block_setCell (i:=1) (Joins.block_setCell (i:=0) ob3 _) _
     have hT4:Hid (jb5 Pb w1 own 1 ((W3.setCell (aq w1.heap.size 0) (iv q1)).setCell (aq w1.heap.size 1) (iv q2))):=jcz KPb (jcz KPb hT3 hw1.out (Nat.le_refl _) (by omega) _) hw1.out (Nat.le_refl _) (by omega) _
     obtain ⟨s0,s1⟩:=jdm ob3
     have f0:=ja0 ob3 0
     have f1':=ja0 ob3 1
     have lw3:w1.heap.size<W3.heap.size:=(blt ob3)
     replace ob3:Hid _:=ob3
     clear hT2 ob2 hT3 b3 c10
     go_wp2
     exact HR.out _ hT4.out HS2.out
    ·have HEs:Hid _:=HEs.out (fun _=>hle)
     have hle2:¬ (fs s').1<=to:=fun c=>hle ((hcd.out s').2 c)
     replace hlo1:Hid _:=hlo1
     clear HM hN hE hF hS hX hY hcd hle ob hlo2 hLo
     generalize (fs s').1=f1 at s0 hle2
     go_wp2_with fail
     try go_quiet (fail)
     go_wp2_with fail
     have hC:=jiw hT.out (fun o hp=>(HXs.out wr o hp).2 to hlo1.out)
     have hTc:Hid (jb5 (PC s' to) w1 own 1 (wr.setCell (aq x 8) (iv to))):=hC
     refine (HEs.out _ (jai (KC s' to) hTc.out bL)).mono ?_
     rintro e W1 ⟨rfl,hT1,hk⟩
     go_wp2
     first|go_end0|refine bodyPost_ret (results_none rfl _ _ _) rfl ?_
     exact ⟨rfl,HFRONT.out _ (jdg (jai (KE s) hT1 bL))⟩
section
section
variable {w W W':World} {x:Nat} {own loc:Nat->Prop} {V:PV} {P':World->(Nat->Prop)->Prop}
theorem jmk {o1:Nat->Prop} (a2:Same own w W) (a3:∀ k,o1 k->own k\/(w.heap.size<=k/\¬ loc k)) (a4:∀ k,loc k->w.heap.size<=k/\k<W.heap.size) (h:jar P' W W' o1):ja9 P' w own loc W':=by
 obtain ⟨o2,b1,b2,b3⟩:=h
 have z1:=a2.size
 have z2:=b2.size
 exact ⟨o2,b1,Same.trans a2 b2 (fun k hk e=>e.elim id (fun e=>(a3 k e).elim id (fun e=>by omega))),fun k e=>(b3 k e).elim (a3 k) (fun e=>.inr ⟨by omega,fun c=>by have:=(a4 k c).2;omega⟩),fun k e=>⟨(a4 k e).1,by have:=(a4 k e).2;omega⟩⟩
theorem qci (h:psm W x own V) (t:Int) (hl:V.tl.length<=4294967296) :
 Calls Tryz.prog 119 #[pt V.tw 0,iv t] W fun e w'=>∃ da dc,e=.returned (.tuple #[.slice da (jgv V.tn t V.tl).length dc,iv (jy9 V.tn t)])/\jar (jdj (pv x { V with tn:=jw9 V.tn t,tl:=jsi V.tn t V.tl }) da (jgv V.tn t V.tl)) W w' own:=by
 obtain ⟨g,h⟩:=h
 refine (jhe t h.tw (by omega)).mono ?_
 rintro e w' ⟨out,two',rfl,a1,a2,a3,a4,a5,a6⟩
 obtain ⟨da,dc,rfl,b1,b2⟩:=jw2 a1
 have hz:=a4.size
 have hm:=h.turnT0 a3 a4 a5
 refine ⟨da,dc,rfl,fun k=>(own k\/two' k)\/∃ off,da=some (aq k off),⟨fun k=>own k\/two' k,⟨_,hm⟩,fun k e=>.inl e,b1,fun k=>⟨fun e=>⟨.inr e,?_⟩,fun e=>e.1.elim (fun c=>absurd c e.2) id⟩,fun k e=>?_⟩,⟨a4.os,a4.tape,a4.output,a4.size,fun k hk hn=>a4.block k hk (fun e=>hn (h.fp k (.inl e)))⟩,fun k e=>?_⟩
 ·obtain ⟨off,e⟩:=e
  obtain ⟨c1,c2,c3⟩:=b2 k off e
  rintro (d|d)
  ·have:=h.lt k d;omega
  ·exact a6 k c3 d
 ·rcases e with e|⟨off,e⟩
  ·exact hm.lt k e
  ·exact (b2 k off e).2.1
 ·rcases e with (e|e)|⟨off,e⟩
  ·exact .inl e
  ·exact (a5 k e).imp (fun e=>h.fp k (.inl e)) id
  ·exact .inr (b2 k off e).1
theorem qcs (h:psm W x own V) (t:Int) (hl:V.atl.length<=4294967296) :
 Calls Tryz.prog 119 #[pt V.aw 0,iv t] W fun e w'=>∃ da dc,e=.returned (.tuple #[.slice da (jgv V.an t V.atl).length dc,iv (jy9 V.an t)])/\jar (jdj (pv x { V with an:=jw9 V.an t,atl:=jsi V.an t V.atl }) da (jgv V.an t V.atl)) W w' own:=by
 obtain ⟨g,h⟩:=h
 refine (jhe t h.aw (by omega)).mono ?_
 rintro e w' ⟨out,two',rfl,a1,a2,a3,a4,a5,a6⟩
 obtain ⟨da,dc,rfl,b1,b2⟩:=jw2 a1
 have hz:=a4.size
 have hm:=h.turnA0 a3 a4 a5
 refine ⟨da,dc,rfl,fun k=>(own k\/two' k)\/∃ off,da=some (aq k off),⟨fun k=>own k\/two' k,⟨_,hm⟩,fun k e=>.inl e,b1,fun k=>⟨fun e=>⟨.inr e,?_⟩,fun e=>e.1.elim (fun c=>absurd c e.2) id⟩,fun k e=>?_⟩,⟨a4.os,a4.tape,a4.output,a4.size,fun k hk hn=>a4.block k hk (fun e=>hn (h.fp k (.inr (.inl e))))⟩,fun k e=>?_⟩
 ·obtain ⟨off,e⟩:=e
  obtain ⟨c1,c2,c3⟩:=b2 k off e
  rintro (d|d)
  ·have:=h.lt k d;omega
  ·exact a6 k c3 d
 ·rcases e with e|⟨off,e⟩
  ·exact hm.lt k e
  ·exact (b2 k off e).2.1
 ·rcases e with (e|e)|⟨off,e⟩
  ·exact .inl e
  ·exact (a5 k e).imp (fun e=>h.fp k (.inr (.inl e))) id
  ·exact .inr (b2 k off e).1
end
theorem jrv {D:List (Int × Int)} (h:jco D) {i j:Nat} (hi:i<D.length) (hj:j<D.length) (e:(D.getD i (0,0)).2=(D.getD j (0,0)).2):i=j:=by
 have hp:=(List.pairwise_iff_getElem).1 (show (D.map (·.2)).Pairwise (·≠·) from h)
 have gi:(D.getD i (0,0)).2=(D.map (·.2))[i]'(by simpa using hi):=by simp [List.getD,List.getElem?_eq_getElem hi]
 have gj:(D.getD j (0,0)).2=(D.map (·.2))[j]'(by simpa using hj):=by simp [List.getD,List.getElem?_eq_getElem hj]
 rw [gi,gj] at e
 rcases Nat.lt_trichotomy i j with c|c|c
 ·exact absurd e (hp i j _ _ c)
 ·exact c
 ·exact absurd e.symm (hp j i _ _ c)
theorem jsb {now t:Int} {L:List (Int × Int)} (h:jco L):jco (jgv now t L):=by
 unfold jgv
 split
 ·unfold jco;simp
 ·exact jiq (jff t _ L rfl).2.1.symm (je2 _ h)
section
variable {w W:World} {x:Nat} {own:Nat->Prop} {V:PV} {S:Sal} {last:Nat} {an t:Int}
def jfl (S:Sal) (D:List (Int × Int)) (j k:Nat):Prop:=S.knows k/\((S.os.getD k ja2).alive\/∀ i,i<j->(D.getD i (0,0)).2≠(k:Int)+1)
def psk (an t:Int) (x:Nat) (S:Sal) (last:Nat) (K:Nat->Prop) (w:World) (own:Nat->Prop):Prop:=∃ V,psm w x own V/\relO V ({ S with now:=t }:Sal) last K/\relA V.an V.atl V.att V.al S.C.keep S.ansL/\V.an=an/\V.tn=t
theorem qcn (an t:Int) (x:Nat) (S:Sal) (last:Nat) (K:Nat->Prop):Keeps (psk an t x S last K):=⟨fun ⟨_,h,_⟩=>jes h,fun ⟨V,h,hr⟩ hz hk=>⟨V,jez h hz hk,hr⟩⟩
theorem qcx (h:psm W x own V):x<W.heap.size:=by
 obtain ⟨g,h⟩:=h
 exact h.xw
theorem qbd (h:psx an x S last W own):x<W.heap.size:=by
 obtain ⟨V,h,_⟩:=h
 exact qcx h
theorem jwj (da:Option Addr) (dc:Nat) (D:List (Int × Int)) (hlen:S.os.length<=4294967296) (hR:restS S) (ht:S.now<t) (tn:Int) (htn:tn<=S.now) (hO:jco D) (hn:D.length<=4294967296)
 (hD:∀ p,p∈D↔∃ i,S.knows i/\tn<(S.os.getD i ja2).untl S.C/\(S.os.getD i ja2).untl S.C<=t/\p=((S.os.getD i ja2).untl S.C,(i:Int)+1))
 (h:psk an t x S last S.knows W own) (hd:jya W da D) (hdis:∀ b off,da=some (aq b off)->¬ own b) :
 Calls Tryz.prog 135 #[pt x 0,.slice da D.length dc] W fun e w'=>e=.returned (.tuple #[])/\jar (psx an x ({ S with now:=t }:Sal) last) W w' own:=by
 have hat:∀ j,j<D.length->∃ i,S.knows i/\tn<(S.os.getD i ja2).untl S.C/\(S.os.getD i ja2).untl S.C<=t/\D.getD j (0,0)=((S.os.getD i ja2).untl S.C,(i:Int)+1):=fun j hj=>(hD _).1 (jeb hj)
 have hij:∀ j,j<D.length->S.knows ((D.getD j (0,0)).2 - 1).toNat/\(S.os.getD ((D.getD j (0,0)).2 - 1).toNat ja2).untl S.C<=t/\(D.getD j (0,0)).2=(((D.getD j (0,0)).2 - 1).toNat:Int)+1:=fun j hj=>by
  obtain ⟨i,h1,h2,h3,h4⟩:=hat j hj
  have e:((D.getD j (0,0)).2 - 1).toNat=i:=by rw [h4];simp
  rw [e]
  exact ⟨h1,h3,by rw [h4]⟩
 have hK:∀ j,j<D.length->jfl S D j ((D.getD j (0,0)).2 - 1).toNat:=fun j hj=>by
  obtain ⟨a,b,c⟩:=hij j hj
  exact ⟨a,.inr (fun i hi e=>by
   have:=jrv hO (i:=i) (j:=j) (by omega) hj (e.trans c.symm)
   omega)⟩
 have h0:psk an t x S last (jfl S D 0) W own:=by
  have e:jfl S D 0=S.knows:=by
   funext k
   exact propext ⟨fun c=>c.1,fun c=>⟨c,.inr (fun i hi=>by omega)⟩⟩
  rw [e];exact h
 refine (joo x dc da D W own (fun j=>psk an t x S last (jfl S D j)) (fun j=>qcn _ _ _ _ _ _) (fun j=>jbp S.C ((D.getD j (0,0)).2 - 1).toNat (S.os.getD ((D.getD j (0,0)).2 - 1).toNat ja2)) (fun _=>true) (fun j=>((S.os.getD ((D.getD j (0,0)).2 - 1).toNat ja2).state != 13 && (S.os.getD ((D.getD j (0,0)).2 - 1).toNat ja2).state != 12)) h0 hn ?_ (fun W' hs=>jln hd hs hdis) ?_ ?_ ?_ ?_).mono ?_
 ·rintro j loc W' ⟨o1,⟨V,hm,_⟩,_⟩
  exact qcx hm
 ·rintro j loc W' hj ⟨o1,⟨V,hm,hr,_⟩,_⟩
  obtain ⟨q,h1,h2⟩:=hr.known (hK j hj)
  have:=jn7 hm hr.ls.srt h2 h1
  rw [← (hij j hj).2.2] at this
  exact this
 ·intro j W' hj
  exact jus _ _ _ _ _ _ W'
 ·intro j hj _ he loc W' hT
  refine ja6 (qcn _ _ _ _ _ _ |>.lt h) (fun W1 o1 hq=>?_) W' hT
  obtain ⟨V,hm,hr,ha,han,htn'⟩:=hq
  obtain ⟨q,h1,h2⟩:=hr.known (hK j hj)
  have hql:=(List.getElem?_eq_some_iff.1 h1).1
  obtain ⟨z,hz⟩:∃ z,V.ol[V.ol.length - 1]?=some z:=⟨V.ol[V.ol.length - 1],List.getElem?_eq_getElem (by omega)⟩
  have hol:V.ol.length<=S.os.length:=hr.olen
  obtain ⟨a,b,c⟩:=hij j hj
  have hna:¬ (S.os.getD ((D.getD j (0,0)).2 - 1).toNat ja2).alive:=by
   simp only [Bool.and_eq_true,bne_iff_ne,ne_eq] at he
   rintro (c|c)
   ·exact he.2 c
   ·exact he.1 c
  refine (jv4 hm hr.ls (by omega) (jfc hr.ls) h1 hz).mono ?_
  rintro e w' ⟨rfl,rm,o2,p1,p2,p3⟩
  refine ⟨rfl,o2,⟨_,p1,?_,ha,han,htn'⟩,p2,p3⟩
  have hfin:=hr.drop hna (by rw [htn'];exact b) h1 hz rm
  have e:jfl S D (j+1)=fun k=>jfl S D j k/\k≠((D.getD j (0,0)).2 - 1).toNat:=by
   funext k
   refine propext ⟨fun ⟨d1,d2⟩=>⟨⟨d1,d2.imp id (fun d2 i hi=>d2 i (by omega))⟩,fun e=>?_⟩,fun ⟨⟨d1,d2⟩,d3⟩=>⟨d1,d2.imp id (fun d2 i hi=>?_)⟩⟩
   ·rcases d2 with d2|d2
    ·rw [e] at d2;exact hna d2
    ·exact d2 j (by omega) (by rw [e];exact c)
   ·by_cases ei:i=j
    ·rw [ei,c];intro e;apply d3;omega
    ·exact d2 i (by omega)
  rw [e]
  exact hfin
 ·intro j hj hne W' o' hq
  have e:jfl S D (j+1)=jfl S D j:=by
   obtain ⟨a,b,c⟩:=hij j hj
   have hal:(S.os.getD ((D.getD j (0,0)).2 - 1).toNat ja2).alive:=by
    refine Classical.byContradiction fun hc=>hne ⟨rfl,?_⟩
    simp only [Bool.and_eq_true,bne_iff_ne,ne_eq]
    exact ⟨fun e=>hc (.inr e),fun e=>hc (.inl e)⟩
   funext k
   refine propext ⟨fun ⟨d1,d2⟩=>⟨d1,d2.imp id (fun d2 i hi=>d2 i (by omega))⟩,fun ⟨d1,d2⟩=>⟨d1,?_⟩⟩
   by_cases ek:k=((D.getD j (0,0)).2 - 1).toNat
   ·rw [ek];exact .inl hal
   ·refine d2.imp id (fun d2 i hi=>?_)
    by_cases ei:i=j
    ·rw [ei,c];omega
    ·exact d2 i (by omega)
  rw [e]
  exact hq
 ·rintro e w' ⟨rfl,hq⟩
  refine ⟨rfl,jc4 hq (fun W' o' hp=>?_)⟩
  obtain ⟨V,hm,hr,ha,han,_⟩:=hp
  refine ⟨V,hm,?_,ha,han⟩
  have e:({ S with now:=t }:Sal).knows=jfl S D D.length:=by
   funext k
   refine propext ((jke (by omega) k).trans ⟨fun ⟨d1,d2⟩=>⟨d1,?_⟩,fun ⟨d1,d2⟩=>⟨d1,?_⟩⟩)
   ·refine d2.imp id (fun d2 i hi e=>?_)
    obtain ⟨i',h1,h2,h3,h4⟩:=hat i hi
    rw [h4] at e
    have:i'=k:=by simp at e;omega
    subst this
    omega
   ·refine Classical.or_iff_not_imp_left.2 (fun hna=>?_)
    have d2:=d2.resolve_left hna
    refine Int.lt_of_not_ge (fun hle=>?_)
    have hm':=(hD ((S.os.getD k ja2).untl S.C,(k:Int)+1)).2 ⟨k,d1,by have:=ji3 hR d1;omega,hle,rfl⟩
    obtain ⟨i,hi,e⟩:=List.getElem_of_mem hm'
    exact d2 i hi (by simp [List.getD,List.getElem?_eq_getElem hi,e])
  rw [e]
  exact hr
theorem jje {S:Sal} (hK:saleK S) {st en:Int} (hen:en≠12/\en≠13/\en≠14):∀ (ds:List Nat) ,(∀ d∈ds,d<S.os.length)->saleK (jfy S st en ds):=by
 intro ds
 induction ds generalizing S with
 | nil=>intro _;exact hK
 | cons d ds ih =>
   intro h
   have e:jfy S st en (d :: ds)=jfy (if (S.os.getD d ja2).state=st then S.ends d en else S) st en ds:=rfl
   rw [e]
   split
   ·exact ih (hK.ends (h d List.mem_cons_self) en (.inr hen) (fun c=>absurd c hen.2.2)) (fun x hx=>by rw [jcx];exact h x (List.mem_cons_of_mem _ hx))
   ·exact ih hK (fun x hx=>h x (List.mem_cons_of_mem _ hx))
def jdk (D:List (Int × Int)):List Nat:=D.map (fun p=>(p.2 - 1).toNat)
open Classical in
theorem qab (da:Option Addr) (dc:Nat) (D:List (Int × Int)) (hK:saleK S) (hn:D.length<=4294967296) (fr into:Int) (hfr:fr=12\/fr=13) (hin:into≠12/\into≠13/\into≠14)
 (hD:∀ p∈D,1<=p.2/\(p.2 - 1).toNat<S.os.length)
 (h:psx an x S last W own) (hd:jya W da D) (hdis:∀ b off,da=some (aq b off)->¬ own b) :
 Calls Tryz.prog 136 #[pt x 0,.slice da D.length dc,iv fr,iv into] W fun e w'=>e=.returned (.tuple #[])/\jar (psx an x (jfy S fr into (jdk D)) last) W w' own:=by
 have hat:∀ j,j<D.length->1<=(D.getD j (0,0)).2/\((D.getD j (0,0)).2 - 1).toNat<S.os.length:=fun j hj=>hD _ (jeb hj)
 have htk:∀ j,j<D.length->(jdk D).take (j+1)=(jdk D).take j++[((D.getD j (0,0)).2 - 1).toNat]:=fun j hj=>by
  unfold jdk
  rw [← List.map_take,← List.map_take,jzl D hj,List.map_append]
  rfl
 have hin':∀ d∈jdk D,d<S.os.length:=fun d hd=>by
  obtain ⟨p,hp,rfl⟩:=List.mem_map.1 hd
  exact (hD p hp).2
 have hKj:∀ j,saleK (jfy S fr into ((jdk D).take j)):=fun j=>jje hK hin _ (fun d hd=>hin' d (List.mem_of_mem_take hd))
 have hlj:∀ j,(jfy S fr into ((jdk D).take j)).os.length=S.os.length:=fun j=>(jl0 fr into _ S).2.2.2
 have hlen:(jdk D).length=D.length:=by unfold jdk;simp
 refine (jvb x dc da D fr into W own (fun j=>psx an x (jfy S fr into ((jdk D).take j)) last) (fun j=>jb6 _ _ _ _)
  (fun j=>if (jfy S fr into ((jdk D).take j)).knows ((D.getD j (0,0)).2 - 1).toNat then jbp (jfy S fr into ((jdk D).take j)).C ((D.getD j (0,0)).2 - 1).toNat ((jfy S fr into ((jdk D).take j)).os.getD ((D.getD j (0,0)).2 - 1).toNat ja2) else pord0)
  (fun j=>decide ((jfy S fr into ((jdk D).take j)).knows ((D.getD j (0,0)).2 - 1).toNat))
  (fun j=>POrd.val ⟨(((D.getD j (0,0)).2 - 1).toNat:Int)+1,((jfy S fr into ((jdk D).take j)).os.getD ((D.getD j (0,0)).2 - 1).toNat ja2).cust,((jfy S fr into ((jdk D).take j)).os.getD ((D.getD j (0,0)).2 - 1).toNat ja2).units,into,((jfy S fr into ((jdk D).take j)).os.getD ((D.getD j (0,0)).2 - 1).toNat ja2).cents,(jfy S fr into ((jdk D).take j)).now+(jfy S fr into ((jdk D).take j)).C.keep⟩)
  h hn ?_ (fun W' hs=>jln hd hs hdis) ?_ ?_ ?_).mono ?_
 ·rintro j loc W' ⟨o1,hp,_⟩
  exact qbd hp
 ·rintro j loc W' hj ⟨o1,hp,_⟩
  obtain ⟨a,b⟩:=hat j hj
  by_cases hk:(jfy S fr into ((jdk D).take j)).knows ((D.getD j (0,0)).2 - 1).toNat
  ·have:=jvn hp hk
   rw [show (((D.getD j (0,0)).2 - 1).toNat:Int)+1=(D.getD j (0,0)).2 by omega] at this
   simp only [if_pos hk,decide_eq_true hk]
   exact this
  ·simp only [if_neg hk,decide_eq_false hk]
   exact jnc hp (fun i hi e=>hk (by
    have:((D.getD j (0,0)).2 - 1).toNat=i:=by omega
    rw [this];exact hi))
 ·intro j hj hk hs loc W' hT
  have hk':=of_decide_eq_true hk
  simp only [if_pos hk'] at hs ⊢
  have hs':((jfy S fr into ((jdk D).take j)).os.getD ((D.getD j (0,0)).2 - 1).toNat ja2).state=fr:=by simpa [jbp] using hs
  refine ja6 ((jb6 an x S last).lt h) (fun W1 o1 hq=>?_) W' hT
  have:=jpg hq (hKj j) hk' into ⟨hin.1,hin.2.1⟩
  simp only [htk j hj,jq9]
  rw [if_pos hs']
  exact this
 ·intro j hj hne W' o' hq
  simp only [htk j hj,jq9]
  rw [if_neg]
  ·exact hq
  ·intro hs
   have hk:(jfy S fr into ((jdk D).take j)).knows ((D.getD j (0,0)).2 - 1).toNat:=⟨by rw [hlj];exact (hat j hj).2,.inl (by unfold Ord.alive;rw [hs];exact hfr)⟩
   refine hne ⟨decide_eq_true hk,?_⟩
   simp only [if_pos hk]
   simpa [jbp] using hs
 ·rintro e w' ⟨rfl,hq⟩
  refine ⟨rfl,?_⟩
  rw [show (jdk D).take D.length=jdk D from List.take_of_length_le (by omega)] at hq
  exact hq
def pcx (an:Int) (x:Nat) (last:Nat) (S:Sal) (t:Int) (w:World) (own:Nat->Prop):Prop:=∃ V,psm w x own V/\relO V ({ S with now:=t }:Sal) last S.knows/\relA V.an V.atl V.att V.al S.C.keep S.ansL/\V.an=an/\V.tn<=S.now
theorem qdg (an:Int) (x:Nat) (last:Nat) (S:Sal) (t:Int):Keeps (pcx an x last S t):=⟨fun ⟨_,h,_⟩=>jes h,fun ⟨V,h,hr⟩ hz hk=>⟨V,jez h hz hk,hr⟩⟩
theorem qce (hJ:salJ S) (hR:restP S) (hS:stopAt S t) (ht:t<=4611686018427387904) (h:pcx an x last S t W own) :
 Calls Tryz.prog 104 #[pt x 0] W fun e w'=>e=.returned (.tuple #[])/\jar (psx an x (S.round t) last) W w' own:=by
 obtain ⟨V,hm,hr,ha,han,htn⟩:=h
 have hlt:=hS.later hR.R
 have hw:=jes hm
 have h0:=hJ.I.now
 have hT:jw9 V.tn t=t:=by unfold jw9;rw [if_neg (by omega)]
 have hdue:=hr.due (t:=t) (by omega)
 have htl:V.tl.length<=4294967296:=by
  have h1:V.tl.length<=S.os.length:=hr.tlen
  have:=hJ.len
  omega
 have hr1:=hr.advance (t:=t) (by omega) (Int.le_refl _)
 have hO:=jsb (now:=V.tn) (t:=t) hr.once
 have hDl:(jgv V.tn t V.tl).length<=4294967296:=by
  refine Nat.le_trans ?_ htl
  unfold jgv
  rw [if_neg (by omega)]
  rw [(jff t _ V.tl rfl).2.1.length_eq]
  exact List.length_filter_le _ _
 have hcell:∀ {W' o'},psm W' x o' V->x<W'.heap.size/\W'.cell? (aq x 10)=some (pt V.tw 0)/\W'.cell? (aq x 8)=some (iv t):=fun {W' o'} hp=>by
  obtain ⟨g,hp⟩:=hp
  refine ⟨hp.xw,hp.cell 10 _ rfl,?_⟩
  have:W'.cell? (aq x 8)=some (iv V.now):=hp.cell 8 _ rfl
  rw [hr.now] at this
  exact this
 have hids:∀ p∈jgv V.tn t V.tl,1<=p.2/\(p.2 - 1).toNat<S.os.length:=fun p hp=>by
  obtain ⟨i,h1,_,_,rfl⟩:=(hdue p).1 hp
  exact ⟨by simp;omega,by simpa using h1.1⟩
 have hmem:∀ k,k∈jdk (jgv V.tn t V.tl)↔S.knows k/\(S.os.getD k ja2).untl S.C<=t:=fun k=>by
  unfold jdk
  rw [List.mem_map]
  constructor
  ·rintro ⟨p,hp,rfl⟩
   obtain ⟨i,h1,_,h3,rfl⟩:=(hdue p).1 hp
   have e:((i:Int)+1 - 1).toNat=i:=by omega
   simp only [e]
   exact ⟨h1,h3⟩
  ·rintro ⟨h1,h2⟩
   refine ⟨_,(hdue _).2 ⟨k,h1,?_,h2,rfl⟩,by simp⟩
   have:=ji3 hR.R h1
   show V.tn<_
   exact Int.lt_of_le_of_lt htn this
 have hK0:saleK ({ S with now:=t }:Sal):=⟨jhx hJ.I ⟨by omega,ht⟩,hJ.len,hR.R.lease,hR.R.wait,hR.R.keep⟩
 have hdue12:∀ k,k<S.os.length->(S.os.getD k ja2).alive->(k∈jdk (jgv V.tn t V.tl)↔(S.os.getD k ja2).upto=t):=fun k hk hal=>by
  have hm':=hS.alive _ (jb2 hk) hal
  rw [hmem,jdb hal]
  constructor
  ·rintro ⟨_,h2⟩;omega
  ·intro e;exact ⟨⟨hk,.inl hal⟩,by omega⟩
 have e1:jfy ({ S with now:=t }:Sal) 13 15 (jdk (jgv V.tn t V.tl))=jbq ({ S with now:=t }:Sal) 13 15 ({ S with now:=t }:Sal).os.length :=
  jqf (by decide) (fun d hd=>((hmem d).1 hd).1.1) (fun k hk hs=>hdue12 k hk (.inr hs))
 have hK1:saleK (jbq ({ S with now:=t }:Sal) 13 15 ({ S with now:=t }:Sal).os.length):=by
  rw [← e1]
  exact jje hK0 (by decide) _ (fun d hd=>((hmem d).1 hd).1.1)
 have hK2:saleK (({ S with now:=t }:Sal).past 13 15):=hK1.promote
 have hl2:(({ S with now:=t }:Sal).past 13 15).os.length=S.os.length:=jhp _ 13 15
 have hn2:(({ S with now:=t }:Sal).past 13 15).now=t:=(jeo _ 13 15).2.1
 have e2:jfy (({ S with now:=t }:Sal).past 13 15) 12 17 (jdk (jgv V.tn t V.tl))=jbq (({ S with now:=t }:Sal).past 13 15) 12 17 (({ S with now:=t }:Sal).past 13 15).os.length :=
  jqf (by decide) (fun d hd=>by rw [hl2];exact ((hmem d).1 hd).1.1) (fun k hk hs=>by
   rw [hl2] at hk
   have e:=jtn _ hs
   rw [e] at hs ⊢
   rw [hn2]
   exact hdue12 k hk (.inl hs))
 have hK3:saleK (jbq (({ S with now:=t }:Sal).past 13 15) 12 17 (({ S with now:=t }:Sal).past 13 15).os.length):=by
  rw [← e2]
  exact jje hK2 (by decide) _ (fun d hd=>by rw [hl2];exact ((hmem d).1 hd).1.1)
 refine jxp x V.tw t (jy9 V.tn t) (jgv V.tn t V.tl) W own (pv x V) (pv x { V with tn:=jw9 V.tn t,tl:=jsi V.tn t V.tl }) (psx an x ({ S with now:=t }:Sal) last) (psx an x (jbq ({ S with now:=t }:Sal) 13 15 ({ S with now:=t }:Sal).os.length) last) (psx an x (({ S with now:=t }:Sal).past 13 15) last) (psx an x (jbq (({ S with now:=t }:Sal).past 13 15) 12 17 (({ S with now:=t }:Sal).past 13 15).os.length) last) (psx an x (S.round t) last) (jla _ _) (jla _ _) (jb6 _ _ _ _) (jb6 _ _ _ _) (jb6 _ _ _ _) (jb6 _ _ _ _) (jb6 _ _ _ _) hm ?_ ?_ ?_ ?_ ?_ ?_ ?_ ?_
 ·rintro loc W' ⟨o1,hp,_⟩
  exact hcell hp
 ·rintro da loc W' ⟨o1,⟨o0,hp,_⟩,_⟩
  obtain ⟨g,hp⟩:=(show psm W' x o0 _ from hp)
  refine ⟨hp.xw,hp.cell 10 _ rfl,?_⟩
  have:W'.cell? (aq x 8)=some (iv V.now):=hp.cell 8 _ rfl
  rw [hr.now] at this
  exact this
 ·rintro loc W' ⟨o1,hp,a2,a3,a4⟩
  refine (qci hp t htl).mono ?_
  rintro e w' ⟨da,dc,rfl,hq⟩
  exact ⟨da,dc,rfl,jmk a2 a3 a4 hq⟩
 ·intro da dc loc W' hT'
  refine ja6 hw (jeh (jb6 _ _ _ _) (fun W1 o1 hp hd hdis=>?_)) W' hT'
  refine jwj da dc _ hJ.len hR.R hlt V.tn htn hO hDl hdue ⟨_,hp,?_,ha,han,hT⟩ hd hdis
  rw [hT]
  exact hr1
 ·intro da dc loc W' hT'
  refine ja6 hw (jeh (jb6 _ _ _ _) (fun W1 o1 hp hd hdis=>?_)) W' hT'
  rw [← e1]
  exact qab da dc _ hK0 hDl 13 15 (.inr rfl) (by decide) hids hp hd hdis
 ·intro da loc W' hT'
  exact ja6 hw (jeh (jb6 _ _ _ _) (fun W1 o1 hp hd hdis=>jg8 hp hK1)) W' hT'
 ·intro da dc loc W' hT'
  refine ja6 hw (jeh (jb6 _ _ _ _) (fun W1 o1 hp hd hdis=>?_)) W' hT'
  rw [← e2]
  exact qab da dc _ hK2 hDl 12 17 (.inl rfl) (by decide) (fun p hp=>by rw [hl2];exact hids p hp) hp hd hdis
 ·intro da loc W' hT'
  exact ja6 hw (jeh (jb6 _ _ _ _) (fun W1 o1 hp hd hdis=>jg8 hp hK3)) W' hT'
end
end
end Go.Proofs.YtfhncfghblkgeaaGreat
