import Derived.Test.YtfhncfghblkgeabGreatL38
set_option maxRecDepth 100000
set_option maxHeartbeats 2000000
namespace Go.Proofs.YtfhncfghblkgeabGreat
open Go.RowKit
theorem tP {W:World} {b:Nat} {c0 c1 c2 c3 c4 c5 c6 c7 c8:Value} {T:TypeId} (h:W.heap[b]?=some (.cells #[c0,c1,c2,c3,c4,c5,c6,c7,c8] T)) (v0 v1 v2 v3 v4 v5 v6 v7 v8:Value):(((((((((W.setCell (aq b 0) v0).setCell (aq b 1) v1).setCell (aq b 2) v2).setCell (aq b 3) v3).setCell (aq b 4) v4).setCell (aq b 5) v5).setCell (aq b 6) v6).setCell (aq b 7) v7).setCell (aq b 8) v8).heap[b]?=some (.cells #[v0,v1,v2,v3,v4,v5,v6,v7,v8] T):=by
 have h1:(W.setCell (aq b 0) v0).heap[b]?=some (.cells #[v0,c1,c2,c3,c4,c5,c6,c7,c8] T):=uH (i:=0) h v0
 generalize W.setCell (aq b 0) v0=W0 at h1 ⊢
 have h2:(W0.setCell (aq b 1) v1).heap[b]?=some (.cells #[v0,v1,c2,c3,c4,c5,c6,c7,c8] T):=uH (i:=1) h1 v1
 generalize W0.setCell (aq b 1) v1=W1 at h2 ⊢
 have h3:(W1.setCell (aq b 2) v2).heap[b]?=some (.cells #[v0,v1,v2,c3,c4,c5,c6,c7,c8] T):=uH (i:=2) h2 v2
 generalize W1.setCell (aq b 2) v2=W2 at h3 ⊢
 have h4:(W2.setCell (aq b 3) v3).heap[b]?=some (.cells #[v0,v1,v2,v3,c4,c5,c6,c7,c8] T):=uH (i:=3) h3 v3
 generalize W2.setCell (aq b 3) v3=W3 at h4 ⊢
 have h5:(W3.setCell (aq b 4) v4).heap[b]?=some (.cells #[v0,v1,v2,v3,v4,c5,c6,c7,c8] T):=uH (i:=4) h4 v4
 generalize W3.setCell (aq b 4) v4=W4 at h5 ⊢
 have h6:(W4.setCell (aq b 5) v5).heap[b]?=some (.cells #[v0,v1,v2,v3,v4,v5,c6,c7,c8] T):=uH (i:=5) h5 v5
 generalize W4.setCell (aq b 5) v5=W5 at h6 ⊢
 have h7:(W5.setCell (aq b 6) v6).heap[b]?=some (.cells #[v0,v1,v2,v3,v4,v5,v6,c7,c8] T):=uH (i:=6) h6 v6
 generalize W5.setCell (aq b 6) v6=W6 at h7 ⊢
 have h8:(W6.setCell (aq b 7) v7).heap[b]?=some (.cells #[v0,v1,v2,v3,v4,v5,v6,v7,c8] T):=uH (i:=7) h7 v7
 generalize W6.setCell (aq b 7) v7=W7 at h8 ⊢
 have h9:(W7.setCell (aq b 8) v8).heap[b]?=some (.cells #[v0,v1,v2,v3,v4,v5,v6,v7,v8] T):=uH (i:=8) h8 v8
 generalize W7.setCell (aq b 8) v8=W8 at h9 ⊢
 exact h9
theorem fD (W:World) (b k:Nat) (h:k≠b) (v0 v1 v2 v3 v4 v5 v6 v7 v8:Value):(((((((((W.setCell (aq b 0) v0).setCell (aq b 1) v1).setCell (aq b 2) v2).setCell (aq b 3) v3).setCell (aq b 4) v4).setCell (aq b 5) v5).setCell (aq b 6) v6).setCell (aq b 7) v7).setCell (aq b 8) v8).heap[k]?=W.heap[k]?:=by
 have h0:(W.setCell (aq b 0) v0).heap[k]?=W.heap[k]?:=uG _ (aq b 0) _ _ h
 generalize W.setCell (aq b 0) v0=W0 at h0 ⊢
 have h1:(W0.setCell (aq b 1) v1).heap[k]?=W0.heap[k]?:=uG _ (aq b 1) _ _ h
 generalize W0.setCell (aq b 1) v1=W1 at h1 ⊢
 have h2:(W1.setCell (aq b 2) v2).heap[k]?=W1.heap[k]?:=uG _ (aq b 2) _ _ h
 generalize W1.setCell (aq b 2) v2=W2 at h2 ⊢
 have h3:(W2.setCell (aq b 3) v3).heap[k]?=W2.heap[k]?:=uG _ (aq b 3) _ _ h
 generalize W2.setCell (aq b 3) v3=W3 at h3 ⊢
 have h4:(W3.setCell (aq b 4) v4).heap[k]?=W3.heap[k]?:=uG _ (aq b 4) _ _ h
 generalize W3.setCell (aq b 4) v4=W4 at h4 ⊢
 have h5:(W4.setCell (aq b 5) v5).heap[k]?=W4.heap[k]?:=uG _ (aq b 5) _ _ h
 generalize W4.setCell (aq b 5) v5=W5 at h5 ⊢
 have h6:(W5.setCell (aq b 6) v6).heap[k]?=W5.heap[k]?:=uG _ (aq b 6) _ _ h
 generalize W5.setCell (aq b 6) v6=W6 at h6 ⊢
 have h7:(W6.setCell (aq b 7) v7).heap[k]?=W6.heap[k]?:=uG _ (aq b 7) _ _ h
 generalize W6.setCell (aq b 7) v7=W7 at h7 ⊢
 have h8:(W7.setCell (aq b 8) v8).heap[k]?=W7.heap[k]?:=uG _ (aq b 8) _ _ h
 generalize W7.setCell (aq b 8) v8=W8 at h8 ⊢
 rw [h8,h7,h6,h5,h4,h3,h2,h1,h0]
theorem Ir (x:Nat) (k t c u o a0 a1 a2 a3:Int) (w:World)
 (HG:Hid (∀ W,Below w.heap.size w W->Ca 67 #[pt x 23,iv t] W fun e w'=>e=.returned (.tuple #[.agg #[iv k,iv t,iv c,iv u,iv o,iv a0,iv a1,iv a2,iv a3],.bool true])/\Below W.heap.size W w')) :
 Ca 44 #[pt x 0,.agg #[iv k,iv t,iv c,iv u,iv o]] w fun e w'=>e=.returned (.agg #[iv a0,iv a1,iv a2,iv a3])/\Below w.heap.size w w':=by
 go_enter Tryz.func44,Tryz.ntmps44
 have qb:=zq1 w #[iv k,iv t,iv c,iv u,iv o] 39 #[iv 0,iv 0,iv 0,iv 0] 33
 have rb:=zq2 w #[iv k,iv t,iv c,iv u,iv o] 39 #[iv 0,iv 0,iv 0,iv 0] 33
 have hbl:=zq3 w #[iv k,iv t,iv c,iv u,iv o] 39 #[iv 0,iv 0,iv 0,iv 0] 33
 go_wp2_with fail
 generalize (w.alloc (.cells #[iv k,iv t,iv c,iv u,iv o] 39)).alloc (.cells #[iv 0,iv 0,iv 0,iv 0] 33)=W0 at qb rb hbl ⊢
 obtain ⟨p0,p1,p2,p3,p4⟩:=qU qb.out
 have lw:w.heap.size<W0.heap.size:=(blt qb.out)
 have lv:w.heap.size+1<W0.heap.size:=(blt rb.out)
 go_region_with
  (first
    | (go_at_call 67;refine (HG.out _ (by repeat (first|exact hbl.out|refine Below.drew ?_|refine qY ?_|refine Below.alloc ?_ (by have:=hbl.out.size;omega) _))).mono ?_;rintro e W1 ⟨rfl,bb⟩
       have hb1:Below W0.heap.size W0 W1:=by first|exact bb|exact uL (show Below W0.heap.size W0 _ from bL) (bb.mono vS)
       first
        | (have nb:Hid (W1.heap[W0.heap.size]?=some (.cells #[iv 0,iv 0,iv 0,iv 0,iv 0,iv 0,iv 0,iv 0,iv 0] 146)):=(bb.block W0.heap.size (by simp;done)).trans (uF W0 _)
           have e0:=qA nb.out 0
           have e1:=qA nb.out 1
           have e2:=qA nb.out 2
           have e3:=qA nb.out 3
           have e4:=qA nb.out 4
           have e5:=qA nb.out 5
           have e6:=qA nb.out 6
           have e7:=qA nb.out 7
           have e8:=qA nb.out 8
           obtain ⟨n0,n1,n2,n3,n4,n5,n6,n7,n8⟩:=zI nb.out
           have ln:W0.heap.size<W1.heap.size:=(blt nb.out))
        | skip
       have hbl1:Hid (Below w.heap.size w W1):=uL hbl.out (hb1.mono hbl.out.size)
       have qb1:Hid _:=(hb1.block w.heap.size lw).trans qb.out
       have rb1:Hid _:=(hb1.block (w.heap.size+1) lv).trans rb.out
       have lw1:w.heap.size<W1.heap.size:=uB lw hb1.size
       have lv1:w.heap.size+1<W1.heap.size:=uB lv hb1.size
       clear bb hb1))
 all_goals clear p0 p1 p2 p3 p4 HG
 all_goals (first
  | (have ob2:Hid ((((((((((W1.setCell (aq W0.heap.size 0) (iv k)).setCell (aq W0.heap.size 1) (iv t)).setCell (aq W0.heap.size 2) (iv c)).setCell (aq W0.heap.size 3) (iv u)).setCell (aq W0.heap.size 4) (iv o)).setCell (aq W0.heap.size 5) (iv a0)).setCell (aq W0.heap.size 6) (iv a1)).setCell (aq W0.heap.size 7) (iv a2)).setCell (aq W0.heap.size 8) (iv a3)).heap[W0.heap.size]?=some (.cells #[iv k,iv t,iv c,iv u,iv o,iv a0,iv a1,iv a2,iv a3] 146)):=tP nb.out _ _ _ _ _ _ _ _ _
     have hb2:Hid (Below w.heap.size w (((((((((W1.setCell (aq W0.heap.size 0) (iv k)).setCell (aq W0.heap.size 1) (iv t)).setCell (aq W0.heap.size 2) (iv c)).setCell (aq W0.heap.size 3) (iv u)).setCell (aq W0.heap.size 4) (iv o)).setCell (aq W0.heap.size 5) (iv a0)).setCell (aq W0.heap.size 6) (iv a1)).setCell (aq W0.heap.size 7) (iv a2)).setCell (aq W0.heap.size 8) (iv a3))):=oX hbl1.out (by have:=hbl.out.size;omega)
     have qb2:Hid ((((((((((W1.setCell (aq W0.heap.size 0) (iv k)).setCell (aq W0.heap.size 1) (iv t)).setCell (aq W0.heap.size 2) (iv c)).setCell (aq W0.heap.size 3) (iv u)).setCell (aq W0.heap.size 4) (iv o)).setCell (aq W0.heap.size 5) (iv a0)).setCell (aq W0.heap.size 6) (iv a1)).setCell (aq W0.heap.size 7) (iv a2)).setCell (aq W0.heap.size 8) (iv a3)).heap[w.heap.size]?=_):=(fD W1 W0.heap.size _ uO _ _ _ _ _ _ _ _ _).trans qb1.out
     have rb2:Hid ((((((((((W1.setCell (aq W0.heap.size 0) (iv k)).setCell (aq W0.heap.size 1) (iv t)).setCell (aq W0.heap.size 2) (iv c)).setCell (aq W0.heap.size 3) (iv u)).setCell (aq W0.heap.size 4) (iv o)).setCell (aq W0.heap.size 5) (iv a0)).setCell (aq W0.heap.size 6) (iv a1)).setCell (aq W0.heap.size 7) (iv a2)).setCell (aq W0.heap.size 8) (iv a3)).heap[w.heap.size+1]?=_):=(fD W1 W0.heap.size _ uO _ _ _ _ _ _ _ _ _).trans rb1.out
     clear e0 e1 e2 e3 e4 e5 e6 e7 e8 n0 n1 n2 n3 n4 n5 n6 n7 n8
     generalize ((((((((W1.setCell (aq W0.heap.size 0) (iv k)).setCell (aq W0.heap.size 1) (iv t)).setCell (aq W0.heap.size 2) (iv c)).setCell (aq W0.heap.size 3) (iv u)).setCell (aq W0.heap.size 4) (iv o)).setCell (aq W0.heap.size 5) (iv a0)).setCell (aq W0.heap.size 6) (iv a1)).setCell (aq W0.heap.size 7) (iv a2)).setCell (aq W0.heap.size 8) (iv a3)=W2 at ob2 hb2 qb2 rb2 ⊢
     generalize W0.heap.size=ab at ob2 ⊢)
  | (have ob2:Hid ((W1.alloc (.cells #[iv k,iv t,iv c,iv u,iv o,iv a0,iv a1,iv a2,iv a3] 146)).heap[W1.heap.size]?=some (.cells #[iv k,iv t,iv c,iv u,iv o,iv a0,iv a1,iv a2,iv a3] 146)):=uF W1 _
     have hb2:Hid (Below w.heap.size w (W1.alloc (.cells #[iv k,iv t,iv c,iv u,iv o,iv a0,iv a1,iv a2,iv a3] 146))):=hbl1.out.alloc uO _
     have qb2:Hid ((W1.alloc (.cells #[iv k,iv t,iv c,iv u,iv o,iv a0,iv a1,iv a2,iv a3] 146)).heap[w.heap.size]?=_):=(uE _ _ _ lw1).trans qb1.out
     have rb2:Hid ((W1.alloc (.cells #[iv k,iv t,iv c,iv u,iv o,iv a0,iv a1,iv a2,iv a3] 146)).heap[w.heap.size+1]?=_):=(uE _ _ _ lv1).trans rb1.out
     generalize W1.alloc (.cells #[iv k,iv t,iv c,iv u,iv o,iv a0,iv a1,iv a2,iv a3] 146)=W2 at ob2 hb2 qb2 rb2 ⊢
     generalize W1.heap.size=ab at ob2 ⊢))
 all_goals
  clear hbl1 qb1 rb1 lw1 lv1
  clear qb rb hbl lw lv
  obtain ⟨p0,p1,p2,p3,p4⟩:=qU qb2.out
  obtain ⟨m0,m1,m2,m3,m4,m5,m6,m7,m8⟩:=zI ob2.out
  obtain ⟨s0,s1,s2,s3⟩:=qC rb2.out
  have f0:=qA rb2.out 0
  have f1:=qA rb2.out 1
  have f2:=qA rb2.out 2
  have f3:=qA rb2.out 3
  have lq:w.heap.size<W2.heap.size:=(blt qb2.out)
  have lr:w.heap.size+1<W2.heap.size:=(blt rb2.out)
  have la:ab<W2.heap.size:=(blt ob2.out)
  have HB:Hid (∀ v0 v1 v2 v3,Below w.heap.size w ((((W2.setCell (aq (w.heap.size+1) 0) v0).setCell (aq (w.heap.size+1) 1) v1).setCell (aq (w.heap.size+1) 2) v2).setCell (aq (w.heap.size+1) 3) v3)):=fun v0 v1 v2 v3=>jM hb2.out uO
  go_wp2
  refine uK (v:=.agg #[iv a0,iv a1,iv a2,iv a3]) (by simp [results,Tryz.results44,go_sem,s0,s1,s2,s3]) rfl ⟨rfl,?_⟩
  exact HB.out _ _ _ _
theorem Fs (x:Nat) (k t c u o k1 t1 c1 u1 o1 a0 a1 a2 a3:Int) (w:World) (hne:¬ (k1=k/\t1=t/\c1=c/\u1=u/\o1=o))
 (HG:Hid (∀ W,Below w.heap.size w W->Ca 67 #[pt x 23,iv t] W fun e w'=>e=.returned (.tuple #[.agg #[iv k1,iv t1,iv c1,iv u1,iv o1,iv a0,iv a1,iv a2,iv a3],.bool true])/\Below W.heap.size W w')) :
 Ca 44 #[pt x 0,.agg #[iv k,iv t,iv c,iv u,iv o]] w fun e w'=>e=.returned (.agg #[iv 10,iv 0,iv 0,iv 0])/\Below w.heap.size w w':=by
 go_enter Tryz.func44,Tryz.ntmps44
 have qb:=zq1 w #[iv k,iv t,iv c,iv u,iv o] 39 #[iv 0,iv 0,iv 0,iv 0] 33
 have rb:=zq2 w #[iv k,iv t,iv c,iv u,iv o] 39 #[iv 0,iv 0,iv 0,iv 0] 33
 have hbl:=zq3 w #[iv k,iv t,iv c,iv u,iv o] 39 #[iv 0,iv 0,iv 0,iv 0] 33
 go_wp2_with fail
 generalize (w.alloc (.cells #[iv k,iv t,iv c,iv u,iv o] 39)).alloc (.cells #[iv 0,iv 0,iv 0,iv 0] 33)=W0 at qb rb hbl ⊢
 obtain ⟨p0,p1,p2,p3,p4⟩:=qU qb.out
 have lw:w.heap.size<W0.heap.size:=(blt qb.out)
 have lv:w.heap.size+1<W0.heap.size:=(blt rb.out)
 go_region_with
  (first
    | (go_at_call 67;refine (HG.out _ (by repeat (first|exact hbl.out|refine Below.drew ?_|refine qY ?_|refine Below.alloc ?_ (by have:=hbl.out.size;omega) _))).mono ?_;rintro e W1 ⟨rfl,bb⟩
       have hb1:Below W0.heap.size W0 W1:=by first|exact bb|exact uL (show Below W0.heap.size W0 _ from bL) (bb.mono vS)
       first
        | (have nb:Hid (W1.heap[W0.heap.size]?=some (.cells #[iv 0,iv 0,iv 0,iv 0,iv 0,iv 0,iv 0,iv 0,iv 0] 146)):=(bb.block W0.heap.size (by simp;done)).trans (uF W0 _)
           have e0:=qA nb.out 0
           have e1:=qA nb.out 1
           have e2:=qA nb.out 2
           have e3:=qA nb.out 3
           have e4:=qA nb.out 4
           have e5:=qA nb.out 5
           have e6:=qA nb.out 6
           have e7:=qA nb.out 7
           have e8:=qA nb.out 8
           obtain ⟨n0,n1,n2,n3,n4,n5,n6,n7,n8⟩:=zI nb.out
           have ln:W0.heap.size<W1.heap.size:=(blt nb.out))
        | skip
       have hbl1:Hid (Below w.heap.size w W1):=uL hbl.out (hb1.mono hbl.out.size)
       have qb1:Hid _:=(hb1.block w.heap.size lw).trans qb.out
       have rb1:Hid _:=(hb1.block (w.heap.size+1) lv).trans rb.out
       have lw1:w.heap.size<W1.heap.size:=uB lw hb1.size
       have lv1:w.heap.size+1<W1.heap.size:=uB lv hb1.size
       clear bb hb1))
 all_goals clear p0 p1 p2 p3 p4 HG
 all_goals (first
  | (have ob2:Hid ((((((((((W1.setCell (aq W0.heap.size 0) (iv k1)).setCell (aq W0.heap.size 1) (iv t1)).setCell (aq W0.heap.size 2) (iv c1)).setCell (aq W0.heap.size 3) (iv u1)).setCell (aq W0.heap.size 4) (iv o1)).setCell (aq W0.heap.size 5) (iv a0)).setCell (aq W0.heap.size 6) (iv a1)).setCell (aq W0.heap.size 7) (iv a2)).setCell (aq W0.heap.size 8) (iv a3)).heap[W0.heap.size]?=some (.cells #[iv k1,iv t1,iv c1,iv u1,iv o1,iv a0,iv a1,iv a2,iv a3] 146)):=tP nb.out _ _ _ _ _ _ _ _ _
     have hb2:Hid (Below w.heap.size w (((((((((W1.setCell (aq W0.heap.size 0) (iv k1)).setCell (aq W0.heap.size 1) (iv t1)).setCell (aq W0.heap.size 2) (iv c1)).setCell (aq W0.heap.size 3) (iv u1)).setCell (aq W0.heap.size 4) (iv o1)).setCell (aq W0.heap.size 5) (iv a0)).setCell (aq W0.heap.size 6) (iv a1)).setCell (aq W0.heap.size 7) (iv a2)).setCell (aq W0.heap.size 8) (iv a3))):=oX hbl1.out (by have:=hbl.out.size;omega)
     have qb2:Hid ((((((((((W1.setCell (aq W0.heap.size 0) (iv k1)).setCell (aq W0.heap.size 1) (iv t1)).setCell (aq W0.heap.size 2) (iv c1)).setCell (aq W0.heap.size 3) (iv u1)).setCell (aq W0.heap.size 4) (iv o1)).setCell (aq W0.heap.size 5) (iv a0)).setCell (aq W0.heap.size 6) (iv a1)).setCell (aq W0.heap.size 7) (iv a2)).setCell (aq W0.heap.size 8) (iv a3)).heap[w.heap.size]?=_):=(fD W1 W0.heap.size _ uO _ _ _ _ _ _ _ _ _).trans qb1.out
     have rb2:Hid ((((((((((W1.setCell (aq W0.heap.size 0) (iv k1)).setCell (aq W0.heap.size 1) (iv t1)).setCell (aq W0.heap.size 2) (iv c1)).setCell (aq W0.heap.size 3) (iv u1)).setCell (aq W0.heap.size 4) (iv o1)).setCell (aq W0.heap.size 5) (iv a0)).setCell (aq W0.heap.size 6) (iv a1)).setCell (aq W0.heap.size 7) (iv a2)).setCell (aq W0.heap.size 8) (iv a3)).heap[w.heap.size+1]?=_):=(fD W1 W0.heap.size _ uO _ _ _ _ _ _ _ _ _).trans rb1.out
     clear e0 e1 e2 e3 e4 e5 e6 e7 e8 n0 n1 n2 n3 n4 n5 n6 n7 n8
     generalize ((((((((W1.setCell (aq W0.heap.size 0) (iv k1)).setCell (aq W0.heap.size 1) (iv t1)).setCell (aq W0.heap.size 2) (iv c1)).setCell (aq W0.heap.size 3) (iv u1)).setCell (aq W0.heap.size 4) (iv o1)).setCell (aq W0.heap.size 5) (iv a0)).setCell (aq W0.heap.size 6) (iv a1)).setCell (aq W0.heap.size 7) (iv a2)).setCell (aq W0.heap.size 8) (iv a3)=W2 at ob2 hb2 qb2 rb2 ⊢
     generalize W0.heap.size=ab at ob2 ⊢)
  | (have ob2:Hid ((W1.alloc (.cells #[iv k1,iv t1,iv c1,iv u1,iv o1,iv a0,iv a1,iv a2,iv a3] 146)).heap[W1.heap.size]?=some (.cells #[iv k1,iv t1,iv c1,iv u1,iv o1,iv a0,iv a1,iv a2,iv a3] 146)):=uF W1 _
     have hb2:Hid (Below w.heap.size w (W1.alloc (.cells #[iv k1,iv t1,iv c1,iv u1,iv o1,iv a0,iv a1,iv a2,iv a3] 146))):=hbl1.out.alloc uO _
     have qb2:Hid ((W1.alloc (.cells #[iv k1,iv t1,iv c1,iv u1,iv o1,iv a0,iv a1,iv a2,iv a3] 146)).heap[w.heap.size]?=_):=(uE _ _ _ lw1).trans qb1.out
     have rb2:Hid ((W1.alloc (.cells #[iv k1,iv t1,iv c1,iv u1,iv o1,iv a0,iv a1,iv a2,iv a3] 146)).heap[w.heap.size+1]?=_):=(uE _ _ _ lv1).trans rb1.out
     generalize W1.alloc (.cells #[iv k1,iv t1,iv c1,iv u1,iv o1,iv a0,iv a1,iv a2,iv a3] 146)=W2 at ob2 hb2 qb2 rb2 ⊢
     generalize W1.heap.size=ab at ob2 ⊢))
 all_goals
  clear hbl1 qb1 rb1 lw1 lv1
  clear qb rb hbl lw lv
  obtain ⟨p0,p1,p2,p3,p4⟩:=qU qb2.out
  obtain ⟨m0,m1,m2,m3,m4,m5,m6,m7,m8⟩:=zI ob2.out
  obtain ⟨s0,s1,s2,s3⟩:=qC rb2.out
  have f0:=qA rb2.out 0
  have f1:=qA rb2.out 1
  have f2:=qA rb2.out 2
  have f3:=qA rb2.out 3
  have lq:w.heap.size<W2.heap.size:=(blt qb2.out)
  have lr:w.heap.size+1<W2.heap.size:=(blt rb2.out)
  have la:ab<W2.heap.size:=(blt ob2.out)
  have HB:Hid (∀ v0 v1 v2 v3,Below w.heap.size w ((((W2.setCell (aq (w.heap.size+1) 0) v0).setCell (aq (w.heap.size+1) 1) v1).setCell (aq (w.heap.size+1) 2) v2).setCell (aq (w.heap.size+1) 3) v3)):=fun v0 v1 v2 v3=>jM hb2.out uO
  replace hne:Hid _:=hne
  go_wp2
  all_goals first
   | (exfalso;apply hne.out;refine ⟨?_,?_,?_,?_,?_⟩<;>first|assumption|rfl|(symm;assumption)|omega)
   | (refine uK (v:=.agg #[iv 10,iv 0,iv 0,iv 0]) (by simp [results,Tryz.results44,go_sem,s0,s1,s2,s3]) rfl ⟨rfl,?_⟩;exact HB.out _ _ _ _)
theorem Bk (x:Nat) (k t c u o n tk:Int) (w:World) (hn:tk<=n)
 (HG:Hid (∀ W,Below w.heap.size w W->Ca 67 #[pt x 23,iv t] W fun e w'=>e=.returned (.tuple #[.agg #[iv 0,iv 0,iv 0,iv 0,iv 0,iv 0,iv 0,iv 0,iv 0],.bool false])/\Below W.heap.size W w'))
 (c6:w.cell? (aq x 6)=some (iv tk)) (HZ:Hid (∀ W,Below w.heap.size w W->Ca 40 #[pt x 23] W fun e w'=>e=.returned (iv n)/\Below W.heap.size W w')) :
 Ca 44 #[pt x 0,.agg #[iv k,iv t,iv c,iv u,iv o]] w fun e w'=>e=.returned (.agg #[iv 11,iv 0,iv 0,iv 0])/\Below w.heap.size w w':=by
 have hxw:x<w.heap.size:=uC w _ c6
 replace c6:Hid _:=c6
 go_enter Tryz.func44,Tryz.ntmps44
 have qb:=zq1 w #[iv k,iv t,iv c,iv u,iv o] 39 #[iv 0,iv 0,iv 0,iv 0] 33
 have rb:=zq2 w #[iv k,iv t,iv c,iv u,iv o] 39 #[iv 0,iv 0,iv 0,iv 0] 33
 have hbl:=zq3 w #[iv k,iv t,iv c,iv u,iv o] 39 #[iv 0,iv 0,iv 0,iv 0] 33
 go_wp2_with fail
 generalize (w.alloc (.cells #[iv k,iv t,iv c,iv u,iv o] 39)).alloc (.cells #[iv 0,iv 0,iv 0,iv 0] 33)=W0 at qb rb hbl ⊢
 obtain ⟨p0,p1,p2,p3,p4⟩:=qU qb.out
 have lw:w.heap.size<W0.heap.size:=(blt qb.out)
 have lv:w.heap.size+1<W0.heap.size:=(blt rb.out)
 go_region_with
  (first
    | (go_at_call 67;refine (HG.out _ (by repeat (first|exact hbl.out|refine Below.drew ?_|refine qY ?_|refine Below.alloc ?_ (by have:=hbl.out.size;omega) _))).mono ?_;rintro e W1 ⟨rfl,bb⟩
       have hb1:Below W0.heap.size W0 W1:=by first|exact bb|exact uL (show Below W0.heap.size W0 _ from bL) (bb.mono vS)
       first
        | (have nb:Hid (W1.heap[W0.heap.size]?=some (.cells #[iv 0,iv 0,iv 0,iv 0,iv 0,iv 0,iv 0,iv 0,iv 0] 146)):=(bb.block W0.heap.size (by simp;done)).trans (uF W0 _)
           have e0:=qA nb.out 0
           have e1:=qA nb.out 1
           have e2:=qA nb.out 2
           have e3:=qA nb.out 3
           have e4:=qA nb.out 4
           have e5:=qA nb.out 5
           have e6:=qA nb.out 6
           have e7:=qA nb.out 7
           have e8:=qA nb.out 8
           obtain ⟨n0,n1,n2,n3,n4,n5,n6,n7,n8⟩:=zI nb.out
           have ln:W0.heap.size<W1.heap.size:=(blt nb.out))
        | skip
       have hbl1:Hid (Below w.heap.size w W1):=uL hbl.out (hb1.mono hbl.out.size)
       have qb1:Hid _:=(hb1.block w.heap.size lw).trans qb.out
       have rb1:Hid _:=(hb1.block (w.heap.size+1) lv).trans rb.out
       have lw1:w.heap.size<W1.heap.size:=uB lw hb1.size
       have lv1:w.heap.size+1<W1.heap.size:=uB lv hb1.size
       clear bb hb1))
 all_goals clear p0 p1 p2 p3 p4 HG
 all_goals (first
  | (have ob2:Hid ((((((((((W1.setCell (aq W0.heap.size 0) (iv 0)).setCell (aq W0.heap.size 1) (iv 0)).setCell (aq W0.heap.size 2) (iv 0)).setCell (aq W0.heap.size 3) (iv 0)).setCell (aq W0.heap.size 4) (iv 0)).setCell (aq W0.heap.size 5) (iv 0)).setCell (aq W0.heap.size 6) (iv 0)).setCell (aq W0.heap.size 7) (iv 0)).setCell (aq W0.heap.size 8) (iv 0)).heap[W0.heap.size]?=some (.cells #[iv 0,iv 0,iv 0,iv 0,iv 0,iv 0,iv 0,iv 0,iv 0] 146)):=tP nb.out _ _ _ _ _ _ _ _ _
     have hb2:Hid (Below w.heap.size w (((((((((W1.setCell (aq W0.heap.size 0) (iv 0)).setCell (aq W0.heap.size 1) (iv 0)).setCell (aq W0.heap.size 2) (iv 0)).setCell (aq W0.heap.size 3) (iv 0)).setCell (aq W0.heap.size 4) (iv 0)).setCell (aq W0.heap.size 5) (iv 0)).setCell (aq W0.heap.size 6) (iv 0)).setCell (aq W0.heap.size 7) (iv 0)).setCell (aq W0.heap.size 8) (iv 0))):=oX hbl1.out (by have:=hbl.out.size;omega)
     have qb2:Hid ((((((((((W1.setCell (aq W0.heap.size 0) (iv 0)).setCell (aq W0.heap.size 1) (iv 0)).setCell (aq W0.heap.size 2) (iv 0)).setCell (aq W0.heap.size 3) (iv 0)).setCell (aq W0.heap.size 4) (iv 0)).setCell (aq W0.heap.size 5) (iv 0)).setCell (aq W0.heap.size 6) (iv 0)).setCell (aq W0.heap.size 7) (iv 0)).setCell (aq W0.heap.size 8) (iv 0)).heap[w.heap.size]?=_):=(fD W1 W0.heap.size _ uO _ _ _ _ _ _ _ _ _).trans qb1.out
     have rb2:Hid ((((((((((W1.setCell (aq W0.heap.size 0) (iv 0)).setCell (aq W0.heap.size 1) (iv 0)).setCell (aq W0.heap.size 2) (iv 0)).setCell (aq W0.heap.size 3) (iv 0)).setCell (aq W0.heap.size 4) (iv 0)).setCell (aq W0.heap.size 5) (iv 0)).setCell (aq W0.heap.size 6) (iv 0)).setCell (aq W0.heap.size 7) (iv 0)).setCell (aq W0.heap.size 8) (iv 0)).heap[w.heap.size+1]?=_):=(fD W1 W0.heap.size _ uO _ _ _ _ _ _ _ _ _).trans rb1.out
     clear e0 e1 e2 e3 e4 e5 e6 e7 e8 n0 n1 n2 n3 n4 n5 n6 n7 n8
     generalize ((((((((W1.setCell (aq W0.heap.size 0) (iv 0)).setCell (aq W0.heap.size 1) (iv 0)).setCell (aq W0.heap.size 2) (iv 0)).setCell (aq W0.heap.size 3) (iv 0)).setCell (aq W0.heap.size 4) (iv 0)).setCell (aq W0.heap.size 5) (iv 0)).setCell (aq W0.heap.size 6) (iv 0)).setCell (aq W0.heap.size 7) (iv 0)).setCell (aq W0.heap.size 8) (iv 0)=W2 at ob2 hb2 qb2 rb2 ⊢
     generalize W0.heap.size=ab at ob2 ⊢)
  | (have ob2:Hid ((W1.alloc (.cells #[iv 0,iv 0,iv 0,iv 0,iv 0,iv 0,iv 0,iv 0,iv 0] 146)).heap[W1.heap.size]?=some (.cells #[iv 0,iv 0,iv 0,iv 0,iv 0,iv 0,iv 0,iv 0,iv 0] 146)):=uF W1 _
     have hb2:Hid (Below w.heap.size w (W1.alloc (.cells #[iv 0,iv 0,iv 0,iv 0,iv 0,iv 0,iv 0,iv 0,iv 0] 146))):=hbl1.out.alloc uO _
     have qb2:Hid ((W1.alloc (.cells #[iv 0,iv 0,iv 0,iv 0,iv 0,iv 0,iv 0,iv 0,iv 0] 146)).heap[w.heap.size]?=_):=(uE _ _ _ lw1).trans qb1.out
     have rb2:Hid ((W1.alloc (.cells #[iv 0,iv 0,iv 0,iv 0,iv 0,iv 0,iv 0,iv 0,iv 0] 146)).heap[w.heap.size+1]?=_):=(uE _ _ _ lv1).trans rb1.out
     generalize W1.alloc (.cells #[iv 0,iv 0,iv 0,iv 0,iv 0,iv 0,iv 0,iv 0,iv 0] 146)=W2 at ob2 hb2 qb2 rb2 ⊢
     generalize W1.heap.size=ab at ob2 ⊢))
 all_goals
  clear hbl1 qb1 rb1 lw1 lv1
  clear qb rb hbl lw lv
  obtain ⟨p0,p1,p2,p3,p4⟩:=qU qb2.out
  obtain ⟨m0,m1,m2,m3,m4,m5,m6,m7,m8⟩:=zI ob2.out
  obtain ⟨s0,s1,s2,s3⟩:=qC rb2.out
  have f0:=qA rb2.out 0
  have f1:=qA rb2.out 1
  have f2:=qA rb2.out 2
  have f3:=qA rb2.out 3
  have lq:w.heap.size<W2.heap.size:=(blt qb2.out)
  have lr:w.heap.size+1<W2.heap.size:=(blt rb2.out)
  have la:ab<W2.heap.size:=(blt ob2.out)
  have x6:=(hb2.out.cell (p:=(aq x 6)) hxw).trans c6.out
  have hx2:x<W2.heap.size:=uB hxw hb2.out.size
  clear m0 m1 m2 m3 m4 m5 m6 m7 m8
  go_wp2_with fail
  go_region_held3 (fun w'=>w'.cell? (aq x 6)=some (iv tk)) (simp [go_sem, *])
   (first
     | (go_at_call 40;refine (HZ.out _ bL).mono ?_;rintro e W3 ⟨rfl,bb⟩
        have hb3:Hid (Below w.heap.size w W3):=(show Below w.heap.size w _ from bL).trans (bb.mono hb2.out.size)
        have qb3:Hid _:=(bb.block _ lq).trans qb2.out
        have rb3:Hid _:=(bb.block _ lr).trans rb2.out
        have x6':=(hb3.out.cell (p:=(aq x 6)) hxw).trans c6.out
        have hx3:x<W3.heap.size:=uB hxw hb3.out.size
        clear bb))
  clear p0 p1 p2 p3 p4 s0 s1 s2 s3 f0 f1 f2 f3 lq lr la x6 hx2 ob2 qb2 rb2 hb2 x6'
  obtain ⟨p0,p1,p2,p3,p4⟩:=qU qb3.out
  obtain ⟨s0,s1,s2,s3⟩:=qC rb3.out
  have f0:=qA rb3.out 0
  have f1:=qA rb3.out 1
  have f2:=qA rb3.out 2
  have f3:=qA rb3.out 3
  have lq:w.heap.size<W3.heap.size:=(blt qb3.out)
  have lr:w.heap.size+1<W3.heap.size:=(blt rb3.out)
  have dn:decide (tk<=n)=true:=by simpa using hn
  have HB:Hid (∀ v0 v1 v2 v3,Below w.heap.size w ((((W3.setCell (aq (w.heap.size+1) 0) v0).setCell (aq (w.heap.size+1) 1) v1).setCell (aq (w.heap.size+1) 2) v2).setCell (aq (w.heap.size+1) 3) v3)):=fun v0 v1 v2 v3=>jM hb3.out uO
  go_wp2
  refine uK (v:=.agg #[iv 11,iv 0,iv 0,iv 0]) (by simp [results,Tryz.results44,go_sem,s0,s1,s2,s3]) rfl ⟨rfl,?_⟩
  first|exact HB.out _ _ _ _|exact Below.drew (HB.out _ _ _ _)|exact qY (HB.out _ _ _ _)
theorem Ef (x:Nat) (own:Nat->Prop) (P0 P1 P2:World->(Nat->Prop)->Prop) (K0:Keeps P0) (K1:Keeps P1) (K2:Keeps P2) (k t c u o n tk now kp a0 a1 a2 a3:Int) (w:World) (hn:¬ tk<=n) (hs:0<=now+kp/\now+kp<=9223372036854775807) (hw:∀ k,own k->k<w.heap.size) (h:P0 w own)
 (HG:Hid (∀ W,Below w.heap.size w W->Ca 67 #[pt x 23,iv t] W fun e w'=>e=.returned (.tuple #[.agg #[iv 0,iv 0,iv 0,iv 0,iv 0,iv 0,iv 0,iv 0,iv 0],.bool false])/\Below W.heap.size W w'))
 (c6:w.cell? (aq x 6)=some (iv tk)) (HZ:Hid (∀ W,Below w.heap.size w W->Ca 40 #[pt x 23] W fun e w'=>e=.returned (iv n)/\Below W.heap.size W w'))
 (HC:Hid (∀ loc W,qX P1 w own loc W->W.cell? (aq x 8)=some (iv now)/\W.cell? (aq x 5)=some (iv kp)/\x<W.heap.size))
 (HC2:Hid (∀ loc W,qX P2 w own loc W->W.cell? (aq x 8)=some (iv now)/\W.cell? (aq x 5)=some (iv kp)/\x<W.heap.size))
 (HD:Hid (jX w own P0 P1 68 #[pt x 0,.agg #[iv k,iv t,iv c,iv u,iv o]] (.agg #[iv a0,iv a1,iv a2,iv a3])))
 (HA:Hid (jX w own P1 P2 69 #[pt x 23,.agg #[iv k,iv t,iv c,iv u,iv o,iv a0,iv a1,iv a2,iv a3],iv (now+kp)] (.tuple #[]))) :
 Ca 44 #[pt x 0,.agg #[iv k,iv t,iv c,iv u,iv o]] w fun e w'=>e=.returned (.agg #[iv a0,iv a1,iv a2,iv a3])/\zQ P2 w w' own:=by
 have HST:Hid (∀ W,Below w.heap.size w W->w.heap.size+1<W.heap.size->qX P0 w own (fun j=>j=w.heap.size\/j=w.heap.size+1) W):=fun W hb hz=>yH K0 h hb (fun j e=>by rcases e with e|e<;>(subst e;omega))
 have hsum:IntKind.i64.wrap (now+kp)=now+kp:=yA uO uO
 replace hw:Hid _:=hw
 clear h hs
 have hxw:x<w.heap.size:=uC w _ c6
 replace c6:Hid _:=c6
 go_enter Tryz.func44,Tryz.ntmps44
 have qb:=zq1 w #[iv k,iv t,iv c,iv u,iv o] 39 #[iv 0,iv 0,iv 0,iv 0] 33
 have rb:=zq2 w #[iv k,iv t,iv c,iv u,iv o] 39 #[iv 0,iv 0,iv 0,iv 0] 33
 have hbl:=zq3 w #[iv k,iv t,iv c,iv u,iv o] 39 #[iv 0,iv 0,iv 0,iv 0] 33
 go_wp2_with fail
 generalize (w.alloc (.cells #[iv k,iv t,iv c,iv u,iv o] 39)).alloc (.cells #[iv 0,iv 0,iv 0,iv 0] 33)=W0 at qb rb hbl ⊢
 obtain ⟨p0,p1,p2,p3,p4⟩:=qU qb.out
 have lw:w.heap.size<W0.heap.size:=(blt qb.out)
 have lv:w.heap.size+1<W0.heap.size:=(blt rb.out)
 go_region_with
  (first
    | (go_at_call 67;refine (HG.out _ (by repeat (first|exact hbl.out|refine Below.drew ?_|refine qY ?_|refine Below.alloc ?_ (by have:=hbl.out.size;omega) _))).mono ?_;rintro e W1 ⟨rfl,bb⟩
       have hb1:Below W0.heap.size W0 W1:=by first|exact bb|exact uL (show Below W0.heap.size W0 _ from bL) (bb.mono vS)
       first
        | (have nb:Hid (W1.heap[W0.heap.size]?=some (.cells #[iv 0,iv 0,iv 0,iv 0,iv 0,iv 0,iv 0,iv 0,iv 0] 146)):=(bb.block W0.heap.size (by simp;done)).trans (uF W0 _)
           have e0:=qA nb.out 0
           have e1:=qA nb.out 1
           have e2:=qA nb.out 2
           have e3:=qA nb.out 3
           have e4:=qA nb.out 4
           have e5:=qA nb.out 5
           have e6:=qA nb.out 6
           have e7:=qA nb.out 7
           have e8:=qA nb.out 8
           obtain ⟨n0,n1,n2,n3,n4,n5,n6,n7,n8⟩:=zI nb.out
           have ln:W0.heap.size<W1.heap.size:=(blt nb.out))
        | skip
       have hbl1:Hid (Below w.heap.size w W1):=uL hbl.out (hb1.mono hbl.out.size)
       have qb1:Hid _:=(hb1.block w.heap.size lw).trans qb.out
       have rb1:Hid _:=(hb1.block (w.heap.size+1) lv).trans rb.out
       have lw1:w.heap.size<W1.heap.size:=uB lw hb1.size
       have lv1:w.heap.size+1<W1.heap.size:=uB lv hb1.size
       clear bb hb1))
 all_goals clear p0 p1 p2 p3 p4 HG
 all_goals (first
  | (have ob2:Hid ((((((((((W1.setCell (aq W0.heap.size 0) (iv 0)).setCell (aq W0.heap.size 1) (iv 0)).setCell (aq W0.heap.size 2) (iv 0)).setCell (aq W0.heap.size 3) (iv 0)).setCell (aq W0.heap.size 4) (iv 0)).setCell (aq W0.heap.size 5) (iv 0)).setCell (aq W0.heap.size 6) (iv 0)).setCell (aq W0.heap.size 7) (iv 0)).setCell (aq W0.heap.size 8) (iv 0)).heap[W0.heap.size]?=some (.cells #[iv 0,iv 0,iv 0,iv 0,iv 0,iv 0,iv 0,iv 0,iv 0] 146)):=tP nb.out _ _ _ _ _ _ _ _ _
     have hb2:Hid (Below w.heap.size w (((((((((W1.setCell (aq W0.heap.size 0) (iv 0)).setCell (aq W0.heap.size 1) (iv 0)).setCell (aq W0.heap.size 2) (iv 0)).setCell (aq W0.heap.size 3) (iv 0)).setCell (aq W0.heap.size 4) (iv 0)).setCell (aq W0.heap.size 5) (iv 0)).setCell (aq W0.heap.size 6) (iv 0)).setCell (aq W0.heap.size 7) (iv 0)).setCell (aq W0.heap.size 8) (iv 0))):=oX hbl1.out (by have:=hbl.out.size;omega)
     have qb2:Hid ((((((((((W1.setCell (aq W0.heap.size 0) (iv 0)).setCell (aq W0.heap.size 1) (iv 0)).setCell (aq W0.heap.size 2) (iv 0)).setCell (aq W0.heap.size 3) (iv 0)).setCell (aq W0.heap.size 4) (iv 0)).setCell (aq W0.heap.size 5) (iv 0)).setCell (aq W0.heap.size 6) (iv 0)).setCell (aq W0.heap.size 7) (iv 0)).setCell (aq W0.heap.size 8) (iv 0)).heap[w.heap.size]?=_):=(fD W1 W0.heap.size _ uO _ _ _ _ _ _ _ _ _).trans qb1.out
     have rb2:Hid ((((((((((W1.setCell (aq W0.heap.size 0) (iv 0)).setCell (aq W0.heap.size 1) (iv 0)).setCell (aq W0.heap.size 2) (iv 0)).setCell (aq W0.heap.size 3) (iv 0)).setCell (aq W0.heap.size 4) (iv 0)).setCell (aq W0.heap.size 5) (iv 0)).setCell (aq W0.heap.size 6) (iv 0)).setCell (aq W0.heap.size 7) (iv 0)).setCell (aq W0.heap.size 8) (iv 0)).heap[w.heap.size+1]?=_):=(fD W1 W0.heap.size _ uO _ _ _ _ _ _ _ _ _).trans rb1.out
     clear e0 e1 e2 e3 e4 e5 e6 e7 e8 n0 n1 n2 n3 n4 n5 n6 n7 n8
     generalize ((((((((W1.setCell (aq W0.heap.size 0) (iv 0)).setCell (aq W0.heap.size 1) (iv 0)).setCell (aq W0.heap.size 2) (iv 0)).setCell (aq W0.heap.size 3) (iv 0)).setCell (aq W0.heap.size 4) (iv 0)).setCell (aq W0.heap.size 5) (iv 0)).setCell (aq W0.heap.size 6) (iv 0)).setCell (aq W0.heap.size 7) (iv 0)).setCell (aq W0.heap.size 8) (iv 0)=W2 at ob2 hb2 qb2 rb2 ⊢
     generalize W0.heap.size=ab at ob2 ⊢)
  | (have ob2:Hid ((W1.alloc (.cells #[iv 0,iv 0,iv 0,iv 0,iv 0,iv 0,iv 0,iv 0,iv 0] 146)).heap[W1.heap.size]?=some (.cells #[iv 0,iv 0,iv 0,iv 0,iv 0,iv 0,iv 0,iv 0,iv 0] 146)):=uF W1 _
     have hb2:Hid (Below w.heap.size w (W1.alloc (.cells #[iv 0,iv 0,iv 0,iv 0,iv 0,iv 0,iv 0,iv 0,iv 0] 146))):=hbl1.out.alloc uO _
     have qb2:Hid ((W1.alloc (.cells #[iv 0,iv 0,iv 0,iv 0,iv 0,iv 0,iv 0,iv 0,iv 0] 146)).heap[w.heap.size]?=_):=(uE _ _ _ lw1).trans qb1.out
     have rb2:Hid ((W1.alloc (.cells #[iv 0,iv 0,iv 0,iv 0,iv 0,iv 0,iv 0,iv 0,iv 0] 146)).heap[w.heap.size+1]?=_):=(uE _ _ _ lv1).trans rb1.out
     generalize W1.alloc (.cells #[iv 0,iv 0,iv 0,iv 0,iv 0,iv 0,iv 0,iv 0,iv 0] 146)=W2 at ob2 hb2 qb2 rb2 ⊢
     generalize W1.heap.size=ab at ob2 ⊢))
 all_goals
  clear hbl1 qb1 rb1 lw1 lv1
  clear qb rb hbl lw lv
  obtain ⟨p0,p1,p2,p3,p4⟩:=qU qb2.out
  obtain ⟨m0,m1,m2,m3,m4,m5,m6,m7,m8⟩:=zI ob2.out
  obtain ⟨s0,s1,s2,s3⟩:=qC rb2.out
  have f0:=qA rb2.out 0
  have f1:=qA rb2.out 1
  have f2:=qA rb2.out 2
  have f3:=qA rb2.out 3
  have lq:w.heap.size<W2.heap.size:=(blt qb2.out)
  have lr:w.heap.size+1<W2.heap.size:=(blt rb2.out)
  have la:ab<W2.heap.size:=(blt ob2.out)
  have x6:=(hb2.out.cell (p:=(aq x 6)) hxw).trans c6.out
  have hx2:x<W2.heap.size:=uB hxw hb2.out.size
  clear m0 m1 m2 m3 m4 m5 m6 m7 m8
  go_wp2_with fail
  go_region_held3 (fun w'=>w'.cell? (aq x 6)=some (iv tk)) (simp [go_sem, *])
   (first
     | (go_at_call 40;refine (HZ.out _ bL).mono ?_;rintro e W3 ⟨rfl,bb⟩
        have hb3:Hid (Below w.heap.size w W3):=(show Below w.heap.size w _ from bL).trans (bb.mono hb2.out.size)
        have qb3:Hid _:=(bb.block _ lq).trans qb2.out
        have rb3:Hid _:=(bb.block _ lr).trans rb2.out
        have x6':=(hb3.out.cell (p:=(aq x 6)) hxw).trans c6.out
        have hx3:x<W3.heap.size:=uB hxw hb3.out.size
        clear bb))
  clear p0 p1 p2 p3 p4 s0 s1 s2 s3 f0 f1 f2 f3 lq lr la x6 hx2 ob2 qb2 rb2 hb2 x6'
  obtain ⟨p0,p1,p2,p3,p4⟩:=qU qb3.out
  obtain ⟨s0,s1,s2,s3⟩:=qC rb3.out
  have f0:=qA rb3.out 0
  have f1:=qA rb3.out 1
  have f2:=qA rb3.out 2
  have f3:=qA rb3.out 3
  have lq:w.heap.size<W3.heap.size:=(blt qb3.out)
  have lr:w.heap.size+1<W3.heap.size:=(blt rb3.out)
  have dn:decide (tk<=n)=false:=by simpa using hn
  go_wp2_with fail
  refine (HD.out _ _ (HST.out _ bL (by first|exact lr|simpa using lr))).mono ?_
  rintro e W4 ⟨rfl,hT4,hk⟩
  have qb4:Hid (W4.heap[w.heap.size]?=some (.cells #[iv k,iv t,iv c,iv u,iv o] 39)):=(hk _ (.inl rfl)).trans qb3.out
  have rb4:Hid (W4.heap[w.heap.size+1]?=some (.cells #[iv 0,iv 0,iv 0,iv 0] 33)):=(hk _ (.inr rfl)).trans rb3.out
  have lq4:w.heap.size<W4.heap.size:=(blt qb4.out)
  have lr4:w.heap.size+1<W4.heap.size:=(blt rb4.out)
  have hT5:Hid (qX P1 w own (fun j=>(j=w.heap.size\/j=w.heap.size+1)\/j=W4.heap.size) (W4.alloc (.cells #[iv a0,iv a1,iv a2,iv a3] 33))):=xI K1 hT4 _
  have ob5:Hid ((W4.alloc (.cells #[iv a0,iv a1,iv a2,iv a3] 33)).heap[W4.heap.size]?=some (.cells #[iv a0,iv a1,iv a2,iv a3] 33)):=uF W4 _
  have qb5:Hid ((W4.alloc (.cells #[iv a0,iv a1,iv a2,iv a3] 33)).heap[w.heap.size]?=some (.cells #[iv k,iv t,iv c,iv u,iv o] 39)):=(uE _ _ _ lq4).trans qb4.out
  have rb5:Hid ((W4.alloc (.cells #[iv a0,iv a1,iv a2,iv a3] 33)).heap[w.heap.size+1]?=some (.cells #[iv 0,iv 0,iv 0,iv 0] 33)):=(uE _ _ _ lr4).trans rb4.out
  clear hk hT4 qb4 rb4 qb3 rb3 hb3 p0 p1 p2 p3 p4 s0 s1 s2 s3 f0 f1 f2 f3 lq lr hx3 c6
  go_wp2_with fail
  generalize W4.alloc (.cells #[iv a0,iv a1,iv a2,iv a3] 33)=W5 at hT5 ob5 qb5 rb5 ⊢
  obtain ⟨p0,p1,p2,p3,p4⟩:=qU qb5.out
  obtain ⟨o0,o1,o2,o3⟩:=qC ob5.out
  obtain ⟨x8,x5,hx5⟩:=HC.out _ _ hT5.out
  have lq5:w.heap.size<W5.heap.size:=(blt qb5.out)
  have lo5:W4.heap.size<W5.heap.size:=(blt ob5.out)
  go_region_held3 (fun w'=>w'.cell? (aq w.heap.size 0)=some (iv k)/\w'.cell? (aq w.heap.size 1)=some (iv t)/\w'.cell? (aq w.heap.size 2)=some (iv c)/\w'.cell? (aq w.heap.size 3)=some (iv u)/\w'.cell? (aq w.heap.size 4)=some (iv o)/\w'.cell? (aq W4.heap.size 0)=some (iv a0)/\w'.cell? (aq W4.heap.size 1)=some (iv a1)/\w'.cell? (aq W4.heap.size 2)=some (iv a2)/\w'.cell? (aq W4.heap.size 3)=some (iv a3)/\w'.cell? (aq x 8)=some (iv now)/\w'.cell? (aq x 5)=some (iv kp)) (simp [go_sem, *])
   (first
     | (go_at_call 69;refine (HA.out _ _ (qI K1 hT5.out bL)).mono ?_;rintro e W6 ⟨rfl,hT6,hk⟩
        have ob6:Hid (W6.heap[W4.heap.size]?=some (.cells #[iv a0,iv a1,iv a2,iv a3] 33)):=(hk _ (.inr rfl)).trans ob5.out
        have qb6:Hid (W6.heap[w.heap.size]?=some (.cells #[iv k,iv t,iv c,iv u,iv o] 39)):=(hk _ (.inl (.inl rfl))).trans qb5.out
        have rb6:Hid (W6.heap[w.heap.size+1]?=some (.cells #[iv 0,iv 0,iv 0,iv 0] 33)):=(hk _ (.inl (.inr rfl))).trans rb5.out
        have HE:Hid (∀ v0 v1 v2 v3,zQ P2 w ((((W6.setCell (aq (w.heap.size+1) 0) v0).setCell (aq (w.heap.size+1) 1) v1).setCell (aq (w.heap.size+1) 2) v2).setCell (aq (w.heap.size+1) 3) v3) own):=fun v0 v1 v2 v3=>zE (zX K2 hT6 hw.out (.inl (.inr rfl)) v0 v1 v2 v3)
        obtain ⟨p0',p1',p2',p3',p4'⟩:=qU qb6.out
        obtain ⟨o0',o1',o2',o3'⟩:=qC ob6.out
        obtain ⟨x8',x5',hx6⟩:=HC2.out _ _ hT6
        clear hk))
  obtain ⟨s0,s1,s2,s3⟩:=qC rb6.out
  have f0:=qA rb6.out 0
  have f1:=qA rb6.out 1
  have f2:=qA rb6.out 2
  have f3:=qA rb6.out 3
  have lr6:w.heap.size+1<W6.heap.size:=(blt rb6.out)
  have lo6:W4.heap.size<W6.heap.size:=(blt ob6.out)
  clear p0 p1 p2 p3 p4 o0 o1 o2 o3 x8 x5 hT5 ob5 qb5 rb5 hT6
  go_wp2
  refine uK (v:=.agg #[iv a0,iv a1,iv a2,iv a3]) (by simp [results,Tryz.results44,go_sem,s0,s1,s2,s3]) rfl ⟨rfl,?_⟩
  exact HE.out _ _ _ _
