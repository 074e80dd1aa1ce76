import Derived.Test.YtfhncfghblkgeabGreatL38
set_option maxRecDepth 100000
set_option maxHeartbeats 2000000
namespace Go.Proofs.YtfhncfghblkgeabGreat
open Go.RowKit
theorem Gj {W:World} {b:Nat} {c0 c1 c2:Value} {T:TypeId} (h:W.heap[b]?=some (.cells #[c0,c1,c2] T)) (v0 v1 v2:Value):(((W.sc b 0 v0).sc b 1 v1).sc b 2 v2).heap[b]?=some (.cells #[v0,v1,v2] T):=by
 have h2:=uH (i:=0) h v0
 have h3:=uH (i:=1) h2 v1
 exact uH (i:=2) h3 v2
theorem Xd (W:World) (b k:Nat) (h:k≠b) (v0 v1 v2:Value):(((W.sc b 0 v0).sc b 1 v1).sc b 2 v2).heap[k]?=W.heap[k]?:=by
 rw [uG _ (aq b 2) _ _ h,uG _ (aq b 1) _ _ h,uG _ (aq b 0) _ _ h]
theorem wU {w w2:World} {B b:Nat} {v0 v1 v2:Value} (h:Below B w w2) (hb:B<=b):Below B w (((w2.sc b 0 v0).sc b 1 v1).sc b 2 v2) :=
 ((h.setCell (p:=(aq b 0)) hb _).setCell (p:=(aq b 1)) hb _).setCell (p:=(aq b 2)) hb _
theorem Ej (x:Nat) (own:Nat->Prop) (P0 P1 P2:World->(Nat->Prop)->Prop) (K0:Keeps P0) (K1:Keeps P1) (K2:Keeps P2) (Post:Value->World->Prop) (k t c u o a b d n l f cap last cq g0 g1 g2 g3 q0 q1 q2 q3:Int) (w:World) (hs1:IntKind.i64.wrap (a+b)=a+b) (hs2:IntKind.i64.wrap (a+b+d)=a+b+d) (hs3:IntKind.i64.wrap (a+b+d+u)=a+b+d+u) (hw:∀ k,own k->k<w.heap.size) (h:P0 w own)
 (c1:w.cell? (aq x 1)=some (iv cap)) (c2:w.cell? (aq x 2)=some (iv cq)) (c9:w.cell? (aq x 9)=some (iv last))
 (C1 C2 C3 C4 C5:Prop) (E1:Hid (C1↔cap<a+b+d+u)) (E2:Hid (C2↔l<u)) (E3:Hid (C3↔4294967296<=last)) (E4:Hid (C4↔n=0/\u<=f)) (E5:Hid (C5↔cq<=n))
 (HA:Hid (∀ W,Below w.heap.size w W->Ca 41 #[pt x 19,iv c] W fun e w'=>e=.returned (.agg #[iv a,iv b,iv d])/\Below W.heap.size W w'))
 (HQ:Hid (∀ W,Below w.heap.size w W->Ca 39 #[pt x 15] W fun e w'=>e=.returned (iv n)/\Below W.heap.size W w'))
 (HL:Hid (∀ W,Below w.heap.size w W->Ca 126 #[pt x 0] W fun e w'=>e=.returned (iv l)/\Below W.heap.size W w'))
 (HF:Hid (∀ W,Below w.heap.size w W->Ca 38 #[pt x 0] W fun e w'=>e=.returned (iv f)/\Below W.heap.size W w'))
 (O1:Hid (C1->∀ W,Below w.heap.size w W->Post (.agg #[iv 4,iv 0,iv 0,iv 0]) W))
 (O2:Hid (¬ C1->C2->∀ W,Below w.heap.size w W->Post (.agg #[iv 5,iv 0,iv 0,iv 0]) W))
 (O3:Hid (¬ C1->¬ C2->C3->∀ W,Below w.heap.size w W->Post (.agg #[iv 6,iv 0,iv 0,iv 0]) W))
 (O4:Hid (¬ C1->¬ C2->¬ C3->C4->jX w own P0 P1 127 #[pt x 0,.agg #[iv k,iv t,iv c,iv u,iv o]] (.agg #[iv g0,iv g1,iv g2,iv g3])/\∀ W,zQ P1 w W own->Post (.agg #[iv g0,iv g1,iv g2,iv g3]) W))
 (O5:Hid (¬ C1->¬ C2->¬ C3->¬ C4->C5->∀ W,Below w.heap.size w W->Post (.agg #[iv 6,iv 0,iv 0,iv 0]) W))
 (O6:Hid (¬ C1->¬ C2->¬ C3->¬ C4->¬ C5->jX w own P0 P2 128 #[pt x 0,.agg #[iv k,iv t,iv c,iv u,iv o]] (.agg #[iv q0,iv q1,iv q2,iv q3])/\∀ W,zQ P2 w W own->Post (.agg #[iv q0,iv q1,iv q2,iv q3]) W)) :
 Ca 96 #[pt x 0,.agg #[iv k,iv t,iv c,iv u,iv o]] w fun e w'=>∃ v,e=.returned v/\Post v w':=by
 have hxw:x<w.heap.size:=uC w _ c1
 have HST:Hid (∀ W,Below w.heap.size w W->w.heap.size+1<W.heap.size->qX P0 w own (fun j=>j=w.heap.size\/j=w.heap.size+1) W):=fun W hb hz=>yH K0 h hb (fun j e=>by rcases e with e|e<;>(subst e;omega))
 replace hw:Hid _:=hw
 replace c1:Hid _:=c1
 replace c2:Hid _:=c2
 replace c9:Hid _:=c9
 clear h
 go_enter Tryz.func96,Tryz.ntmps96
 have qb:=zq1 w #[iv k,iv t,iv c,iv u,iv o] 39 #[iv 0,iv 0,iv 0,iv 0] 33
 have rb:=zq2 w #[iv k,iv t,iv c,iv u,iv o] 39 #[iv 0,iv 0,iv 0,iv 0] 33
 have hbl:=zq3 w #[iv k,iv t,iv c,iv u,iv o] 39 #[iv 0,iv 0,iv 0,iv 0] 33
 go_wp2_with fail
 generalize (w.alloc (.cells #[iv k,iv t,iv c,iv u,iv o] 39)).alloc (.cells #[iv 0,iv 0,iv 0,iv 0] 33)=W0 at qb rb hbl ⊢
 obtain ⟨p0,p1,p2,p3,p4⟩:=qU qb.out
 have lw:w.heap.size<W0.heap.size:=(blt qb.out)
 have lv:w.heap.size+1<W0.heap.size:=(blt rb.out)
 go_region_with
  (first
    | (go_at_call 41;refine (HA.out _ (by repeat (first|exact hbl.out|refine Below.drew ?_|refine qY ?_|refine Below.alloc ?_ (by have:=hbl.out.size;omega) _))).mono ?_;rintro e W1 ⟨rfl,b⟩
       have hb1:Below W0.heap.size W0 W1:=by first|exact b|exact uL (show Below W0.heap.size W0 _ from bL) (b.mono vS)
       first
        | (have nb:Hid (W1.heap[W0.heap.size]?=some (.cells #[iv 0,iv 0,iv 0] 65)):=(b.block W0.heap.size (by simp;done)).trans (uF W0 _)
           have e0:=qA nb.out 0
           have e1:=qA nb.out 1
           have e2:=qA nb.out 2
           obtain ⟨n0,n1,n2⟩:=jK nb.out
           have ln:W0.heap.size<W1.heap.size:=(blt nb.out))
        | skip
       have hbl1:Hid (Below w.heap.size w W1):=uL hbl.out (hb1.mono hbl.out.size)
       have qb1:Hid _:=(hb1.block w.heap.size lw).trans qb.out
       have rb1:Hid _:=(hb1.block (w.heap.size+1) lv).trans rb.out
       have lw1:w.heap.size<W1.heap.size:=uB lw hb1.size
       have lv1:w.heap.size+1<W1.heap.size:=uB lv hb1.size
       clear b hb1))
 all_goals clear p0 p1 p2 p3 p4 HA
 all_goals (first
  | (have ob2:Hid ((((W1.setCell (aq W0.heap.size 0) (iv a)).setCell (aq W0.heap.size 1) (iv b)).setCell (aq W0.heap.size 2) (iv d)).heap[W0.heap.size]?=some (.cells #[iv a,iv b,iv d] 65)):=Gj nb.out _ _ _
     have hb2:Hid (Below w.heap.size w (((W1.setCell (aq W0.heap.size 0) (iv a)).setCell (aq W0.heap.size 1) (iv b)).setCell (aq W0.heap.size 2) (iv d))):=wU hbl1.out (by have:=hbl.out.size;omega)
     have qb2:Hid ((((W1.setCell (aq W0.heap.size 0) (iv a)).setCell (aq W0.heap.size 1) (iv b)).setCell (aq W0.heap.size 2) (iv d)).heap[w.heap.size]?=_):=(Xd W1 W0.heap.size _ uO _ _ _).trans qb1.out
     have rb2:Hid ((((W1.setCell (aq W0.heap.size 0) (iv a)).setCell (aq W0.heap.size 1) (iv b)).setCell (aq W0.heap.size 2) (iv d)).heap[w.heap.size+1]?=_):=(Xd W1 W0.heap.size _ uO _ _ _).trans rb1.out
     clear e0 e1 e2 n0 n1 n2
     generalize ((W1.setCell (aq W0.heap.size 0) (iv a)).setCell (aq W0.heap.size 1) (iv b)).setCell (aq W0.heap.size 2) (iv d)=W2 at ob2 hb2 qb2 rb2 ⊢
     generalize W0.heap.size=ab at ob2 ⊢)
  | (have ob2:Hid ((W1.alloc (.cells #[iv a,iv b,iv d] 65)).heap[W1.heap.size]?=some (.cells #[iv a,iv b,iv d] 65)):=uF W1 _
     have hb2:Hid (Below w.heap.size w (W1.alloc (.cells #[iv a,iv b,iv d] 65))):=hbl1.out.alloc uO _
     have qb2:Hid ((W1.alloc (.cells #[iv a,iv b,iv d] 65)).heap[w.heap.size]?=_):=(uE _ _ _ lw1).trans qb1.out
     have rb2:Hid ((W1.alloc (.cells #[iv a,iv b,iv d] 65)).heap[w.heap.size+1]?=_):=(uE _ _ _ lv1).trans rb1.out
     generalize W1.alloc (.cells #[iv a,iv b,iv d] 65)=W2 at ob2 hb2 qb2 rb2 ⊢
     generalize W1.heap.size=ab at ob2 ⊢))
 all_goals
  clear hbl1 qb1 rb1 lw1 lv1
  clear qb rb hbl lw lv
  go_wp2_with fail
  refine (HQ.out _ hb2.out).mono ?_
  rintro e W3 ⟨rfl,b3⟩
  have lq2:w.heap.size<W2.heap.size:=(blt qb2.out)
  have lr2:w.heap.size+1<W2.heap.size:=(blt rb2.out)
  have la2:ab<W2.heap.size:=(blt ob2.out)
  have hb3:Hid (Below w.heap.size w W3):=uL hb2.out (b3.mono hb2.out.size)
  have ob3:Hid _:=(b3.block _ la2).trans ob2.out
  have qb3:Hid _:=(b3.block _ lq2).trans qb2.out
  have rb3:Hid _:=(b3.block _ lr2).trans rb2.out
  clear b3 lq2 lr2 la2 hb2 ob2 qb2 rb2 HQ
  obtain ⟨p0,p1,p2,p3,p4⟩:=qU qb3.out
  obtain ⟨n0,n1,n2⟩:=jK ob3.out
  have x1:=(hb3.out.cell (p:=(aq x 1)) hxw).trans c1.out
  have x2:=(hb3.out.cell (p:=(aq x 2)) hxw).trans c2.out
  have x9:=(hb3.out.cell (p:=(aq x 9)) hxw).trans c9.out
  have lq3:w.heap.size<W3.heap.size:=(blt qb3.out)
  have lr3:w.heap.size+1<W3.heap.size:=(blt rb3.out)
  have la3:ab<W3.heap.size:=(blt ob3.out)
  have hx3:x<W3.heap.size:=uB hxw hb3.out.size
  by_cases h1:C1
  ·have j1:cap<a+b+d+u:=E1.out.1 h1
   have d1:decide (cap<a+b+d+u)=true:=by simpa using j1
   go_wp2_with fail
   go_quiet (fail)
   obtain ⟨r0,r1,r2,r3⟩:=qC rb3.out
   have y0:=qA rb3.out 0
   have y1:=qA rb3.out 1
   have y2:=qA rb3.out 2
   have y3:=qA rb3.out 3
   have HB:Hid (∀ v0 v1 v2 v3,Below w.heap.size w ((((W3.setCell (aq (w.heap.size+1) 0) v0).setCell (aq (w.heap.size+1) 1) v1).setCell (aq (w.heap.size+1) 2) v2).setCell (aq (w.heap.size+1) 3) v3)):=fun v0 v1 v2 v3=>jM hb3.out uO
   go_wp2
   refine uK (v:=.agg #[iv 4,iv 0,iv 0,iv 0]) (by simp [results,Tryz.results96,go_sem,r0,r1,r2,r3]) rfl ⟨_,rfl,O1.out h1 _ ?_⟩
   first|exact HB.out _ _ _ _|exact Below.drew (HB.out _ _ _ _)|exact qY (HB.out _ _ _ _)
  ·have j1:¬ cap<a+b+d+u:=mt E1.out.2 h1
   have d1:decide (cap<a+b+d+u)=false:=by simpa using j1
   go_wp2_with fail
   go_quiet (fail)
   go_wp2_with fail
   go_region_held3 (fun w'=>w'.cell? (aq w.heap.size 3)=some (iv u)) (simp [go_sem, *])
    (first
      | (go_at_call 126;refine (HL.out _ bL).mono ?_;rintro e W4 ⟨rfl,bb⟩
         have hb4:Hid (Below w.heap.size w W4):=(show Below w.heap.size w _ from bL).trans (bb.mono hb3.out.size)
         have ob4:Hid _:=(bb.block _ la3).trans ob3.out
         have qb4:Hid _:=(bb.block _ lq3).trans qb3.out
         have rb4:Hid _:=(bb.block _ lr3).trans rb3.out
         obtain ⟨p0',p1',p2',p3',p4'⟩:=qU qb4.out
         have lq4:w.heap.size<W4.heap.size:=(blt qb4.out)
         have lr4:w.heap.size+1<W4.heap.size:=(blt rb4.out)
         have la4:ab<W4.heap.size:=(blt ob4.out)
         have hx4:x<W4.heap.size:=uB hxw hb4.out.size
         clear bb))
   clear p0 p1 p2 p3 p4 n0 n1 n2 x1 x2 x9 lq3 lr3 la3 hx3 p0' p1' p2' p3' p4' hb3 ob3 qb3 rb3
   obtain ⟨p0,p1,p2,p3,p4⟩:=qU qb4.out
   obtain ⟨n0,n1,n2⟩:=jK ob4.out
   have x1:=(hb4.out.cell (p:=(aq x 1)) hxw).trans c1.out
   have x2:=(hb4.out.cell (p:=(aq x 2)) hxw).trans c2.out
   have x9:=(hb4.out.cell (p:=(aq x 9)) hxw).trans c9.out
   by_cases h2:C2
   ·have j2:l<u:=E2.out.1 h2
    have d2:decide (l<u)=true:=by simpa using j2
    obtain ⟨r0,r1,r2,r3⟩:=qC rb4.out
    have y0:=qA rb4.out 0
    have y1:=qA rb4.out 1
    have y2:=qA rb4.out 2
    have y3:=qA rb4.out 3
    have HB:Hid (∀ v0 v1 v2 v3,Below w.heap.size w ((((W4.setCell (aq (w.heap.size+1) 0) v0).setCell (aq (w.heap.size+1) 1) v1).setCell (aq (w.heap.size+1) 2) v2).setCell (aq (w.heap.size+1) 3) v3)):=fun v0 v1 v2 v3=>jM hb4.out uO
    go_wp2
    refine uK (v:=.agg #[iv 5,iv 0,iv 0,iv 0]) (by simp [results,Tryz.results96,go_sem,r0,r1,r2,r3]) rfl ⟨_,rfl,O2.out h1 h2 _ ?_⟩
    first|exact HB.out _ _ _ _|exact Below.drew (HB.out _ _ _ _)|exact qY (HB.out _ _ _ _)
   ·have j2:¬ l<u:=mt E2.out.2 h2
    have d2:decide (l<u)=false:=by simpa using j2
    by_cases h3:C3
    ·have j3:4294967296<=last:=E3.out.1 h3
     have d3:decide (4294967296<=last)=true:=by simpa using j3
     obtain ⟨r0,r1,r2,r3⟩:=qC rb4.out
     have y0:=qA rb4.out 0
     have y1:=qA rb4.out 1
     have y2:=qA rb4.out 2
     have y3:=qA rb4.out 3
     have HB:Hid (∀ v0 v1 v2 v3,Below w.heap.size w ((((W4.setCell (aq (w.heap.size+1) 0) v0).setCell (aq (w.heap.size+1) 1) v1).setCell (aq (w.heap.size+1) 2) v2).setCell (aq (w.heap.size+1) 3) v3)):=fun v0 v1 v2 v3=>jM hb4.out uO
     go_wp2
     refine uK (v:=.agg #[iv 6,iv 0,iv 0,iv 0]) (by simp [results,Tryz.results96,go_sem,r0,r1,r2,r3]) rfl ⟨_,rfl,O3.out h1 h2 h3 _ ?_⟩
     first|exact HB.out _ _ _ _|exact Below.drew (HB.out _ _ _ _)|exact qY (HB.out _ _ _ _)
    ·have j3:¬ 4294967296<=last:=mt E3.out.2 h3
     have d3:decide (4294967296<=last)=false:=by simpa using j3
     by_cases h4:n=0
     ·have d4:(n==0)=true:=by simpa using h4
      replace h4:Hid _:=h4
      go_wp2_with fail
      go_region_held3 (fun w'=>w'.cell? (aq w.heap.size 3)=some (iv u)) (simp [go_sem, *])
       (first
         | (go_at_call 38;refine (HF.out _ bL).mono ?_;rintro e W5 ⟨rfl,bb⟩
            have hb5:Hid (Below w.heap.size w W5):=(show Below w.heap.size w _ from bL).trans (bb.mono hb4.out.size)
            have ob5:Hid _:=(bb.block _ la4).trans ob4.out
            have qb5:Hid _:=(bb.block _ lq4).trans qb4.out
            have rb5:Hid _:=(bb.block _ lr4).trans rb4.out
            obtain ⟨p0',p1',p2',p3',p4'⟩:=qU qb5.out
            have lq5:w.heap.size<W5.heap.size:=(blt qb5.out)
            have lr5:w.heap.size+1<W5.heap.size:=(blt rb5.out)
            have la5:ab<W5.heap.size:=(blt ob5.out)
            have hx5:x<W5.heap.size:=uB hxw hb5.out.size
            clear bb))
      clear p0 p1 p2 p3 p4 n0 n1 n2 x1 x2 x9 lq4 lr4 la4 hx4 p0' p1' p2' p3' p4' hb4 ob4 qb4 rb4
      obtain ⟨p0,p1,p2,p3,p4⟩:=qU qb5.out
      obtain ⟨n0,n1,n2⟩:=jK ob5.out
      have x1:=(hb5.out.cell (p:=(aq x 1)) hxw).trans c1.out
      have x2:=(hb5.out.cell (p:=(aq x 2)) hxw).trans c2.out
      have x9:=(hb5.out.cell (p:=(aq x 9)) hxw).trans c9.out
      by_cases h6:u<=f
      ·have d6:decide (u<=f)=true:=by simpa using h6
       have j6:u<=f:=h6
       replace h6:Hid (u<=f):=h6
       obtain ⟨HD,HP⟩:=O4.out h1 h2 h3 (E4.out.2 ⟨h4.out,h6.out⟩)
       replace HD:Hid _:=HD
       replace HP:Hid _:=HP
       go_wp2_with fail
       refine (HD.out _ _ (HST.out _ bL (by first|exact lr5|simpa using lr5))).mono ?_
       rintro e W9 ⟨rfl,hT9,hk⟩
       have rb9:Hid (W9.heap[w.heap.size+1]?=some (.cells #[iv 0,iv 0,iv 0,iv 0] 33)):=(hk _ (.inr rfl)).trans rb5.out
       have lr9:w.heap.size+1<W9.heap.size:=(blt rb9.out)
       have HE:Hid (∀ v0 v1 v2 v3,zQ P1 w ((((W9.setCell (aq (w.heap.size+1) 0) v0).setCell (aq (w.heap.size+1) 1) v1).setCell (aq (w.heap.size+1) 2) v2).setCell (aq (w.heap.size+1) 3) v3) own):=fun v0 v1 v2 v3=>zE (zX K1 hT9 hw.out (.inr rfl) v0 v1 v2 v3)
       obtain ⟨r0,r1,r2,r3⟩:=qC rb9.out
       have y0:=qA rb9.out 0
       have y1:=qA rb9.out 1
       have y2:=qA rb9.out 2
       have y3:=qA rb9.out 3
       clear hk hT9
       go_wp2
       refine uK (v:=.agg #[iv g0,iv g1,iv g2,iv g3]) (by simp [results,Tryz.results96,go_sem,r0,r1,r2,r3]) rfl ⟨_,rfl,HP.out _ ?_⟩
       exact HE.out _ _ _ _
      ·have d6:decide (u<=f)=false:=by simpa using h6
       have h46:Hid (¬ C4):=fun c=>h6 (E4.out.1 c).2
       by_cases h5:C5
       ·have j5:cq<=n:=E5.out.1 h5
        have d5:decide (cq<=n)=true:=by simpa using j5
        obtain ⟨r0,r1,r2,r3⟩:=qC rb5.out
        have y0:=qA rb5.out 0
        have y1:=qA rb5.out 1
        have y2:=qA rb5.out 2
        have y3:=qA rb5.out 3
        have HB:Hid (∀ v0 v1 v2 v3,Below w.heap.size w ((((W5.setCell (aq (w.heap.size+1) 0) v0).setCell (aq (w.heap.size+1) 1) v1).setCell (aq (w.heap.size+1) 2) v2).setCell (aq (w.heap.size+1) 3) v3)):=fun v0 v1 v2 v3=>jM hb5.out uO
        go_wp2
        refine uK (v:=.agg #[iv 6,iv 0,iv 0,iv 0]) (by simp [results,Tryz.results96,go_sem,r0,r1,r2,r3]) rfl ⟨_,rfl,O5.out h1 h2 h3 h46.out h5 _ ?_⟩
        first|exact HB.out _ _ _ _|exact Below.drew (HB.out _ _ _ _)|exact qY (HB.out _ _ _ _)
       ·have j5:¬ cq<=n:=mt E5.out.2 h5
        have d5:decide (cq<=n)=false:=by simpa using j5
        obtain ⟨HD,HP⟩:=O6.out h1 h2 h3 h46.out h5
        replace HD:Hid _:=HD
        replace HP:Hid _:=HP
        go_wp2_with fail
        refine (HD.out _ _ (HST.out _ bL (by first|exact lr5|simpa using lr5))).mono ?_
        rintro e W9 ⟨rfl,hT9,hk⟩
        have rb9:Hid (W9.heap[w.heap.size+1]?=some (.cells #[iv 0,iv 0,iv 0,iv 0] 33)):=(hk _ (.inr rfl)).trans rb5.out
        have lr9:w.heap.size+1<W9.heap.size:=(blt rb9.out)
        have HE:Hid (∀ v0 v1 v2 v3,zQ P2 w ((((W9.setCell (aq (w.heap.size+1) 0) v0).setCell (aq (w.heap.size+1) 1) v1).setCell (aq (w.heap.size+1) 2) v2).setCell (aq (w.heap.size+1) 3) v3) own):=fun v0 v1 v2 v3=>zE (zX K2 hT9 hw.out (.inr rfl) v0 v1 v2 v3)
        obtain ⟨r0,r1,r2,r3⟩:=qC rb9.out
        have y0:=qA rb9.out 0
        have y1:=qA rb9.out 1
        have y2:=qA rb9.out 2
        have y3:=qA rb9.out 3
        clear hk hT9
        go_wp2
        refine uK (v:=.agg #[iv q0,iv q1,iv q2,iv q3]) (by simp [results,Tryz.results96,go_sem,r0,r1,r2,r3]) rfl ⟨_,rfl,HP.out _ ?_⟩
        exact HE.out _ _ _ _
     ·have d4:(n==0)=false:=by simpa using h4
      have h46:Hid (¬ C4):=fun c=>h4 (E4.out.1 c).1
      go_wp2_with fail
      go_quiet (fail)
      by_cases h5:C5
      ·have j5:cq<=n:=E5.out.1 h5
       have d5:decide (cq<=n)=true:=by simpa using j5
       obtain ⟨r0,r1,r2,r3⟩:=qC rb4.out
       have y0:=qA rb4.out 0
       have y1:=qA rb4.out 1
       have y2:=qA rb4.out 2
       have y3:=qA rb4.out 3
       have HB:Hid (∀ v0 v1 v2 v3,Below w.heap.size w ((((W4.setCell (aq (w.heap.size+1) 0) v0).setCell (aq (w.heap.size+1) 1) v1).setCell (aq (w.heap.size+1) 2) v2).setCell (aq (w.heap.size+1) 3) v3)):=fun v0 v1 v2 v3=>jM hb4.out uO
       go_wp2
       refine uK (v:=.agg #[iv 6,iv 0,iv 0,iv 0]) (by simp [results,Tryz.results96,go_sem,r0,r1,r2,r3]) rfl ⟨_,rfl,O5.out h1 h2 h3 h46.out h5 _ ?_⟩
       first|exact HB.out _ _ _ _|exact Below.drew (HB.out _ _ _ _)|exact qY (HB.out _ _ _ _)
      ·have j5:¬ cq<=n:=mt E5.out.2 h5
       have d5:decide (cq<=n)=false:=by simpa using j5
       obtain ⟨HD,HP⟩:=O6.out h1 h2 h3 h46.out h5
       replace HD:Hid _:=HD
       replace HP:Hid _:=HP
       go_wp2_with fail
       refine (HD.out _ _ (HST.out _ bL (by first|exact lr4|simpa using lr4))).mono ?_
       rintro e W9 ⟨rfl,hT9,hk⟩
       have rb9:Hid (W9.heap[w.heap.size+1]?=some (.cells #[iv 0,iv 0,iv 0,iv 0] 33)):=(hk _ (.inr rfl)).trans rb4.out
       have lr9:w.heap.size+1<W9.heap.size:=(blt rb9.out)
       have HE:Hid (∀ v0 v1 v2 v3,zQ P2 w ((((W9.setCell (aq (w.heap.size+1) 0) v0).setCell (aq (w.heap.size+1) 1) v1).setCell (aq (w.heap.size+1) 2) v2).setCell (aq (w.heap.size+1) 3) v3) own):=fun v0 v1 v2 v3=>zE (zX K2 hT9 hw.out (.inr rfl) v0 v1 v2 v3)
       obtain ⟨r0,r1,r2,r3⟩:=qC rb9.out
       have y0:=qA rb9.out 0
       have y1:=qA rb9.out 1
       have y2:=qA rb9.out 2
       have y3:=qA rb9.out 3
       clear hk hT9
       go_wp2
       refine uK (v:=.agg #[iv q0,iv q1,iv q2,iv q3]) (by simp [results,Tryz.results96,go_sem,r0,r1,r2,r3]) rfl ⟨_,rfl,HP.out _ ?_⟩
       exact HE.out _ _ _ _
