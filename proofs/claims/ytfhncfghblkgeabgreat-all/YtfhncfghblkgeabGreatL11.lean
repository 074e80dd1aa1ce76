import Derived.Test.YtfhncfghblkgeabGreatL10
set_option maxRecDepth 100000
set_option maxHeartbeats 2000000
namespace Go.Proofs.YtfhncfghblkgeabGreat
open Go.RowKit
theorem jK {w:World} {R:Nat} {c0 c1 c2:Value} {T:TypeId} (h:w.heap[R]?=some (.cells #[c0,c1,c2] T)):w.cell? (aq R 0)=some c0/\w.cell? (aq R 1)=some c1/\w.cell? (aq R 2)=some c2 :=
 ⟨cB h,cB h,cB h⟩
theorem Np (p:Nat) (l r:Tr) (a1 a2 av h k1 k2 v:Int) (w:World) (ha:Tr.at w (.node p l (a1,a2) av h r)) (S:Nat->Prop) (LL Ll Lr:List Ent)
 (HL:Hid (∀ w1,Below w.heap.size w w1->jW 131 #[.pointer l.addr,.agg #[iv k1,iv k2,iv v]] w w1 S Ll))
 (HR:Hid (∀ w1,Below w.heap.size w w1->jW 131 #[.pointer r.addr,.agg #[iv k1,iv k2,iv v]] w w1 S Lr))
 (HBL:Hid (qR (k1,k2) (a1,a2)=true->∀ w1 t1,mk w w1 S Ll t1->jW 159 #[.pointer t1.addr,.agg #[iv a1,iv a2,iv av],.pointer r.addr] w w1 S LL))
 (HBR:Hid (qR (a1,a2) (k1,k2)=true->∀ w1 t1,mk w w1 S Lr t1->jW 159 #[.pointer l.addr,.agg #[iv a1,iv a2,iv av],.pointer t1.addr] w w1 S LL))
 (HJ:Hid (qR (k1,k2) (a1,a2)=false->qR (a1,a2) (k1,k2)=false->∀ w1,Below w.heap.size w w1->jW 158 #[.pointer l.addr,.agg #[iv k1,iv k2,iv v],.pointer r.addr] w w1 S LL)) :
 Ca 131 #[pt p 0,.agg #[iv k1,iv k2,iv v]] w fun e w'=>∃ t:Tr,e=.returned (.pointer t.addr)/\mk w w' S LL t:=by
 obtain ⟨hp,h1,h2⟩:=ha
 have hpw:p<w.heap.size:=(blt hp)
 obtain ⟨z0,z1,z2,z3,z4,-⟩:=jN hp
 simp only [Tr.ptr] at z0 z1
 have HB1:Hid (∀ W,Below w.heap.size w W->Ca 93 #[.agg #[iv k1,iv k2],.agg #[iv a1,iv a2]] W fun e w'=>e=.returned (.bool (qR (k1,k2) (a1,a2)))/\Below W.heap.size W w'):=fun W _=>oQ (k1,k2) (a1,a2) W
 have HB2:Hid (∀ W,Below w.heap.size w W->Ca 93 #[.agg #[iv a1,iv a2],.agg #[iv k1,iv k2]] W fun e w'=>e=.returned (.bool (qR (a1,a2) (k1,k2)))/\Below W.heap.size W w'):=fun W _=>oQ (a1,a2) (k1,k2) W
 generalize qR (k1,k2) (a1,a2)=ah at HBL HJ HB1
 generalize qR (a1,a2) (k1,k2)=ah2 at HBR HJ HB2
 clear hp h1 h2
 have c2:=z2
 have c3:=z3
 go_enter Tryz.func131,Tryz.ntmps131
 go_wp2_with fail
 go_region_held3 (fun w'=>w'.cell? (aq w.heap.size 0)=some (iv k1)/\w'.cell? (aq w.heap.size 1)=some (iv k2)/\w'.cell? (aq p 2)=some (iv a1)/\w'.cell? (aq p 3)=some (iv a2)) (simp [go_sem, *])
  (first|(go_at_call 93;refine (HB1.out _ bL).mono ?_;rintro e w1 ⟨rfl,b⟩
          have e0:=(b.cell (p:=(aq w.heap.size 0)) uS).trans (uN:_=some (iv k1))
          have e1:=(b.cell (p:=(aq w.heap.size 1)) uS).trans (uN:_=some (iv k2))
          have e2:=(b.cell (p:=(aq p 2)) uS).trans (uN:_=some (iv a1))
          have e3:=(b.cell (p:=(aq p 3)) uS).trans (uN:_=some (iv a2))))
 clear e0 e1 e2 e3
 have hbw1:Bl w w1:=uL (show Below w.heap.size w _ from bL) (b.mono uS)
 have hkw1:w1.heap[w.heap.size]?=some (.cells #[iv k1,iv k2,iv v] 176):=(b.block _ uS).trans (uF _ _)
 clear c2 c3 b
 have c0:=(hbw1.cell (p:=(aq p 0)) hpw).trans z0
 have c1:=(hbw1.cell (p:=(aq p 1)) hpw).trans z1
 have c2:=(hbw1.cell (p:=(aq p 2)) hpw).trans z2
 have c3:=(hbw1.cell (p:=(aq p 3)) hpw).trans z3
 have c4:=(hbw1.cell (p:=(aq p 4)) hpw).trans z4
 have hpxw1:p<w1.heap.size:=uB hpw hbw1.size
 have hexw1:w.heap.size<w1.heap.size:=(blt hkw1)
 obtain ⟨q0,q1,q2⟩:=jK hkw1
 cases ah
 ·go_wp2_with fail
  go_region_held3 (fun w'=>w'.cell? (aq w.heap.size 0)=some (iv k1)/\w'.cell? (aq w.heap.size 1)=some (iv k2)/\w'.cell? (aq p 2)=some (iv a1)/\w'.cell? (aq p 3)=some (iv a2)) (simp [go_sem, *])
   (first|(go_at_call 93;refine (HB2.out _ bL).mono ?_;rintro e w2 ⟨rfl,b⟩
           have e0:=(b.cell (p:=(aq w.heap.size 0)) uS).trans (uN:_=some (iv k1))
           have e1:=(b.cell (p:=(aq w.heap.size 1)) uS).trans (uN:_=some (iv k2))
           have e2:=(b.cell (p:=(aq p 2)) uS).trans (uN:_=some (iv a1))
           have e3:=(b.cell (p:=(aq p 3)) uS).trans (uN:_=some (iv a2))))
  clear e0 e1 e2 e3
  have hbw2:Bl w w2:=uL (show Below w.heap.size w _ from bL) (b.mono uS)
  have hkw2:w2.heap[w.heap.size]?=some (.cells #[iv k1,iv k2,iv v] 176):=(b.block _ uS).trans (hkw1)
  clear c0 c1 c2 c3 c4 q0 q1 q2 b hbw1 hkw1 hpxw1 hexw1
  have c0:=(hbw2.cell (p:=(aq p 0)) hpw).trans z0
  have c1:=(hbw2.cell (p:=(aq p 1)) hpw).trans z1
  have c2:=(hbw2.cell (p:=(aq p 2)) hpw).trans z2
  have c3:=(hbw2.cell (p:=(aq p 3)) hpw).trans z3
  have c4:=(hbw2.cell (p:=(aq p 4)) hpw).trans z4
  have hpxw2:p<w2.heap.size:=uB hpw hbw2.size
  have hexw2:w.heap.size<w2.heap.size:=(blt hkw2)
  obtain ⟨q0,q1,q2⟩:=jK hkw2
  cases ah2
  ·have HJ2:Hid _:=HJ.out (by trivial) (by trivial) _ hbw2
   clear HBL HBR HL HR
   go_wp2_with fail
   go_region_held3 (fun w'=>w'.cell? (aq p 0)=some (.pointer l.addr)/\w'.cell? (aq w.heap.size 0)=some (iv k1)/\w'.cell? (aq w.heap.size 1)=some (iv k2)/\w'.cell? (aq w.heap.size 2)=some (iv v)/\w'.cell? (aq p 1)=some (.pointer r.addr)) (simp [go_sem, *])
    (first|(go_at_call 158;refine (HJ2.out _ bL).mono ?_;rintro e w3 ⟨t3,rfl,m,b⟩
            have e0:=(b.cell (p:=(aq p 0)) uS).trans (uN:_=some (.pointer l.addr))
            have e1:=(b.cell (p:=(aq w.heap.size 0)) uS).trans (uN:_=some (iv k1))
            have e2:=(b.cell (p:=(aq w.heap.size 1)) uS).trans (uN:_=some (iv k2))
            have e3:=(b.cell (p:=(aq w.heap.size 2)) uS).trans (uN:_=some (iv v))
            have e4:=(b.cell (p:=(aq p 1)) uS).trans (uN:_=some (.pointer r.addr))))
   clear e0 e1 e2 e3 e4
   go_wp2
   go_ret
   exact ⟨_,rfl,m⟩
  ·have HR2:Hid _:=HR.out _ hbw2
   go_wp2_with fail
   go_region_held3 (fun w'=>w'.cell? (aq p 1)=some (.pointer r.addr)/\w'.cell? (aq w.heap.size 0)=some (iv k1)/\w'.cell? (aq w.heap.size 1)=some (iv k2)/\w'.cell? (aq w.heap.size 2)=some (iv v)) (simp [go_sem, *])
    (first|(go_at_call 131;refine (HR2.out _ bL).mono ?_;rintro e w3 ⟨t3,rfl,m,b⟩
            have e0:=(b.cell (p:=(aq p 1)) uS).trans (uN:_=some (.pointer r.addr))
            have e1:=(b.cell (p:=(aq w.heap.size 0)) uS).trans (uN:_=some (iv k1))
            have e2:=(b.cell (p:=(aq w.heap.size 1)) uS).trans (uN:_=some (iv k2))
            have e3:=(b.cell (p:=(aq w.heap.size 2)) uS).trans (uN:_=some (iv v))))
   clear e0 e1 e2 e3
   have HB3:Hid _:=HBR.out (by trivial) _ _ m
   have d0:=(m.2.2.1.cell (p:=(aq p 0)) hpw).trans z0
   have d1:=(m.2.2.1.cell (p:=(aq p 1)) hpw).trans z1
   have d2:=(m.2.2.1.cell (p:=(aq p 2)) hpw).trans z2
   have d3:=(m.2.2.1.cell (p:=(aq p 3)) hpw).trans z3
   have d4:=(m.2.2.1.cell (p:=(aq p 4)) hpw).trans z4
   have hpx3:p<w3.heap.size:=uB hpw m.2.2.1.size
   clear c0 c1 c2 c3 c4 q0 q1 q2 b z0 z1 z2 z3 z4 HBL HBR HJ HL HR
   go_wp2_with fail
   go_region_held3 (fun w'=>w'.cell? (aq p 0)=some (.pointer l.addr)/\w'.cell? (aq p 2)=some (iv a1)/\w'.cell? (aq p 3)=some (iv a2)/\w'.cell? (aq p 4)=some (iv av)) (simp [go_sem, *])
    (first|(go_at_call 159;refine (HB3.out _ bL).mono ?_;rintro e w4 ⟨t4,rfl,m4,b⟩
            have e0:=(b.cell (p:=(aq p 0)) uS).trans (uN:_=some (.pointer l.addr))
            have e1:=(b.cell (p:=(aq p 2)) uS).trans (uN:_=some (iv a1))
            have e2:=(b.cell (p:=(aq p 3)) uS).trans (uN:_=some (iv a2))
            have e3:=(b.cell (p:=(aq p 4)) uS).trans (uN:_=some (iv av))))
   clear e0 e1 e2 e3
   go_wp2
   go_ret
   exact ⟨_,rfl,m4⟩
 ·have HL2:Hid _:=HL.out _ hbw1
  go_wp2_with fail
  go_region_held3 (fun w'=>w'.cell? (aq p 0)=some (.pointer l.addr)/\w'.cell? (aq w.heap.size 0)=some (iv k1)/\w'.cell? (aq w.heap.size 1)=some (iv k2)/\w'.cell? (aq w.heap.size 2)=some (iv v)) (simp [go_sem, *])
   (first|(go_at_call 131;refine (HL2.out _ bL).mono ?_;rintro e w3 ⟨t3,rfl,m,b⟩
           have e0:=(b.cell (p:=(aq p 0)) uS).trans (uN:_=some (.pointer l.addr))
           have e1:=(b.cell (p:=(aq w.heap.size 0)) uS).trans (uN:_=some (iv k1))
           have e2:=(b.cell (p:=(aq w.heap.size 1)) uS).trans (uN:_=some (iv k2))
           have e3:=(b.cell (p:=(aq w.heap.size 2)) uS).trans (uN:_=some (iv v))))
  clear e0 e1 e2 e3
  have HB3:Hid _:=HBL.out (by trivial) _ _ m
  have d0:=(m.2.2.1.cell (p:=(aq p 0)) hpw).trans z0
  have d1:=(m.2.2.1.cell (p:=(aq p 1)) hpw).trans z1
  have d2:=(m.2.2.1.cell (p:=(aq p 2)) hpw).trans z2
  have d3:=(m.2.2.1.cell (p:=(aq p 3)) hpw).trans z3
  have d4:=(m.2.2.1.cell (p:=(aq p 4)) hpw).trans z4
  have hpx3:p<w3.heap.size:=uB hpw m.2.2.1.size
  clear c0 c1 c2 c3 c4 q0 q1 q2 b z0 z1 z2 z3 z4 HBL HBR HJ HL HR
  go_wp2_with fail
  go_region_held3 (fun w'=>w'.cell? (aq p 2)=some (iv a1)/\w'.cell? (aq p 3)=some (iv a2)/\w'.cell? (aq p 4)=some (iv av)/\w'.cell? (aq p 1)=some (.pointer r.addr)) (simp [go_sem, *])
   (first|(go_at_call 159;refine (HB3.out _ bL).mono ?_;rintro e w4 ⟨t4,rfl,m4,b⟩
           have e0:=(b.cell (p:=(aq p 2)) uS).trans (uN:_=some (iv a1))
           have e1:=(b.cell (p:=(aq p 3)) uS).trans (uN:_=some (iv a2))
           have e2:=(b.cell (p:=(aq p 4)) uS).trans (uN:_=some (iv av))
           have e3:=(b.cell (p:=(aq p 1)) uS).trans (uN:_=some (.pointer r.addr))))
  clear e0 e1 e2 e3
  go_wp2
  go_ret
  exact ⟨_,rfl,m4⟩
theorem Rf (k1 k2 v:Int) (w:World) :
 Ca 131 #[.pointer none,.agg #[iv k1,iv k2,iv v]] w fun e w'=>∃ t:Tr,e=.returned (.pointer t.addr)/\mk w w' (fun _=>False) [((k1,k2),v)] t:=by
 have HJ:Hid (jW 158 #[.pointer none,.agg #[iv k1,iv k2,iv v],.pointer none] w w (fun _=>False) [((k1,k2),v)]):=yR .leaf .leaf (k1,k2) v trivial trivial (uM _ _) (fun n hn=>(hn.elim id id).elim) rfl
 go_enter Tryz.func131,Tryz.ntmps131
 go_wp2_with (go_at_call 158;refine (HJ.out _ bL).mono ?_;rintro e w1 ⟨t,rfl,m,b⟩)
 go_ret
 exact ⟨_,rfl,m⟩
theorem cV (k1 k2 v:Int):∀ (t:Tr) (w:World),t.at w->srt t.toL →
 Ca 131 #[.pointer t.addr,.agg #[iv k1,iv k2,iv v]] w fun e w'=>∃ t':Tr,e=.returned (.pointer t'.addr)/\mk w w' (fun n=>t.has n) (zD (k1,k2) v t.toL) t'
 | .leaf,w,_,_=>(Rf k1 k2 v w).mono (by rintro e w' ⟨t,rfl,h⟩;exact ⟨t,rfl,vF h (fun _ hn=>hn.elim)⟩)
 | .node p l (a1,a2) av h r,w,ha,hs=>by
   obtain ⟨hp,h1,h2⟩:=ha
   have hs':srt (l.toL++((a1,a2),av) :: r.toL):=hs
   have hsl:=(zN.1 hs').1
   have hsr:=(zN.1 hs').2.1
   refine Np p l r a1 a2 av h k1 k2 v w ⟨hp,h1,h2⟩ _ _ (zD (k1,k2) v l.toL) (zD (k1,k2) v r.toL) ?_ ?_ ?_ ?_ ?_
   ·exact fun w1 hb=>xN hb (fun W hW=>(cV k1 k2 v l W (l.at_below (l.at_below h1 hb) hW) hsl).mono (by rintro e w' ⟨t,rfl,h⟩;exact ⟨t,rfl,vF h (fun n hn=>.inl (.inr (.inl hn)))⟩)) rfl
   ·exact fun w1 hb=>xN hb (fun W hW=>(cV k1 k2 v r W (r.at_below (r.at_below h2 hb) hW) hsr).mono (by rintro e w' ⟨t,rfl,h⟩;exact ⟨t,rfl,vF h (fun n hn=>.inl (.inr (.inr hn)))⟩)) rfl
   ·intro hh w1 t1 m
    exact kW t1 r (a1,a2) av m.1 (r.at_below h2 m.2.2.1) m.2.2.1 (fun n hn=>hn.elim (m.2.2.2 n) (fun h=>.inl (.inr (.inr h)))) (by rw [m.2.1,Tr.toL_node,Er hs' hh])
   ·intro hh w1 t1 m
    exact kW l t1 (a1,a2) av (l.at_below h1 m.2.2.1) m.1 m.2.2.1 (fun n hn=>hn.elim (fun h=>.inl (.inr (.inl h))) (m.2.2.2 n)) (by rw [m.2.1,Tr.toL_node,Mx hs' hh])
   ·intro ha hb w1 hw
    exact yR l r (k1,k2) v (l.at_below h1 hw) (r.at_below h2 hw) hw (fun n hn=>.inl (.inr hn)) (by rw [Tr.toL_node,Oq hs' (rJ hb ha)])
theorem Ju (p:Nat) (l r:Tr) (a1 a2 av h k1 k2:Int) (w:World) (ha:Tr.at w (.node p l (a1,a2) av h r)) (S:Nat->Prop) (LL Ll Lr:List Ent)
 (HL:Hid (∀ w1,Below w.heap.size w w1->jW 163 #[.pointer l.addr,.agg #[iv k1,iv k2]] w w1 S Ll))
 (HR:Hid (∀ w1,Below w.heap.size w w1->jW 163 #[.pointer r.addr,.agg #[iv k1,iv k2]] w w1 S Lr))
 (HBL:Hid (qR (k1,k2) (a1,a2)=true->∀ w1 t1,mk w w1 S Ll t1->jW 159 #[.pointer t1.addr,.agg #[iv a1,iv a2,iv av],.pointer r.addr] w w1 S LL))
 (HBR:Hid (qR (a1,a2) (k1,k2)=true->∀ w1 t1,mk w w1 S Lr t1->jW 159 #[.pointer l.addr,.agg #[iv a1,iv a2,iv av],.pointer t1.addr] w w1 S LL))
 (HJ:Hid (qR (k1,k2) (a1,a2)=false->qR (a1,a2) (k1,k2)=false->∀ w1,Below w.heap.size w w1->jW 172 #[.pointer l.addr,.pointer r.addr] w w1 S LL)) :
 Ca 163 #[pt p 0,.agg #[iv k1,iv k2]] w fun e w'=>∃ t:Tr,e=.returned (.pointer t.addr)/\mk w w' S LL t:=by
 obtain ⟨hp,h1,h2⟩:=ha
 have hpw:p<w.heap.size:=(blt hp)
 obtain ⟨z0,z1,z2,z3,z4,-⟩:=jN hp
 simp only [Tr.ptr] at z0 z1
 have HB1:Hid (∀ W,Below w.heap.size w W->Ca 93 #[.agg #[iv k1,iv k2],.agg #[iv a1,iv a2]] W fun e w'=>e=.returned (.bool (qR (k1,k2) (a1,a2)))/\Below W.heap.size W w'):=fun W _=>oQ (k1,k2) (a1,a2) W
 have HB2:Hid (∀ W,Below w.heap.size w W->Ca 93 #[.agg #[iv a1,iv a2],.agg #[iv k1,iv k2]] W fun e w'=>e=.returned (.bool (qR (a1,a2) (k1,k2)))/\Below W.heap.size W w'):=fun W _=>oQ (a1,a2) (k1,k2) W
 generalize qR (k1,k2) (a1,a2)=ah at HBL HJ HB1
 generalize qR (a1,a2) (k1,k2)=ah2 at HBR HJ HB2
 clear hp h1 h2
 have c2:=z2
 have c3:=z3
 go_enter Tryz.func163,Tryz.ntmps163
 go_wp2_with fail
 go_region_held3 (fun w'=>w'.cell? (aq w.heap.size 0)=some (iv k1)/\w'.cell? (aq w.heap.size 1)=some (iv k2)/\w'.cell? (aq p 2)=some (iv a1)/\w'.cell? (aq p 3)=some (iv a2)) (simp [go_sem, *])
  (first|(go_at_call 93;refine (HB1.out _ bL).mono ?_;rintro e w1 ⟨rfl,b⟩
          have e0:=(b.cell (p:=(aq w.heap.size 0)) uS).trans (uN:_=some (iv k1))
          have e1:=(b.cell (p:=(aq w.heap.size 1)) uS).trans (uN:_=some (iv k2))
          have e2:=(b.cell (p:=(aq p 2)) uS).trans (uN:_=some (iv a1))
          have e3:=(b.cell (p:=(aq p 3)) uS).trans (uN:_=some (iv a2))))
 clear e0 e1 e2 e3
 have hbw1:Bl w w1:=uL (show Below w.heap.size w _ from bL) (b.mono uS)
 have hkw1:w1.heap[w.heap.size]?=some (.cells #[iv k1,iv k2] 136):=(b.block _ uS).trans (uF _ _)
 clear c2 c3 b
 have c0:=(hbw1.cell (p:=(aq p 0)) hpw).trans z0
 have c1:=(hbw1.cell (p:=(aq p 1)) hpw).trans z1
 have c2:=(hbw1.cell (p:=(aq p 2)) hpw).trans z2
 have c3:=(hbw1.cell (p:=(aq p 3)) hpw).trans z3
 have c4:=(hbw1.cell (p:=(aq p 4)) hpw).trans z4
 have hpxw1:p<w1.heap.size:=uB hpw hbw1.size
 have hexw1:w.heap.size<w1.heap.size:=(blt hkw1)
 obtain ⟨q0,q1⟩:=kP hkw1
 cases ah
 ·go_wp2_with fail
  go_region_held3 (fun w'=>w'.cell? (aq w.heap.size 0)=some (iv k1)/\w'.cell? (aq w.heap.size 1)=some (iv k2)/\w'.cell? (aq p 2)=some (iv a1)/\w'.cell? (aq p 3)=some (iv a2)) (simp [go_sem, *])
   (first|(go_at_call 93;refine (HB2.out _ bL).mono ?_;rintro e w2 ⟨rfl,b⟩
           have e0:=(b.cell (p:=(aq w.heap.size 0)) uS).trans (uN:_=some (iv k1))
           have e1:=(b.cell (p:=(aq w.heap.size 1)) uS).trans (uN:_=some (iv k2))
           have e2:=(b.cell (p:=(aq p 2)) uS).trans (uN:_=some (iv a1))
           have e3:=(b.cell (p:=(aq p 3)) uS).trans (uN:_=some (iv a2))))
  clear e0 e1 e2 e3
  have hbw2:Bl w w2:=uL (show Below w.heap.size w _ from bL) (b.mono uS)
  have hkw2:w2.heap[w.heap.size]?=some (.cells #[iv k1,iv k2] 136):=(b.block _ uS).trans (hkw1)
  clear c0 c1 c2 c3 c4 q0 q1 b hbw1 hkw1 hpxw1 hexw1
  have c0:=(hbw2.cell (p:=(aq p 0)) hpw).trans z0
  have c1:=(hbw2.cell (p:=(aq p 1)) hpw).trans z1
  have c2:=(hbw2.cell (p:=(aq p 2)) hpw).trans z2
  have c3:=(hbw2.cell (p:=(aq p 3)) hpw).trans z3
  have c4:=(hbw2.cell (p:=(aq p 4)) hpw).trans z4
  have hpxw2:p<w2.heap.size:=uB hpw hbw2.size
  have hexw2:w.heap.size<w2.heap.size:=(blt hkw2)
  obtain ⟨q0,q1⟩:=kP hkw2
  cases ah2
  ·have HJ2:Hid _:=HJ.out (by trivial) (by trivial) _ hbw2
   clear HBL HBR HL HR
   go_wp2_with fail
   go_region_held3 (fun w'=>w'.cell? (aq p 0)=some (.pointer l.addr)/\w'.cell? (aq p 1)=some (.pointer r.addr)) (simp [go_sem, *])
    (first|(go_at_call 172;refine (HJ2.out _ bL).mono ?_;rintro e w3 ⟨t3,rfl,m,b⟩
            have e0:=(b.cell (p:=(aq p 0)) uS).trans (uN:_=some (.pointer l.addr))
            have e1:=(b.cell (p:=(aq p 1)) uS).trans (uN:_=some (.pointer r.addr))))
   clear e0 e1
   go_wp2
   go_ret
   exact ⟨_,rfl,m⟩
  ·have HR2:Hid _:=HR.out _ hbw2
   go_wp2_with fail
   go_region_held3 (fun w'=>w'.cell? (aq p 1)=some (.pointer r.addr)/\w'.cell? (aq w.heap.size 0)=some (iv k1)/\w'.cell? (aq w.heap.size 1)=some (iv k2)) (simp [go_sem, *])
    (first|(go_at_call 163;refine (HR2.out _ bL).mono ?_;rintro e w3 ⟨t3,rfl,m,b⟩
            have e0:=(b.cell (p:=(aq p 1)) uS).trans (uN:_=some (.pointer r.addr))
            have e1:=(b.cell (p:=(aq w.heap.size 0)) uS).trans (uN:_=some (iv k1))
            have e2:=(b.cell (p:=(aq w.heap.size 1)) uS).trans (uN:_=some (iv k2))))
   clear e0 e1 e2
   have HB3:Hid _:=HBR.out (by trivial) _ _ m
   have d0:=(m.2.2.1.cell (p:=(aq p 0)) hpw).trans z0
   have d1:=(m.2.2.1.cell (p:=(aq p 1)) hpw).trans z1
   have d2:=(m.2.2.1.cell (p:=(aq p 2)) hpw).trans z2
   have d3:=(m.2.2.1.cell (p:=(aq p 3)) hpw).trans z3
   have d4:=(m.2.2.1.cell (p:=(aq p 4)) hpw).trans z4
   have hpx3:p<w3.heap.size:=uB hpw m.2.2.1.size
   clear c0 c1 c2 c3 c4 q0 q1 b z0 z1 z2 z3 z4 HBL HBR HJ HL HR
   go_wp2_with fail
   go_region_held3 (fun w'=>w'.cell? (aq p 0)=some (.pointer l.addr)/\w'.cell? (aq p 2)=some (iv a1)/\w'.cell? (aq p 3)=some (iv a2)/\w'.cell? (aq p 4)=some (iv av)) (simp [go_sem, *])
    (first|(go_at_call 159;refine (HB3.out _ bL).mono ?_;rintro e w4 ⟨t4,rfl,m4,b⟩
            have e0:=(b.cell (p:=(aq p 0)) uS).trans (uN:_=some (.pointer l.addr))
            have e1:=(b.cell (p:=(aq p 2)) uS).trans (uN:_=some (iv a1))
            have e2:=(b.cell (p:=(aq p 3)) uS).trans (uN:_=some (iv a2))
            have e3:=(b.cell (p:=(aq p 4)) uS).trans (uN:_=some (iv av))))
   clear e0 e1 e2 e3
   go_wp2
   go_ret
   exact ⟨_,rfl,m4⟩
 ·have HL2:Hid _:=HL.out _ hbw1
  go_wp2_with fail
  go_region_held3 (fun w'=>w'.cell? (aq p 0)=some (.pointer l.addr)/\w'.cell? (aq w.heap.size 0)=some (iv k1)/\w'.cell? (aq w.heap.size 1)=some (iv k2)) (simp [go_sem, *])
   (first|(go_at_call 163;refine (HL2.out _ bL).mono ?_;rintro e w3 ⟨t3,rfl,m,b⟩
           have e0:=(b.cell (p:=(aq p 0)) uS).trans (uN:_=some (.pointer l.addr))
           have e1:=(b.cell (p:=(aq w.heap.size 0)) uS).trans (uN:_=some (iv k1))
           have e2:=(b.cell (p:=(aq w.heap.size 1)) uS).trans (uN:_=some (iv k2))))
  clear e0 e1 e2
  have HB3:Hid _:=HBL.out (by trivial) _ _ m
  have d0:=(m.2.2.1.cell (p:=(aq p 0)) hpw).trans z0
  have d1:=(m.2.2.1.cell (p:=(aq p 1)) hpw).trans z1
  have d2:=(m.2.2.1.cell (p:=(aq p 2)) hpw).trans z2
  have d3:=(m.2.2.1.cell (p:=(aq p 3)) hpw).trans z3
  have d4:=(m.2.2.1.cell (p:=(aq p 4)) hpw).trans z4
  have hpx3:p<w3.heap.size:=uB hpw m.2.2.1.size
  clear c0 c1 c2 c3 c4 q0 q1 b z0 z1 z2 z3 z4 HBL HBR HJ HL HR
  go_wp2_with fail
  go_region_held3 (fun w'=>w'.cell? (aq p 2)=some (iv a1)/\w'.cell? (aq p 3)=some (iv a2)/\w'.cell? (aq p 4)=some (iv av)/\w'.cell? (aq p 1)=some (.pointer r.addr)) (simp [go_sem, *])
   (first|(go_at_call 159;refine (HB3.out _ bL).mono ?_;rintro e w4 ⟨t4,rfl,m4,b⟩
           have e0:=(b.cell (p:=(aq p 2)) uS).trans (uN:_=some (iv a1))
           have e1:=(b.cell (p:=(aq p 3)) uS).trans (uN:_=some (iv a2))
           have e2:=(b.cell (p:=(aq p 4)) uS).trans (uN:_=some (iv av))
           have e3:=(b.cell (p:=(aq p 1)) uS).trans (uN:_=some (.pointer r.addr))))
  clear e0 e1 e2 e3
  go_wp2
  go_ret
  exact ⟨_,rfl,m4⟩
theorem Dn (la:Option Addr) (p:Nat) (a1 a2 av:Int) (w:World) (S:Nat->Prop) (LL Lr:List Ent)
 (HF:Hid (∀ W,Below w.heap.size w W->Ca 132 #[pt p 0] W fun e w'=>e=.returned (.agg #[iv a1,iv a2,iv av])/\Below W.heap.size W w'))
 (HR:Hid (∀ w1,Below w.heap.size w w1->jW 163 #[pt p 0,.agg #[iv a1,iv a2]] w w1 S Lr))
 (HB:Hid (∀ w1 t1,mk w w1 S Lr t1->jW 159 #[.pointer la,.agg #[iv a1,iv a2,iv av],.pointer t1.addr] w w1 S LL)) :
 Ca 172 #[.pointer la,pt p 0] w fun e w'=>∃ t:Tr,e=.returned (.pointer t.addr)/\mk w w' S LL t:=by
 go_enter Tryz.func172,Tryz.ntmps172
 go_wp2_with fail
 refine (HF.out _ bL).mono ?_
 rintro e w1 ⟨rfl,b1⟩
 have HR2:Hid _:=HR.out _ b1
 go_wp2_with fail
 refine (HR2.out _ bL).mono ?_
 rintro e w2 ⟨t,rfl,m,b2⟩
 have hk:w2.heap[w1.heap.size]?=some (.cells #[iv a1,iv a2,iv av] 176):=(b2.block _ vS).trans (uF _ _)
 obtain ⟨q0,q1,q2⟩:=jK hk
 have HB3:Hid _:=HB.out _ _ m
 go_wp2_with (go_at_call 159;refine (HB3.out _ bL).mono ?_;rintro e w3 ⟨t3,rfl,m3,b3⟩)
 go_ret
 exact ⟨_,rfl,m3⟩
theorem Hh (l:Tr) (w:World) (hl:l.at w) :
 Ca 172 #[.pointer l.addr,.pointer none] w fun e w'=>∃ t:Tr,e=.returned (.pointer t.addr)/\mk w w' (fun n=>l.has n) l.toL t:=by
 have HM:Hid (mk w w (fun n=>l.has n) l.toL l):=⟨hl,rfl,uM _ _,fun n hn=>.inl hn⟩
 clear hl
 go_enter Tryz.func172,Tryz.ntmps172
 go_wp2
 go_ret
 exact ⟨l,rfl,HM.out⟩
theorem Zz (k1 k2:Int) (w:World) :
 Ca 163 #[.pointer none,.agg #[iv k1,iv k2]] w fun e w'=>∃ t:Tr,e=.returned (.pointer t.addr)/\mk w w' (fun _=>False) [] t:=by
 go_enter Tryz.func163,Tryz.ntmps163
 go_wp2
 go_ret
 exact ⟨.leaf,rfl,trivial,rfl,bL,fun n hn=>hn.elim⟩
theorem Qn {t:Tr} (h:t.toL≠[]):∃ l,t.toL=dM t :: l:=by
 unfold dM
 cases hc:t.toL with
 | nil=>exact absurd hc h
 | cons x xs=>exact ⟨xs,rfl⟩
def wE (t:Tr):Prop:=∀ (k1 k2:Int) (w:World),t.at w->srt t.toL →
 Ca 163 #[.pointer t.addr,.agg #[iv k1,iv k2]] w fun e w'=>∃ t':Tr,e=.returned (.pointer t'.addr)/\mk w w' (fun n=>t.has n) (xC (k1,k2) t.toL) t'
theorem Ag (l r:Tr) (w:World) (hl:l.at w) (hr:r.at w) (hs:srt r.toL) (hw:wE r) :
 Ca 172 #[.pointer l.addr,.pointer r.addr] w fun e w'=>∃ t:Tr,e=.returned (.pointer t.addr)/\mk w w' (fun n=>l.has n\/r.has n) (l.toL++r.toL) t:=by
 cases r with
 | leaf=>exact (Hh l w hl).mono (by rintro e w' ⟨t,rfl,h⟩;exact ⟨t,rfl,by have:=vF (S:=fun n=>l.has n\/Tr.leaf.has n) h (fun n hn=>.inl hn);simpa [Tr.toL] using this⟩)
 | node p rl rk rv rh rr =>
   obtain ⟨rest,hx⟩:=Qn (t:=.node p rl rk rv rh rr) (by simp [Tr.toL])
   have hd:xC (dM (.node p rl rk rv rh rr)).1 (Tr.toL (.node p rl rk rv rh rr))=rest:=by
    have h:=hs
    rw [hx] at h ⊢
    exact Zc (A:=[]) h rfl
   have hfo:∀ W,Below w.heap.size w W->Tr.at W (.node p rl rk rv rh rr):=fun W hW=>Tr.at_below hr hW
   generalize hF:dM (.node p rl rk rv rh rr)=F at hx hd
   obtain ⟨⟨a1,a2⟩,av⟩:=F
   refine Dn l.addr p a1 a2 av w _ _ rest ?_ ?_ ?_
   ·intro W hW
    have:=iM p rl rr rk rv rh W (hfo W hW)
    rw [hF] at this
    exact this
   ·intro w1 hb
    exact xN hb (fun W hW=>(hw a1 a2 W (Tr.at_below (hfo w1 hb) hW) hs).mono (by rintro e w' ⟨t,rfl,h⟩;exact ⟨t,rfl,vF h (fun n hn=>.inl (.inr hn))⟩)) hd
   ·intro w1 t1 m
    exact kW l t1 (a1,a2) av (l.at_below hl m.2.2.1) m.1 m.2.2.1 (fun n hn=>hn.elim (fun h=>.inl (.inl h)) (m.2.2.2 n)) (by rw [m.2.1,hx])
theorem gN:∀ t:Tr,wE t
 | .leaf=>fun k1 k2 w _ _=>(Zz k1 k2 w).mono (by rintro e w' ⟨t,rfl,h⟩;exact ⟨t,rfl,vF h (fun _ hn=>hn.elim)⟩)
 | .node p l (a1,a2) av h r=>fun k1 k2 w ha hs=>by
   obtain ⟨hp,h1,h2⟩:=ha
   have hs':srt (l.toL++((a1,a2),av) :: r.toL):=hs
   have hsl:=(zN.1 hs').1
   have hsr:=(zN.1 hs').2.1
   refine Ju p l r a1 a2 av h k1 k2 w ⟨hp,h1,h2⟩ _ _ (xC (k1,k2) l.toL) (xC (k1,k2) r.toL) ?_ ?_ ?_ ?_ ?_
   ·exact fun w1 hb=>xN hb (fun W hW=>(gN l k1 k2 W (l.at_below (l.at_below h1 hb) hW) hsl).mono (by rintro e w' ⟨t,rfl,h⟩;exact ⟨t,rfl,vF h (fun n hn=>.inl (.inr (.inl hn)))⟩)) rfl
   ·exact fun w1 hb=>xN hb (fun W hW=>(gN r k1 k2 W (r.at_below (r.at_below h2 hb) hW) hsr).mono (by rintro e w' ⟨t,rfl,h⟩;exact ⟨t,rfl,vF h (fun n hn=>.inl (.inr (.inr hn)))⟩)) rfl
   ·intro hh w1 t1 m
    exact kW t1 r (a1,a2) av m.1 (r.at_below h2 m.2.2.1) m.2.2.1 (fun n hn=>hn.elim (m.2.2.2 n) (fun h=>.inl (.inr (.inr h)))) (by rw [m.2.1,Tr.toL_node,Ex hs' hh])
   ·intro hh w1 t1 m
    exact kW l t1 (a1,a2) av (l.at_below h1 m.2.2.1) m.1 m.2.2.1 (fun n hn=>hn.elim (fun h=>.inl (.inr (.inl h))) (m.2.2.2 n)) (by rw [m.2.1,Tr.toL_node,Ms hs' hh])
   ·intro ha hb w1 hw
    exact xN hw (fun W hW=>(Ag l r W (l.at_below (l.at_below h1 hw) hW) (r.at_below (r.at_below h2 hw) hW) hsr (gN r)).mono (by rintro e w' ⟨t,rfl,h⟩;exact ⟨t,rfl,vF h (fun n hn=>.inl (.inr hn))⟩)) (by rw [Tr.toL_node,Zc hs' (rJ hb ha)])
