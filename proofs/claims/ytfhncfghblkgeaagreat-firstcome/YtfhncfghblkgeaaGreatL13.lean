import Derived.Test.YtfhncfghblkgeaaGreatL12
set_option maxRecDepth 100000
set_option maxHeartbeats 2000000
namespace Go.Proofs.YtfhncfghblkgeaaGreat
open Go.RowKit
theorem jb3 {w:World} {R:Nat} {c0 c1 c2:Value} {T:TypeId} (h:w.heap[R]?=some (.cells #[c0,c1,c2] T (0,0))):w.cell? (aq R 0)=some c0/\w.cell? (aq R 1)=some c1/\w.cell? (aq R 2)=some c2 :=
 ⟨by rw [Joins.cell_of_block h];rfl,by rw [Joins.cell_of_block h];rfl,by rw [Joins.cell_of_block h];rfl⟩
theorem qaf (p:Nat) (l r:Tr) (a1 a2 av h k1 k2 v:Int) (w:World) (ha:Tr.at w (.node p l (a1,a2) av h r)) (S:Nat->Prop) (LL Ll Lr:List Ent)
 (HL:Hid (∀ w1,Below w.heap.size w w1->jcu 142 #[.pointer l.addr,.agg #[iv k1,iv k2,iv v]] w w1 S Ll))
 (HR:Hid (∀ w1,Below w.heap.size w w1->jcu 142 #[.pointer r.addr,.agg #[iv k1,iv k2,iv v]] w w1 S Lr))
 (HBL:Hid (jac (k1,k2) (a1,a2)=true->∀ w1 t1,mk w w1 S Ll t1->jcu 165 #[.pointer t1.addr,.agg #[iv a1,iv a2,iv av],.pointer r.addr] w w1 S LL))
 (HBR:Hid (jac (a1,a2) (k1,k2)=true->∀ w1 t1,mk w w1 S Lr t1->jcu 165 #[.pointer l.addr,.agg #[iv a1,iv a2,iv av],.pointer t1.addr] w w1 S LL))
 (HJ:Hid (jac (k1,k2) (a1,a2)=false->jac (a1,a2) (k1,k2)=false->∀ w1,Below w.heap.size w w1->jcu 164 #[.pointer l.addr,.agg #[iv k1,iv k2,iv v],.pointer r.addr] w w1 S LL)) :
 Calls Tryz.prog 142 #[pt p 0,.agg #[iv k1,iv k2,iv v]] w fun e w'=>∃ t:Tr,e=.returned (.pointer t.addr)/\mk w w' S LL t:=by
 obtain ⟨hp,h1,h2⟩:=ha
 have hpw:p<w.heap.size:=(blt hp)
 obtain ⟨z0,z1,z2,z3,z4,-⟩:=jcj hp
 simp only [Tr.ptr] at z0 z1
 have HB1:Hid (∀ W,Below w.heap.size w W->Calls Tryz.prog 129 #[.agg #[iv k1,iv k2],.agg #[iv a1,iv a2]] W fun e w'=>e=.returned (.bool (jac (k1,k2) (a1,a2)))/\Below W.heap.size W w'):=fun W _=>jez (k1,k2) (a1,a2) W
 have HB2:Hid (∀ W,Below w.heap.size w W->Calls Tryz.prog 129 #[.agg #[iv a1,iv a2],.agg #[iv k1,iv k2]] W fun e w'=>e=.returned (.bool (jac (a1,a2) (k1,k2)))/\Below W.heap.size W w'):=fun W _=>jez (a1,a2) (k1,k2) W
 generalize jac (k1,k2) (a1,a2)=ah at HBL HJ HB1
 generalize jac (a1,a2) (k1,k2)=ah2 at HBR HJ HB2
 clear hp h1 h2
 have c2:=z2
 have c3:=z3
 go_enter Tryz.func142,Tryz.ntmps142
 go_wp2_with fail
 go_region_held3 (fun w'=>w'.cell? (aq w.heap.size 0)=some (iv k1)/\w'.cell? (aq w.heap.size 1)=some (iv k2)/\w'.cell? (aq p 2)=some (iv a1)/\w'.cell? (aq p 3)=some (iv a2)) (simp [go_sem, *])
  (first|(go_at_call 129;refine (HB1.out _ bL).mono ?_;rintro e w1 ⟨rfl,b⟩
          have e0:=(b.cell (p:=(aq w.heap.size 0)) (by simp<;>omega)).trans (by simp [go_sem, *]:_=some (iv k1))
          have e1:=(b.cell (p:=(aq w.heap.size 1)) (by simp<;>omega)).trans (by simp [go_sem, *]:_=some (iv k2))
          have e2:=(b.cell (p:=(aq p 2)) (by simp<;>omega)).trans (by simp [go_sem, *]:_=some (iv a1))
          have e3:=(b.cell (p:=(aq p 3)) (by simp<;>omega)).trans (by simp [go_sem, *]:_=some (iv a2))))
 clear e0 e1 e2 e3
 have hbw1:Below w.heap.size w w1:=Below.trans (show Below w.heap.size w _ from bL) (b.mono (by simp<;>omega))
 have hkw1:w1.heap[w.heap.size]?=some (.cells #[iv k1,iv k2,iv v] 202 (0,0)):=(b.block _ (by simp<;>omega)).trans (heap_alloc_new _ _)
 clear c2 c3 b
 have c0:=(hbw1.cell (p:=(aq p 0)) hpw).trans z0
 have c1:=(hbw1.cell (p:=(aq p 1)) hpw).trans z1
 have c2:=(hbw1.cell (p:=(aq p 2)) hpw).trans z2
 have c3:=(hbw1.cell (p:=(aq p 3)) hpw).trans z3
 have c4:=(hbw1.cell (p:=(aq p 4)) hpw).trans z4
 have hpxw1:p<w1.heap.size:=Nat.lt_of_lt_of_le hpw hbw1.size
 have hexw1:w.heap.size<w1.heap.size:=(blt hkw1)
 obtain ⟨q0,q1,q2⟩:=jb3 hkw1
 cases ah
 ·go_wp2_with fail
  go_region_held3 (fun w'=>w'.cell? (aq w.heap.size 0)=some (iv k1)/\w'.cell? (aq w.heap.size 1)=some (iv k2)/\w'.cell? (aq p 2)=some (iv a1)/\w'.cell? (aq p 3)=some (iv a2)) (simp [go_sem, *])
   (first|(go_at_call 129;refine (HB2.out _ bL).mono ?_;rintro e w2 ⟨rfl,b⟩
           have e0:=(b.cell (p:=(aq w.heap.size 0)) (by simp<;>omega)).trans (by simp [go_sem, *]:_=some (iv k1))
           have e1:=(b.cell (p:=(aq w.heap.size 1)) (by simp<;>omega)).trans (by simp [go_sem, *]:_=some (iv k2))
           have e2:=(b.cell (p:=(aq p 2)) (by simp<;>omega)).trans (by simp [go_sem, *]:_=some (iv a1))
           have e3:=(b.cell (p:=(aq p 3)) (by simp<;>omega)).trans (by simp [go_sem, *]:_=some (iv a2))))
  clear e0 e1 e2 e3
  have hbw2:Below w.heap.size w w2:=Below.trans (show Below w.heap.size w _ from bL) (b.mono (by simp<;>omega))
  have hkw2:w2.heap[w.heap.size]?=some (.cells #[iv k1,iv k2,iv v] 202 (0,0)):=(b.block _ (by simp<;>omega)).trans (hkw1)
  clear c0 c1 c2 c3 c4 q0 q1 q2 b hbw1 hkw1 hpxw1 hexw1
  have c0:=(hbw2.cell (p:=(aq p 0)) hpw).trans z0
  have c1:=(hbw2.cell (p:=(aq p 1)) hpw).trans z1
  have c2:=(hbw2.cell (p:=(aq p 2)) hpw).trans z2
  have c3:=(hbw2.cell (p:=(aq p 3)) hpw).trans z3
  have c4:=(hbw2.cell (p:=(aq p 4)) hpw).trans z4
  have hpxw2:p<w2.heap.size:=Nat.lt_of_lt_of_le hpw hbw2.size
  have hexw2:w.heap.size<w2.heap.size:=(blt hkw2)
  obtain ⟨q0,q1,q2⟩:=jb3 hkw2
  cases ah2
  ·have HJ2:Hid _:=HJ.out (by trivial) (by trivial) _ hbw2
   clear HBL HBR HL HR
   go_wp2_with fail
   go_region_held3 (fun w'=>w'.cell? (aq p 0)=some (.pointer l.addr)/\w'.cell? (aq w.heap.size 0)=some (iv k1)/\w'.cell? (aq w.heap.size 1)=some (iv k2)/\w'.cell? (aq w.heap.size 2)=some (iv v)/\w'.cell? (aq p 1)=some (.pointer r.addr)) (simp [go_sem, *])
    (first|(go_at_call 164;refine (HJ2.out _ bL).mono ?_;rintro e w3 ⟨t3,rfl,m,b⟩
            have e0:=(b.cell (p:=(aq p 0)) (by simp<;>omega)).trans (by simp [go_sem, *]:_=some (.pointer l.addr))
            have e1:=(b.cell (p:=(aq w.heap.size 0)) (by simp<;>omega)).trans (by simp [go_sem, *]:_=some (iv k1))
            have e2:=(b.cell (p:=(aq w.heap.size 1)) (by simp<;>omega)).trans (by simp [go_sem, *]:_=some (iv k2))
            have e3:=(b.cell (p:=(aq w.heap.size 2)) (by simp<;>omega)).trans (by simp [go_sem, *]:_=some (iv v))
            have e4:=(b.cell (p:=(aq p 1)) (by simp<;>omega)).trans (by simp [go_sem, *]:_=some (.pointer r.addr))))
   clear e0 e1 e2 e3 e4
   go_wp2
   go_ret
   exact ⟨_,rfl,m⟩
  ·have HR2:Hid _:=HR.out _ hbw2
   go_wp2_with fail
   go_region_held3 (fun w'=>w'.cell? (aq p 1)=some (.pointer r.addr)/\w'.cell? (aq w.heap.size 0)=some (iv k1)/\w'.cell? (aq w.heap.size 1)=some (iv k2)/\w'.cell? (aq w.heap.size 2)=some (iv v)) (simp [go_sem, *])
    (first|(go_at_call 142;refine (HR2.out _ bL).mono ?_;rintro e w3 ⟨t3,rfl,m,b⟩
            have e0:=(b.cell (p:=(aq p 1)) (by simp<;>omega)).trans (by simp [go_sem, *]:_=some (.pointer r.addr))
            have e1:=(b.cell (p:=(aq w.heap.size 0)) (by simp<;>omega)).trans (by simp [go_sem, *]:_=some (iv k1))
            have e2:=(b.cell (p:=(aq w.heap.size 1)) (by simp<;>omega)).trans (by simp [go_sem, *]:_=some (iv k2))
            have e3:=(b.cell (p:=(aq w.heap.size 2)) (by simp<;>omega)).trans (by simp [go_sem, *]:_=some (iv v))))
   clear e0 e1 e2 e3
   have HB3:Hid _:=HBR.out (by trivial) _ _ m
   have d0:=(m.2.2.1.cell (p:=(aq p 0)) hpw).trans z0
   have d1:=(m.2.2.1.cell (p:=(aq p 1)) hpw).trans z1
   have d2:=(m.2.2.1.cell (p:=(aq p 2)) hpw).trans z2
   have d3:=(m.2.2.1.cell (p:=(aq p 3)) hpw).trans z3
   have d4:=(m.2.2.1.cell (p:=(aq p 4)) hpw).trans z4
   have hpx3:p<w3.heap.size:=Nat.lt_of_lt_of_le hpw m.2.2.1.size
   clear c0 c1 c2 c3 c4 q0 q1 q2 b z0 z1 z2 z3 z4 HBL HBR HJ HL HR
   go_wp2_with fail
   go_region_held3 (fun w'=>w'.cell? (aq p 0)=some (.pointer l.addr)/\w'.cell? (aq p 2)=some (iv a1)/\w'.cell? (aq p 3)=some (iv a2)/\w'.cell? (aq p 4)=some (iv av)) (simp [go_sem, *])
    (first|(go_at_call 165;refine (HB3.out _ bL).mono ?_;rintro e w4 ⟨t4,rfl,m4,b⟩
            have e0:=(b.cell (p:=(aq p 0)) (by simp<;>omega)).trans (by simp [go_sem, *]:_=some (.pointer l.addr))
            have e1:=(b.cell (p:=(aq p 2)) (by simp<;>omega)).trans (by simp [go_sem, *]:_=some (iv a1))
            have e2:=(b.cell (p:=(aq p 3)) (by simp<;>omega)).trans (by simp [go_sem, *]:_=some (iv a2))
            have e3:=(b.cell (p:=(aq p 4)) (by simp<;>omega)).trans (by simp [go_sem, *]:_=some (iv av))))
   clear e0 e1 e2 e3
   go_wp2
   go_ret
   exact ⟨_,rfl,m4⟩
 ·have HL2:Hid _:=HL.out _ hbw1
  go_wp2_with fail
  go_region_held3 (fun w'=>w'.cell? (aq p 0)=some (.pointer l.addr)/\w'.cell? (aq w.heap.size 0)=some (iv k1)/\w'.cell? (aq w.heap.size 1)=some (iv k2)/\w'.cell? (aq w.heap.size 2)=some (iv v)) (simp [go_sem, *])
   (first|(go_at_call 142;refine (HL2.out _ bL).mono ?_;rintro e w3 ⟨t3,rfl,m,b⟩
           have e0:=(b.cell (p:=(aq p 0)) (by simp<;>omega)).trans (by simp [go_sem, *]:_=some (.pointer l.addr))
           have e1:=(b.cell (p:=(aq w.heap.size 0)) (by simp<;>omega)).trans (by simp [go_sem, *]:_=some (iv k1))
           have e2:=(b.cell (p:=(aq w.heap.size 1)) (by simp<;>omega)).trans (by simp [go_sem, *]:_=some (iv k2))
           have e3:=(b.cell (p:=(aq w.heap.size 2)) (by simp<;>omega)).trans (by simp [go_sem, *]:_=some (iv v))))
  clear e0 e1 e2 e3
  have HB3:Hid _:=HBL.out (by trivial) _ _ m
  have d0:=(m.2.2.1.cell (p:=(aq p 0)) hpw).trans z0
  have d1:=(m.2.2.1.cell (p:=(aq p 1)) hpw).trans z1
  have d2:=(m.2.2.1.cell (p:=(aq p 2)) hpw).trans z2
  have d3:=(m.2.2.1.cell (p:=(aq p 3)) hpw).trans z3
  have d4:=(m.2.2.1.cell (p:=(aq p 4)) hpw).trans z4
  have hpx3:p<w3.heap.size:=Nat.lt_of_lt_of_le hpw m.2.2.1.size
  clear c0 c1 c2 c3 c4 q0 q1 q2 b z0 z1 z2 z3 z4 HBL HBR HJ HL HR
  go_wp2_with fail
  go_region_held3 (fun w'=>w'.cell? (aq p 2)=some (iv a1)/\w'.cell? (aq p 3)=some (iv a2)/\w'.cell? (aq p 4)=some (iv av)/\w'.cell? (aq p 1)=some (.pointer r.addr)) (simp [go_sem, *])
   (first|(go_at_call 165;refine (HB3.out _ bL).mono ?_;rintro e w4 ⟨t4,rfl,m4,b⟩
           have e0:=(b.cell (p:=(aq p 2)) (by simp<;>omega)).trans (by simp [go_sem, *]:_=some (iv a1))
           have e1:=(b.cell (p:=(aq p 3)) (by simp<;>omega)).trans (by simp [go_sem, *]:_=some (iv a2))
           have e2:=(b.cell (p:=(aq p 4)) (by simp<;>omega)).trans (by simp [go_sem, *]:_=some (iv av))
           have e3:=(b.cell (p:=(aq p 1)) (by simp<;>omega)).trans (by simp [go_sem, *]:_=some (.pointer r.addr))))
  clear e0 e1 e2 e3
  go_wp2
  go_ret
  exact ⟨_,rfl,m4⟩
theorem jx5 (k1 k2 v:Int) (w:World) :
 Calls Tryz.prog 142 #[.pointer none,.agg #[iv k1,iv k2,iv v]] w fun e w'=>∃ t:Tr,e=.returned (.pointer t.addr)/\mk w w' (fun _=>False) [((k1,k2),v)] t:=by
 have HJ:Hid (jcu 164 #[.pointer none,.agg #[iv k1,iv k2,iv v],.pointer none] w w (fun _=>False) [((k1,k2),v)]):=jbc .leaf .leaf (k1,k2) v trivial trivial (Below.refl _ _) (fun n hn=>(hn.elim id id).elim) rfl
 go_enter Tryz.func142,Tryz.ntmps142
 go_wp2_with (go_at_call 164;refine (HJ.out _ bL).mono ?_;rintro e w1 ⟨t,rfl,m,b⟩)
 go_ret
 exact ⟨_,rfl,m⟩
theorem jl6 (k1 k2 v:Int):∀ (t:Tr) (w:World),t.at w->srt t.toL →
 Calls Tryz.prog 142 #[.pointer t.addr,.agg #[iv k1,iv k2,iv v]] w fun e w'=>∃ t':Tr,e=.returned (.pointer t'.addr)/\mk w w' (fun n=>t.has n) (jbl (k1,k2) v t.toL) t'
 | .leaf,w,_,_=>(jx5 k1 k2 v w).mono (by rintro e w' ⟨t,rfl,h⟩;exact ⟨t,rfl,je3 h (fun _ hn=>hn.elim)⟩)
 | .node p l (a1,a2) av h r,w,ha,hs=>by
   obtain ⟨hp,h1,h2⟩:=ha
   have hs':srt (l.toL++((a1,a2),av) :: r.toL):=hs
   have hsl:=(jbx.1 hs').1
   have hsr:=(jbx.1 hs').2.1
   refine qaf p l r a1 a2 av h k1 k2 v w ⟨hp,h1,h2⟩ _ _ (jbl (k1,k2) v l.toL) (jbl (k1,k2) v r.toL) ?_ ?_ ?_ ?_ ?_
   ·exact fun w1 hb=>jd9 hb (fun W hW=>(jl6 k1 k2 v l W (l.at_below (l.at_below h1 hb) hW) hsl).mono (by rintro e w' ⟨t,rfl,h⟩;exact ⟨t,rfl,je3 h (fun n hn=>.inl (.inr (.inl hn)))⟩)) rfl
   ·exact fun w1 hb=>jd9 hb (fun W hW=>(jl6 k1 k2 v r W (r.at_below (r.at_below h2 hb) hW) hsr).mono (by rintro e w' ⟨t,rfl,h⟩;exact ⟨t,rfl,je3 h (fun n hn=>.inl (.inr (.inr hn)))⟩)) rfl
   ·intro hh w1 t1 m
    exact jdz t1 r (a1,a2) av m.1 (r.at_below h2 m.2.2.1) m.2.2.1 (fun n hn=>hn.elim (m.2.2.2 n) (fun h=>.inl (.inr (.inr h)))) (by rw [m.2.1,Tr.toL_node,qbo hs' hh])
   ·intro hh w1 t1 m
    exact jdz l t1 (a1,a2) av (l.at_below h1 m.2.2.1) m.1 m.2.2.1 (fun n hn=>hn.elim (fun h=>.inl (.inr (.inl h))) (m.2.2.2 n)) (by rw [m.2.1,Tr.toL_node,jyk hs' hh])
   ·intro ha hb w1 hw
    exact jbc l r (k1,k2) v (l.at_below h1 hw) (r.at_below h2 hw) hw (fun n hn=>.inl (.inr hn)) (by rw [Tr.toL_node,jug hs' (jix hb ha)])
theorem jqy (p:Nat) (l r:Tr) (a1 a2 av h k1 k2:Int) (w:World) (ha:Tr.at w (.node p l (a1,a2) av h r)) (S:Nat->Prop) (LL Ll Lr:List Ent)
 (HL:Hid (∀ w1,Below w.heap.size w w1->jcu 166 #[.pointer l.addr,.agg #[iv k1,iv k2]] w w1 S Ll))
 (HR:Hid (∀ w1,Below w.heap.size w w1->jcu 166 #[.pointer r.addr,.agg #[iv k1,iv k2]] w w1 S Lr))
 (HBL:Hid (jac (k1,k2) (a1,a2)=true->∀ w1 t1,mk w w1 S Ll t1->jcu 165 #[.pointer t1.addr,.agg #[iv a1,iv a2,iv av],.pointer r.addr] w w1 S LL))
 (HBR:Hid (jac (a1,a2) (k1,k2)=true->∀ w1 t1,mk w w1 S Lr t1->jcu 165 #[.pointer l.addr,.agg #[iv a1,iv a2,iv av],.pointer t1.addr] w w1 S LL))
 (HJ:Hid (jac (k1,k2) (a1,a2)=false->jac (a1,a2) (k1,k2)=false->∀ w1,Below w.heap.size w w1->jcu 182 #[.pointer l.addr,.pointer r.addr] w w1 S LL)) :
 Calls Tryz.prog 166 #[pt p 0,.agg #[iv k1,iv k2]] w fun e w'=>∃ t:Tr,e=.returned (.pointer t.addr)/\mk w w' S LL t:=by
 obtain ⟨hp,h1,h2⟩:=ha
 have hpw:p<w.heap.size:=(blt hp)
 obtain ⟨z0,z1,z2,z3,z4,-⟩:=jcj hp
 simp only [Tr.ptr] at z0 z1
 have HB1:Hid (∀ W,Below w.heap.size w W->Calls Tryz.prog 129 #[.agg #[iv k1,iv k2],.agg #[iv a1,iv a2]] W fun e w'=>e=.returned (.bool (jac (k1,k2) (a1,a2)))/\Below W.heap.size W w'):=fun W _=>jez (k1,k2) (a1,a2) W
 have HB2:Hid (∀ W,Below w.heap.size w W->Calls Tryz.prog 129 #[.agg #[iv a1,iv a2],.agg #[iv k1,iv k2]] W fun e w'=>e=.returned (.bool (jac (a1,a2) (k1,k2)))/\Below W.heap.size W w'):=fun W _=>jez (a1,a2) (k1,k2) W
 generalize jac (k1,k2) (a1,a2)=ah at HBL HJ HB1
 generalize jac (a1,a2) (k1,k2)=ah2 at HBR HJ HB2
 clear hp h1 h2
 have c2:=z2
 have c3:=z3
 go_enter Tryz.func166,Tryz.ntmps166
 go_wp2_with fail
 go_region_held3 (fun w'=>w'.cell? (aq w.heap.size 0)=some (iv k1)/\w'.cell? (aq w.heap.size 1)=some (iv k2)/\w'.cell? (aq p 2)=some (iv a1)/\w'.cell? (aq p 3)=some (iv a2)) (simp [go_sem, *])
  (first|(go_at_call 129;refine (HB1.out _ bL).mono ?_;rintro e w1 ⟨rfl,b⟩
          have e0:=(b.cell (p:=(aq w.heap.size 0)) (by simp<;>omega)).trans (by simp [go_sem, *]:_=some (iv k1))
          have e1:=(b.cell (p:=(aq w.heap.size 1)) (by simp<;>omega)).trans (by simp [go_sem, *]:_=some (iv k2))
          have e2:=(b.cell (p:=(aq p 2)) (by simp<;>omega)).trans (by simp [go_sem, *]:_=some (iv a1))
          have e3:=(b.cell (p:=(aq p 3)) (by simp<;>omega)).trans (by simp [go_sem, *]:_=some (iv a2))))
 clear e0 e1 e2 e3
 have hbw1:Below w.heap.size w w1:=Below.trans (show Below w.heap.size w _ from bL) (b.mono (by simp<;>omega))
 have hkw1:w1.heap[w.heap.size]?=some (.cells #[iv k1,iv k2] 178 (0,0)):=(b.block _ (by simp<;>omega)).trans (heap_alloc_new _ _)
 clear c2 c3 b
 have c0:=(hbw1.cell (p:=(aq p 0)) hpw).trans z0
 have c1:=(hbw1.cell (p:=(aq p 1)) hpw).trans z1
 have c2:=(hbw1.cell (p:=(aq p 2)) hpw).trans z2
 have c3:=(hbw1.cell (p:=(aq p 3)) hpw).trans z3
 have c4:=(hbw1.cell (p:=(aq p 4)) hpw).trans z4
 have hpxw1:p<w1.heap.size:=Nat.lt_of_lt_of_le hpw hbw1.size
 have hexw1:w.heap.size<w1.heap.size:=(blt hkw1)
 obtain ⟨q0,q1⟩:=je0 hkw1
 cases ah
 ·go_wp2_with fail
  go_region_held3 (fun w'=>w'.cell? (aq w.heap.size 0)=some (iv k1)/\w'.cell? (aq w.heap.size 1)=some (iv k2)/\w'.cell? (aq p 2)=some (iv a1)/\w'.cell? (aq p 3)=some (iv a2)) (simp [go_sem, *])
   (first|(go_at_call 129;refine (HB2.out _ bL).mono ?_;rintro e w2 ⟨rfl,b⟩
           have e0:=(b.cell (p:=(aq w.heap.size 0)) (by simp<;>omega)).trans (by simp [go_sem, *]:_=some (iv k1))
           have e1:=(b.cell (p:=(aq w.heap.size 1)) (by simp<;>omega)).trans (by simp [go_sem, *]:_=some (iv k2))
           have e2:=(b.cell (p:=(aq p 2)) (by simp<;>omega)).trans (by simp [go_sem, *]:_=some (iv a1))
           have e3:=(b.cell (p:=(aq p 3)) (by simp<;>omega)).trans (by simp [go_sem, *]:_=some (iv a2))))
  clear e0 e1 e2 e3
  have hbw2:Below w.heap.size w w2:=Below.trans (show Below w.heap.size w _ from bL) (b.mono (by simp<;>omega))
  have hkw2:w2.heap[w.heap.size]?=some (.cells #[iv k1,iv k2] 178 (0,0)):=(b.block _ (by simp<;>omega)).trans (hkw1)
  clear c0 c1 c2 c3 c4 q0 q1 b hbw1 hkw1 hpxw1 hexw1
  have c0:=(hbw2.cell (p:=(aq p 0)) hpw).trans z0
  have c1:=(hbw2.cell (p:=(aq p 1)) hpw).trans z1
  have c2:=(hbw2.cell (p:=(aq p 2)) hpw).trans z2
  have c3:=(hbw2.cell (p:=(aq p 3)) hpw).trans z3
  have c4:=(hbw2.cell (p:=(aq p 4)) hpw).trans z4
  have hpxw2:p<w2.heap.size:=Nat.lt_of_lt_of_le hpw hbw2.size
  have hexw2:w.heap.size<w2.heap.size:=(blt hkw2)
  obtain ⟨q0,q1⟩:=je0 hkw2
  cases ah2
  ·have HJ2:Hid _:=HJ.out (by trivial) (by trivial) _ hbw2
   clear HBL HBR HL HR
   go_wp2_with fail
   go_region_held3 (fun w'=>w'.cell? (aq p 0)=some (.pointer l.addr)/\w'.cell? (aq p 1)=some (.pointer r.addr)) (simp [go_sem, *])
    (first|(go_at_call 182;refine (HJ2.out _ bL).mono ?_;rintro e w3 ⟨t3,rfl,m,b⟩
            have e0:=(b.cell (p:=(aq p 0)) (by simp<;>omega)).trans (by simp [go_sem, *]:_=some (.pointer l.addr))
            have e1:=(b.cell (p:=(aq p 1)) (by simp<;>omega)).trans (by simp [go_sem, *]:_=some (.pointer r.addr))))
   clear e0 e1
   go_wp2
   go_ret
   exact ⟨_,rfl,m⟩
  ·have HR2:Hid _:=HR.out _ hbw2
   go_wp2_with fail
   go_region_held3 (fun w'=>w'.cell? (aq p 1)=some (.pointer r.addr)/\w'.cell? (aq w.heap.size 0)=some (iv k1)/\w'.cell? (aq w.heap.size 1)=some (iv k2)) (simp [go_sem, *])
    (first|(go_at_call 166;refine (HR2.out _ bL).mono ?_;rintro e w3 ⟨t3,rfl,m,b⟩
            have e0:=(b.cell (p:=(aq p 1)) (by simp<;>omega)).trans (by simp [go_sem, *]:_=some (.pointer r.addr))
            have e1:=(b.cell (p:=(aq w.heap.size 0)) (by simp<;>omega)).trans (by simp [go_sem, *]:_=some (iv k1))
            have e2:=(b.cell (p:=(aq w.heap.size 1)) (by simp<;>omega)).trans (by simp [go_sem, *]:_=some (iv k2))))
   clear e0 e1 e2
   have HB3:Hid _:=HBR.out (by trivial) _ _ m
   have d0:=(m.2.2.1.cell (p:=(aq p 0)) hpw).trans z0
   have d1:=(m.2.2.1.cell (p:=(aq p 1)) hpw).trans z1
   have d2:=(m.2.2.1.cell (p:=(aq p 2)) hpw).trans z2
   have d3:=(m.2.2.1.cell (p:=(aq p 3)) hpw).trans z3
   have d4:=(m.2.2.1.cell (p:=(aq p 4)) hpw).trans z4
   have hpx3:p<w3.heap.size:=Nat.lt_of_lt_of_le hpw m.2.2.1.size
   clear c0 c1 c2 c3 c4 q0 q1 b z0 z1 z2 z3 z4 HBL HBR HJ HL HR
   go_wp2_with fail
   go_region_held3 (fun w'=>w'.cell? (aq p 0)=some (.pointer l.addr)/\w'.cell? (aq p 2)=some (iv a1)/\w'.cell? (aq p 3)=some (iv a2)/\w'.cell? (aq p 4)=some (iv av)) (simp [go_sem, *])
    (first|(go_at_call 165;refine (HB3.out _ bL).mono ?_;rintro e w4 ⟨t4,rfl,m4,b⟩
            have e0:=(b.cell (p:=(aq p 0)) (by simp<;>omega)).trans (by simp [go_sem, *]:_=some (.pointer l.addr))
            have e1:=(b.cell (p:=(aq p 2)) (by simp<;>omega)).trans (by simp [go_sem, *]:_=some (iv a1))
            have e2:=(b.cell (p:=(aq p 3)) (by simp<;>omega)).trans (by simp [go_sem, *]:_=some (iv a2))
            have e3:=(b.cell (p:=(aq p 4)) (by simp<;>omega)).trans (by simp [go_sem, *]:_=some (iv av))))
   clear e0 e1 e2 e3
   go_wp2
   go_ret
   exact ⟨_,rfl,m4⟩
 ·have HL2:Hid _:=HL.out _ hbw1
  go_wp2_with fail
  go_region_held3 (fun w'=>w'.cell? (aq p 0)=some (.pointer l.addr)/\w'.cell? (aq w.heap.size 0)=some (iv k1)/\w'.cell? (aq w.heap.size 1)=some (iv k2)) (simp [go_sem, *])
   (first|(go_at_call 166;refine (HL2.out _ bL).mono ?_;rintro e w3 ⟨t3,rfl,m,b⟩
           have e0:=(b.cell (p:=(aq p 0)) (by simp<;>omega)).trans (by simp [go_sem, *]:_=some (.pointer l.addr))
           have e1:=(b.cell (p:=(aq w.heap.size 0)) (by simp<;>omega)).trans (by simp [go_sem, *]:_=some (iv k1))
           have e2:=(b.cell (p:=(aq w.heap.size 1)) (by simp<;>omega)).trans (by simp [go_sem, *]:_=some (iv k2))))
  clear e0 e1 e2
  have HB3:Hid _:=HBL.out (by trivial) _ _ m
  have d0:=(m.2.2.1.cell (p:=(aq p 0)) hpw).trans z0
  have d1:=(m.2.2.1.cell (p:=(aq p 1)) hpw).trans z1
  have d2:=(m.2.2.1.cell (p:=(aq p 2)) hpw).trans z2
  have d3:=(m.2.2.1.cell (p:=(aq p 3)) hpw).trans z3
  have d4:=(m.2.2.1.cell (p:=(aq p 4)) hpw).trans z4
  have hpx3:p<w3.heap.size:=Nat.lt_of_lt_of_le hpw m.2.2.1.size
  clear c0 c1 c2 c3 c4 q0 q1 b z0 z1 z2 z3 z4 HBL HBR HJ HL HR
  go_wp2_with fail
  go_region_held3 (fun w'=>w'.cell? (aq p 2)=some (iv a1)/\w'.cell? (aq p 3)=some (iv a2)/\w'.cell? (aq p 4)=some (iv av)/\w'.cell? (aq p 1)=some (.pointer r.addr)) (simp [go_sem, *])
   (first|(go_at_call 165;refine (HB3.out _ bL).mono ?_;rintro e w4 ⟨t4,rfl,m4,b⟩
           have e0:=(b.cell (p:=(aq p 2)) (by simp<;>omega)).trans (by simp [go_sem, *]:_=some (iv a1))
           have e1:=(b.cell (p:=(aq p 3)) (by simp<;>omega)).trans (by simp [go_sem, *]:_=some (iv a2))
           have e2:=(b.cell (p:=(aq p 4)) (by simp<;>omega)).trans (by simp [go_sem, *]:_=some (iv av))
           have e3:=(b.cell (p:=(aq p 1)) (by simp<;>omega)).trans (by simp [go_sem, *]:_=some (.pointer r.addr))))
  clear e0 e1 e2 e3
  go_wp2
  go_ret
  exact ⟨_,rfl,m4⟩
theorem juy (la:Option Addr) (p:Nat) (a1 a2 av:Int) (w:World) (S:Nat->Prop) (LL Lr:List Ent)
 (HF:Hid (∀ W,Below w.heap.size w W->Calls Tryz.prog 144 #[pt p 0] W fun e w'=>e=.returned (.agg #[iv a1,iv a2,iv av])/\Below W.heap.size W w'))
 (HR:Hid (∀ w1,Below w.heap.size w w1->jcu 166 #[pt p 0,.agg #[iv a1,iv a2]] w w1 S Lr))
 (HB:Hid (∀ w1 t1,mk w w1 S Lr t1->jcu 165 #[.pointer la,.agg #[iv a1,iv a2,iv av],.pointer t1.addr] w w1 S LL)) :
 Calls Tryz.prog 182 #[.pointer la,pt p 0] w fun e w'=>∃ t:Tr,e=.returned (.pointer t.addr)/\mk w w' S LL t:=by
 go_enter Tryz.func182,Tryz.ntmps182
 go_wp2_with fail
 refine (HF.out _ bL).mono ?_
 rintro e w1 ⟨rfl,b1⟩
 have HR2:Hid _:=HR.out _ b1
 go_wp2_with fail
 refine (HR2.out _ bL).mono ?_
 rintro e w2 ⟨t,rfl,m,b2⟩
 have hk:w2.heap[w1.heap.size]?=some (.cells #[iv a1,iv a2,iv av] 202 (0,0)):=(b2.block _ (by simp)).trans (heap_alloc_new _ _)
 obtain ⟨q0,q1,q2⟩:=jb3 hk
 have HB3:Hid _:=HB.out _ _ m
 go_wp2_with (go_at_call 165;refine (HB3.out _ bL).mono ?_;rintro e w3 ⟨t3,rfl,m3,b3⟩)
 go_ret
 exact ⟨_,rfl,m3⟩
theorem jwh (l:Tr) (w:World) (hl:l.at w) :
 Calls Tryz.prog 182 #[.pointer l.addr,.pointer none] w fun e w'=>∃ t:Tr,e=.returned (.pointer t.addr)/\mk w w' (fun n=>l.has n) l.toL t:=by
 have HM:Hid (mk w w (fun n=>l.has n) l.toL l):=⟨hl,rfl,Below.refl _ _,fun n hn=>.inl hn⟩
 clear hl
 go_enter Tryz.func182,Tryz.ntmps182
 go_wp2
 go_ret
 exact ⟨l,rfl,HM.out⟩
theorem jr2 (k1 k2:Int) (w:World) :
 Calls Tryz.prog 166 #[.pointer none,.agg #[iv k1,iv k2]] w fun e w'=>∃ t:Tr,e=.returned (.pointer t.addr)/\mk w w' (fun _=>False) [] t:=by
 go_enter Tryz.func166,Tryz.ntmps166
 go_wp2
 go_ret
 exact ⟨.leaf,rfl,trivial,rfl,bL,fun n hn=>hn.elim⟩
theorem jq0 {t:Tr} (h:t.toL≠[]):∃ l,t.toL=jfg t :: l:=by
 unfold jfg
 cases hc:t.toL with
 | nil=>exact absurd hc h
 | cons x xs=>exact ⟨xs,rfl⟩
def jnp (t:Tr):Prop:=∀ (k1 k2:Int) (w:World),t.at w->srt t.toL →
 Calls Tryz.prog 166 #[.pointer t.addr,.agg #[iv k1,iv k2]] w fun e w'=>∃ t':Tr,e=.returned (.pointer t'.addr)/\mk w w' (fun n=>t.has n) (jd0 (k1,k2) t.toL) t'
theorem jzj (l r:Tr) (w:World) (hl:l.at w) (hr:r.at w) (hs:srt r.toL) (hw:jnp r) :
 Calls Tryz.prog 182 #[.pointer l.addr,.pointer r.addr] w fun e w'=>∃ t:Tr,e=.returned (.pointer t.addr)/\mk w w' (fun n=>l.has n\/r.has n) (l.toL++r.toL) t:=by
 cases r with
 | leaf=>exact (jwh l w hl).mono (by rintro e w' ⟨t,rfl,h⟩;exact ⟨t,rfl,by have:=je3 (S:=fun n=>l.has n\/Tr.leaf.has n) h (fun n hn=>.inl hn);simpa [Tr.toL] using this⟩)
 | node p rl rk rv rh rr =>
   obtain ⟨rest,hx⟩:=jq0 (t:=.node p rl rk rv rh rr) (by simp [Tr.toL])
   have hd:jd0 (jfg (.node p rl rk rv rh rr)).1 (Tr.toL (.node p rl rk rv rh rr))=rest:=by
    have h:=hs
    rw [hx] at h ⊢
    exact jps (A:=[]) h rfl
   have hfo:∀ W,Below w.heap.size w W->Tr.at W (.node p rl rk rv rh rr):=fun W hW=>Tr.at_below hr hW
   generalize hF:jfg (.node p rl rk rv rh rr)=F at hx hd
   obtain ⟨⟨a1,a2⟩,av⟩:=F
   refine juy l.addr p a1 a2 av w _ _ rest ?_ ?_ ?_
   ·intro W hW
    have:=jmk p rl rr rk rv rh W (hfo W hW)
    rw [hF] at this
    exact this
   ·intro w1 hb
    exact jd9 hb (fun W hW=>(hw a1 a2 W (Tr.at_below (hfo w1 hb) hW) hs).mono (by rintro e w' ⟨t,rfl,h⟩;exact ⟨t,rfl,je3 h (fun n hn=>.inl (.inr hn))⟩)) hd
   ·intro w1 t1 m
    exact jdz l t1 (a1,a2) av (l.at_below hl m.2.2.1) m.1 m.2.2.1 (fun n hn=>hn.elim (fun h=>.inl (.inl h)) (m.2.2.2 n)) (by rw [m.2.1,hx])
theorem jg4:∀ t:Tr,jnp t
 | .leaf=>fun k1 k2 w _ _=>(jr2 k1 k2 w).mono (by rintro e w' ⟨t,rfl,h⟩;exact ⟨t,rfl,je3 h (fun _ hn=>hn.elim)⟩)
 | .node p l (a1,a2) av h r=>fun k1 k2 w ha hs=>by
   obtain ⟨hp,h1,h2⟩:=ha
   have hs':srt (l.toL++((a1,a2),av) :: r.toL):=hs
   have hsl:=(jbx.1 hs').1
   have hsr:=(jbx.1 hs').2.1
   refine jqy p l r a1 a2 av h k1 k2 w ⟨hp,h1,h2⟩ _ _ (jd0 (k1,k2) l.toL) (jd0 (k1,k2) r.toL) ?_ ?_ ?_ ?_ ?_
   ·exact fun w1 hb=>jd9 hb (fun W hW=>(jg4 l k1 k2 W (l.at_below (l.at_below h1 hb) hW) hsl).mono (by rintro e w' ⟨t,rfl,h⟩;exact ⟨t,rfl,je3 h (fun n hn=>.inl (.inr (.inl hn)))⟩)) rfl
   ·exact fun w1 hb=>jd9 hb (fun W hW=>(jg4 r k1 k2 W (r.at_below (r.at_below h2 hb) hW) hsr).mono (by rintro e w' ⟨t,rfl,h⟩;exact ⟨t,rfl,je3 h (fun n hn=>.inl (.inr (.inr hn)))⟩)) rfl
   ·intro hh w1 t1 m
    exact jdz t1 r (a1,a2) av m.1 (r.at_below h2 m.2.2.1) m.2.2.1 (fun n hn=>hn.elim (m.2.2.2 n) (fun h=>.inl (.inr (.inr h)))) (by rw [m.2.1,Tr.toL_node,qcz hs' hh])
   ·intro hh w1 t1 m
    exact jdz l t1 (a1,a2) av (l.at_below h1 m.2.2.1) m.1 m.2.2.1 (fun n hn=>hn.elim (fun h=>.inl (.inr (.inl h))) (m.2.2.2 n)) (by rw [m.2.1,Tr.toL_node,jz3 hs' hh])
   ·intro ha hb w1 hw
    exact jd9 hw (fun W hW=>(jzj l r W (l.at_below (l.at_below h1 hw) hW) (r.at_below (r.at_below h2 hw) hW) hsr (jg4 r)).mono (by rintro e w' ⟨t,rfl,h⟩;exact ⟨t,rfl,je3 h (fun n hn=>.inl (.inr hn))⟩)) (by rw [Tr.toL_node,jps hs' (jix hb ha)])
end Go.Proofs.YtfhncfghblkgeaaGreat
