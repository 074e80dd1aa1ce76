import Derived.Test.YtfhncfghblkgeabGreatL05
set_option maxRecDepth 100000
set_option maxHeartbeats 2000000
namespace Go.Proofs.YtfhncfghblkgeabGreat
open Go.RowKit
theorem Wo {w W w':World} {S S':Nat->Prop} {L:List Ent} {t:Tr} (h:mk W w' S' L t) (hb:Bl w W) (hS:∀ n,S' n->S n\/w.heap.size<=n):mk w w' S L t:=by
 obtain ⟨h1,h2,h3,h4⟩:=h
 refine ⟨h1,h2,uL hb (h3.mono hb.size),fun n hn=>?_⟩
 rcases h4 n hn with h|h
 ·exact hS n h
 ·exact .inr (uX hb.size h)
def jW (f:Nat) (args:Array Value) (w w2:World) (S:Nat->Prop) (L:List Ent):Prop :=
 ∀ W,Below w2.heap.size w2 W->Ca f args W fun e w'=>∃ t:Tr,e=.returned (.pointer t.addr)/\mk w w' S L t/\Below W.heap.size W w'
theorem xN {f:Nat} {args:Array Value} {w w2:World} {S:Nat->Prop} {L L':List Ent} (hb:Below w.heap.size w w2)
 (h:∀ W,Below w2.heap.size w2 W->Ca f args W fun e w'=>∃ t:Tr,e=.returned (.pointer t.addr)/\mk W w' (fun n=>S n\/w.heap.size<=n) L' t) (hL:L'=L):jW f args w w2 S L:=by
 intro W hW
 refine (h W hW).mono ?_
 rintro e w' ⟨t,rfl,hm⟩
 subst hL
 exact ⟨t,rfl,Wo hm (uL hb (hW.mono hb.size)) (fun n hn=>hn),hm.2.2.1⟩
theorem vF {w w':World} {S S':Nat->Prop} {L:List Ent} {t:Tr} (h:mk w w' S' L t) (hS:∀ n,S' n->S n):mk w w' S L t:=⟨h.1,h.2.1,h.2.2.1,fun n hn=>(h.2.2.2 n hn).imp (hS n) id⟩
theorem yR {w w2:World} {S:Nat->Prop} {L:List Ent} (l r:Tr) (k:Int × Int) (v:Int) (hl:l.at w2) (hr:r.at w2) (hb:Bl w w2) (hS:∀ n,l.has n\/r.has n->S n\/w.heap.size<=n) (hL:l.toL++(k,v) :: r.toL=L) :
 jW 158 #[.pointer l.addr,.agg #[iv k.1,iv k.2,iv v],.pointer r.addr] w w2 S L :=
 xN hb (fun W hW=>(Ea l r k v W (l.at_below hl hW) (r.at_below hr hW)).mono (by rintro e w' ⟨t,rfl,h⟩;exact ⟨t,rfl,vF h hS⟩)) hL
theorem mH {l:Tr} {w2:World} (hl:l.at w2):∀ W,Below w2.heap.size w2 W->Ca 169 #[.pointer l.addr] W fun e w'=>(∃ a,e=.returned (iv a))/\W=w' :=
 fun W hW=>(aM l _ (l.at_below hl hW)).mono (by rintro e w' ⟨rfl,rfl⟩;exact ⟨⟨_,rfl⟩,rfl⟩)
theorem pH (p:Nat) (ll r:Tr) (lk k:Int × Int) (lv lh v:Int) (w:World) (hl:Tr.at w (Tr.node p ll lk lv lh Tr.leaf)) (hr:r.at w) :
 Ca 170 #[pt p 0,.agg #[iv k.1,iv k.2,iv v],.pointer r.addr] w fun e w'=>∃ t:Tr,e=.returned (.pointer t.addr)/\mk w w' (fun n=>Tr.has (Tr.node p ll lk lv lh Tr.leaf) n\/r.has n) ((ll.toL++(lk,lv) :: Tr.leaf.toL)++(k,v) :: r.toL) t:=by
 have HS:Hid (∀ n,(Tr.has Tr.leaf n\/ll.has n\/r.has n)->(fun n=>Tr.has (Tr.node p ll lk lv lh Tr.leaf) n\/r.has n) n):=by
  rintro n (h|h|h)
  ·exact .inl (.inr (.inr h))
  ·exact .inl (.inr (.inl h))
  ·exact .inr h
 obtain ⟨hp,h1,h2⟩:=hl
 have hpw:p<w.heap.size:=(blt hp)
 obtain ⟨c0,c1,c2,c3,c4,-⟩:=jN hp
 simp only [Tr.ptr] at c0 c1
 have HB:Hid (Tr.leaf.at w/\ll.at w/\r.at w):=⟨h2,h1,hr⟩
 clear hp h1 h2 hr
 have HJ1:Hid (jW 158 #[.pointer Tr.leaf.addr,.agg #[iv k.1,iv k.2,iv v],.pointer r.addr] w w (fun n=>Tr.has (Tr.node p ll lk lv lh Tr.leaf) n\/r.has n) (Tr.leaf.toL++(k,v) :: r.toL)):=yR Tr.leaf r k v HB.out.1 HB.out.2.2 (uM _ _) (fun n hn=>.inl (hn.elim (fun h=>(HS.out n (.inl h))) (fun h=>(HS.out n (.inr (.inr h)))))) rfl
 have HJ2:Hid (∀ w1 t1,mk w w1 (fun n=>Tr.has (Tr.node p ll lk lv lh Tr.leaf) n\/r.has n) (Tr.leaf.toL++(k,v) :: r.toL) t1->jW 158 #[.pointer ll.addr,.agg #[iv lk.1,iv lk.2,iv lv],.pointer t1.addr] w w1 (fun n=>Tr.has (Tr.node p ll lk lv lh Tr.leaf) n\/r.has n) ((ll.toL++(lk,lv) :: Tr.leaf.toL)++(k,v) :: r.toL)):=by
  intro w1 t1 m
  exact yR ll t1 lk lv (ll.at_below HB.out.2.1 m.2.2.1) m.1 m.2.2.1 (fun n hn=>hn.elim (fun h=>.inl (HS.out n (.inr (.inl h)))) (fun h=>(m.2.2.2 n h))) (by rw [m.2.1];simp)
 clear HB HS
 generalize hLL:((ll.toL++(lk,lv) :: Tr.leaf.toL)++(k,v) :: r.toL)=LL at HJ2
 clear hLL
 generalize hL1:(Tr.leaf.toL++(k,v) :: r.toL)=L1 at HJ1 HJ2
 clear hL1
 generalize hSS:(fun n=>Tr.has (Tr.node p ll lk lv lh Tr.leaf) n\/r.has n)=SS at HJ1 HJ2
 clear hSS
 obtain ⟨k1,k2⟩:=k
 obtain ⟨lk1,lk2⟩:=lk
 simp only [Tr.addr_leaf] at *
 go_enter Tryz.func170,Tryz.ntmps170
 go_wp2_with fail
 go_quiet (fail)
 go_wp2_with fail
 go_region_held3 (fun w'=>w'.cell? (aq p 1)=some (.pointer none)/\w'.cell? (aq w.heap.size 0)=some (iv k1)/\w'.cell? (aq w.heap.size 1)=some (iv k2)/\w'.cell? (aq w.heap.size 2)=some (iv v)) (simp [go_sem, *])
  (first|(go_at_call 158;refine (HJ1.out _ bL).mono ?_;rintro e w1 ⟨t1,rfl,m,b⟩
          have e0:=(b.cell (p:=(aq p 1)) uS).trans (uN:_=some (.pointer none))
          have e1:=(b.cell (p:=(aq w.heap.size 0)) uS).trans (uN:_=some (iv k1))
          have e2:=(b.cell (p:=(aq w.heap.size 1)) uS).trans (uN:_=some (iv k2))
          have e3:=(b.cell (p:=(aq w.heap.size 2)) uS).trans (uN:_=some (iv v))))
 clear e0 e1 e2 e3
 have HJ3:Hid _:=HJ2.out _ _ m
 have hpw1:p<w1.heap.size:=uB hpw m.2.2.1.size
 have d0:=(m.2.2.1.cell (p:=(aq p 0)) hpw).trans c0
 have d2:=(m.2.2.1.cell (p:=(aq p 2)) hpw).trans c2
 have d3:=(m.2.2.1.cell (p:=(aq p 3)) hpw).trans c3
 have d4:=(m.2.2.1.cell (p:=(aq p 4)) hpw).trans c4
 clear c0 c1 c2 c3 c4 b HJ1 HJ2
 go_wp2_with fail
 go_region_held3 (fun w'=>w'.cell? (aq p 0)=some (.pointer ll.addr)/\w'.cell? (aq p 2)=some (iv lk1)/\w'.cell? (aq p 3)=some (iv lk2)/\w'.cell? (aq p 4)=some (iv lv)) (simp [go_sem, *])
  (first|(go_at_call 158;refine (HJ3.out _ bL).mono ?_;rintro e w2 ⟨t2,rfl,m2,b⟩
          have e0:=(b.cell (p:=(aq p 0)) uS).trans (uN:_=some (.pointer ll.addr))
          have e1:=(b.cell (p:=(aq p 2)) uS).trans (uN:_=some (iv lk1))
          have e2:=(b.cell (p:=(aq p 3)) uS).trans (uN:_=some (iv lk2))
          have e3:=(b.cell (p:=(aq p 4)) uS).trans (uN:_=some (iv lv))))
 clear e0 e1 e2 e3
 go_wp2
 go_ret
 exact ⟨_,rfl,m2⟩
theorem Yx (p:Nat) (l rr:Tr) (rk k:Int × Int) (rv rh v:Int) (w:World) (hl:Tr.at w (Tr.node p Tr.leaf rk rv rh rr)) (hr:l.at w) :
 Ca 171 #[.pointer l.addr,.agg #[iv k.1,iv k.2,iv v],pt p 0] w fun e w'=>∃ t:Tr,e=.returned (.pointer t.addr)/\mk w w' (fun n=>l.has n\/Tr.has (Tr.node p Tr.leaf rk rv rh rr) n) (l.toL++(k,v) :: (Tr.leaf.toL++(rk,rv) :: rr.toL)) t:=by
 have HS:Hid (∀ n,(Tr.has Tr.leaf n\/rr.has n\/l.has n)->(fun n=>l.has n\/Tr.has (Tr.node p Tr.leaf rk rv rh rr) n) n):=by
  rintro n (h|h|h)
  ·exact .inr (.inr (.inl h))
  ·exact .inr (.inr (.inr h))
  ·exact .inl h
 obtain ⟨hp,h2,h1⟩:=hl
 have hpw:p<w.heap.size:=(blt hp)
 obtain ⟨c0,c1,c2,c3,c4,-⟩:=jN hp
 simp only [Tr.ptr] at c0 c1
 have HB:Hid (Tr.leaf.at w/\rr.at w/\l.at w):=⟨h2,h1,hr⟩
 clear hp h1 h2 hr
 have HJ1:Hid (jW 158 #[.pointer l.addr,.agg #[iv k.1,iv k.2,iv v],.pointer Tr.leaf.addr] w w (fun n=>l.has n\/Tr.has (Tr.node p Tr.leaf rk rv rh rr) n) (l.toL++(k,v) :: Tr.leaf.toL)):=yR l Tr.leaf k v HB.out.2.2 HB.out.1 (uM _ _) (fun n hn=>.inl (hn.elim (fun h=>(HS.out n (.inr (.inr h)))) (fun h=>(HS.out n (.inl h))))) rfl
 have HJ2:Hid (∀ w1 t1,mk w w1 (fun n=>l.has n\/Tr.has (Tr.node p Tr.leaf rk rv rh rr) n) (l.toL++(k,v) :: Tr.leaf.toL) t1->jW 158 #[.pointer t1.addr,.agg #[iv rk.1,iv rk.2,iv rv],.pointer rr.addr] w w1 (fun n=>l.has n\/Tr.has (Tr.node p Tr.leaf rk rv rh rr) n) (l.toL++(k,v) :: (Tr.leaf.toL++(rk,rv) :: rr.toL))):=by
  intro w1 t1 m
  exact yR t1 rr rk rv m.1 (rr.at_below HB.out.2.1 m.2.2.1) m.2.2.1 (fun n hn=>hn.elim (fun h=>(m.2.2.2 n h)) (fun h=>.inl (HS.out n (.inr (.inl h))))) (by rw [m.2.1];simp)
 clear HB HS
 generalize hLL:(l.toL++(k,v) :: (Tr.leaf.toL++(rk,rv) :: rr.toL))=LL at HJ2
 clear hLL
 generalize hL1:(l.toL++(k,v) :: Tr.leaf.toL)=L1 at HJ1 HJ2
 clear hL1
 generalize hSS:(fun n=>l.has n\/Tr.has (Tr.node p Tr.leaf rk rv rh rr) n)=SS at HJ1 HJ2
 clear hSS
 obtain ⟨k1,k2⟩:=k
 obtain ⟨rk1,rk2⟩:=rk
 simp only [Tr.addr_leaf] at *
 go_enter Tryz.func171,Tryz.ntmps171
 go_wp2_with fail
 go_quiet (fail)
 go_wp2_with fail
 go_region_held3 (fun w'=>w'.cell? (aq p 0)=some (.pointer none)/\w'.cell? (aq w.heap.size 0)=some (iv k1)/\w'.cell? (aq w.heap.size 1)=some (iv k2)/\w'.cell? (aq w.heap.size 2)=some (iv v)) (simp [go_sem, *])
  (first|(go_at_call 158;refine (HJ1.out _ bL).mono ?_;rintro e w1 ⟨t1,rfl,m,b⟩
          have e0:=(b.cell (p:=(aq p 0)) uS).trans (uN:_=some (.pointer none))
          have e1:=(b.cell (p:=(aq w.heap.size 0)) uS).trans (uN:_=some (iv k1))
          have e2:=(b.cell (p:=(aq w.heap.size 1)) uS).trans (uN:_=some (iv k2))
          have e3:=(b.cell (p:=(aq w.heap.size 2)) uS).trans (uN:_=some (iv v))))
 clear e0 e1 e2 e3
 have HJ3:Hid _:=HJ2.out _ _ m
 have hpw1:p<w1.heap.size:=uB hpw m.2.2.1.size
 have d1:=(m.2.2.1.cell (p:=(aq p 1)) hpw).trans c1
 have d2:=(m.2.2.1.cell (p:=(aq p 2)) hpw).trans c2
 have d3:=(m.2.2.1.cell (p:=(aq p 3)) hpw).trans c3
 have d4:=(m.2.2.1.cell (p:=(aq p 4)) hpw).trans c4
 clear c0 c1 c2 c3 c4 b HJ1 HJ2
 go_wp2_with fail
 go_region_held3 (fun w'=>w'.cell? (aq p 1)=some (.pointer rr.addr)/\w'.cell? (aq p 2)=some (iv rk1)/\w'.cell? (aq p 3)=some (iv rk2)/\w'.cell? (aq p 4)=some (iv rv)) (simp [go_sem, *])
  (first|(go_at_call 158;refine (HJ3.out _ bL).mono ?_;rintro e w2 ⟨t2,rfl,m2,b⟩
          have e0:=(b.cell (p:=(aq p 1)) uS).trans (uN:_=some (.pointer rr.addr))
          have e1:=(b.cell (p:=(aq p 2)) uS).trans (uN:_=some (iv rk1))
          have e2:=(b.cell (p:=(aq p 3)) uS).trans (uN:_=some (iv rk2))
          have e3:=(b.cell (p:=(aq p 4)) uS).trans (uN:_=some (iv rv))))
 clear e0 e1 e2 e3
 go_wp2
 go_ret
 exact ⟨_,rfl,m2⟩
theorem pJ (p:Nat) (q:Nat) (tl tr:Tr) (tk:Int × Int) (tv th:Int) (ll r:Tr) (lk k:Int × Int) (lv lh v:Int) (w:World) (hl:Tr.at w (Tr.node p ll lk lv lh (Tr.node q tl tk tv th tr))) (hr:r.at w) :
 Ca 170 #[pt p 0,.agg #[iv k.1,iv k.2,iv v],.pointer r.addr] w fun e w'=>∃ t:Tr,e=.returned (.pointer t.addr)/\mk w w' (fun n=>Tr.has (Tr.node p ll lk lv lh (Tr.node q tl tk tv th tr)) n\/r.has n) ((ll.toL++(lk,lv) :: (Tr.node q tl tk tv th tr).toL)++(k,v) :: r.toL) t:=by
 have HS:Hid (∀ n,(Tr.has (Tr.node q tl tk tv th tr) n\/ll.has n\/r.has n)->(fun n=>Tr.has (Tr.node p ll lk lv lh (Tr.node q tl tk tv th tr)) n\/r.has n) n):=by
  rintro n (h|h|h)
  ·exact .inl (.inr (.inr h))
  ·exact .inl (.inr (.inl h))
  ·exact .inr h
 obtain ⟨hp,h1,h2⟩:=hl
 have hpw:p<w.heap.size:=(blt hp)
 obtain ⟨c0,c1,c2,c3,c4,-⟩:=jN hp
 have HT:Hid (tl.at w/\tr.at w):=h2.2
 have hqw:q<w.heap.size:=(blt h2.1)
 obtain ⟨g0,g1,g2,g3,g4,g5⟩:=jN h2.1
 have HH:Hid (∀ W,Below w.heap.size w W->Ca 169 #[.pointer ll.addr] W fun e w'=>(∃ a,e=.returned (iv a))/\W=w'):=mH h1
 simp only [Tr.ptr] at c0 c1
 have HB:Hid ((Tr.node q tl tk tv th tr).at w/\ll.at w/\r.at w):=⟨h2,h1,hr⟩
 clear hp h1 h2 hr
 have HJ1:Hid (jW 158 #[.pointer (Tr.node q tl tk tv th tr).addr,.agg #[iv k.1,iv k.2,iv v],.pointer r.addr] w w (fun n=>Tr.has (Tr.node p ll lk lv lh (Tr.node q tl tk tv th tr)) n\/r.has n) ((Tr.node q tl tk tv th tr).toL++(k,v) :: r.toL)):=yR (Tr.node q tl tk tv th tr) r k v HB.out.1 HB.out.2.2 (uM _ _) (fun n hn=>.inl (hn.elim (fun h=>(HS.out n (.inl h))) (fun h=>(HS.out n (.inr (.inr h)))))) rfl
 have HJ2:Hid (∀ w1 t1,mk w w1 (fun n=>Tr.has (Tr.node p ll lk lv lh (Tr.node q tl tk tv th tr)) n\/r.has n) ((Tr.node q tl tk tv th tr).toL++(k,v) :: r.toL) t1->jW 158 #[.pointer ll.addr,.agg #[iv lk.1,iv lk.2,iv lv],.pointer t1.addr] w w1 (fun n=>Tr.has (Tr.node p ll lk lv lh (Tr.node q tl tk tv th tr)) n\/r.has n) ((ll.toL++(lk,lv) :: (Tr.node q tl tk tv th tr).toL)++(k,v) :: r.toL)):=by
  intro w1 t1 m
  exact yR ll t1 lk lv (ll.at_below HB.out.2.1 m.2.2.1) m.1 m.2.2.1 (fun n hn=>hn.elim (fun h=>.inl (HS.out n (.inr (.inl h)))) (fun h=>(m.2.2.2 n h))) (by rw [m.2.1];simp)
 have HK1:Hid (jW 158 #[.pointer ll.addr,.agg #[iv lk.1,iv lk.2,iv lv],.pointer tl.addr] w w (fun n=>Tr.has (Tr.node p ll lk lv lh (Tr.node q tl tk tv th tr)) n\/r.has n) (ll.toL++(lk,lv) :: tl.toL)):=yR ll tl lk lv HB.out.2.1 HT.out.1 (uM _ _) (fun n hn=>.inl (hn.elim (fun h=>(HS.out n (.inr (.inl h)))) (fun h=>(HS.out n (.inl (.inr (.inl h))))))) rfl
 have HK2:Hid (∀ w1,Below w.heap.size w w1->jW 158 #[.pointer tr.addr,.agg #[iv k.1,iv k.2,iv v],.pointer r.addr] w w1 (fun n=>Tr.has (Tr.node p ll lk lv lh (Tr.node q tl tk tv th tr)) n\/r.has n) (tr.toL++(k,v) :: r.toL)):=fun w1 hb=>yR tr r k v (tr.at_below HT.out.2 hb) (r.at_below HB.out.2.2 hb) hb (fun n hn=>.inl (hn.elim (fun h=>(HS.out n (.inl (.inr (.inr h))))) (fun h=>(HS.out n (.inr (.inr h)))))) rfl
 have HK3:Hid (∀ w1 w2 t1 t2,mk w w1 (fun n=>Tr.has (Tr.node p ll lk lv lh (Tr.node q tl tk tv th tr)) n\/r.has n) (ll.toL++(lk,lv) :: tl.toL) t1->mk w w2 (fun n=>Tr.has (Tr.node p ll lk lv lh (Tr.node q tl tk tv th tr)) n\/r.has n) (tr.toL++(k,v) :: r.toL) t2->Below w1.heap.size w1 w2->jW 158 #[.pointer t1.addr,.agg #[iv tk.1,iv tk.2,iv tv],.pointer t2.addr] w w2 (fun n=>Tr.has (Tr.node p ll lk lv lh (Tr.node q tl tk tv th tr)) n\/r.has n) ((ll.toL++(lk,lv) :: (Tr.node q tl tk tv th tr).toL)++(k,v) :: r.toL)):=by
  intro w1 w2 t1 t2 m1 m2 hb
  exact yR t1 t2 tk tv (t1.at_below m1.1 hb) m2.1 m2.2.2.1 (fun n hn=>hn.elim (m1.2.2.2 n) (m2.2.2.2 n)) (by rw [m1.2.1,m2.2.1];simp [Tr.toL])
 clear HB HS HT
 generalize hLL:((ll.toL++(lk,lv) :: (Tr.node q tl tk tv th tr).toL)++(k,v) :: r.toL)=LL at HJ2 HK3
 clear hLL
 generalize hL1:((Tr.node q tl tk tv th tr).toL++(k,v) :: r.toL)=L1 at HJ1 HJ2
 clear hL1
 generalize hLA:(ll.toL++(lk,lv) :: tl.toL)=LA at HK1 HK3
 clear hLA
 generalize hLB:(tr.toL++(k,v) :: r.toL)=LB at HK2 HK3
 clear hLB
 generalize hSS:(fun n=>Tr.has (Tr.node p ll lk lv lh (Tr.node q tl tk tv th tr)) n\/r.has n)=SS at HJ1 HJ2 HK1 HK2 HK3
 clear hSS
 obtain ⟨k1,k2⟩:=k
 obtain ⟨lk1,lk2⟩:=lk
 obtain ⟨tk1,tk2⟩:=tk
 simp only [Tr.addr_node] at *
 go_enter Tryz.func170,Tryz.ntmps170
 go_wp2_with fail
 go_region_held3 (fun w'=>w'.cell? (aq p 0)=some (.pointer ll.addr)/\w'.cell? (aq q 5)=some (iv th)) (simp [go_sem, *])
  (first|(go_at_call 169;refine (HH.out _ bL).mono ?_;rintro e w0 ⟨⟨a,rfl⟩,rfl⟩))
 clear HH
 by_cases hta:th<=a
 ·go_wp2_with fail
  go_region_held3 (fun w'=>w'.cell? (aq p 1)=some (pt q 0)/\w'.cell? (aq w.heap.size 0)=some (iv k1)/\w'.cell? (aq w.heap.size 1)=some (iv k2)/\w'.cell? (aq w.heap.size 2)=some (iv v)) (simp [go_sem, *])
   (first|(go_at_call 158;refine (HJ1.out _ bL).mono ?_;rintro e w1 ⟨t1,rfl,m,b⟩
           have e0:=(b.cell (p:=(aq p 1)) uS).trans (uN:_=some (pt q 0))
           have e1:=(b.cell (p:=(aq w.heap.size 0)) uS).trans (uN:_=some (iv k1))
           have e2:=(b.cell (p:=(aq w.heap.size 1)) uS).trans (uN:_=some (iv k2))
           have e3:=(b.cell (p:=(aq w.heap.size 2)) uS).trans (uN:_=some (iv v))))
  clear e0 e1 e2 e3
  have HJ3:Hid _:=HJ2.out _ _ m
  have hpw1:p<w1.heap.size:=uB hpw m.2.2.1.size
  have d0:=(m.2.2.1.cell (p:=(aq p 0)) hpw).trans c0
  have d2:=(m.2.2.1.cell (p:=(aq p 2)) hpw).trans c2
  have d3:=(m.2.2.1.cell (p:=(aq p 3)) hpw).trans c3
  have d4:=(m.2.2.1.cell (p:=(aq p 4)) hpw).trans c4
  clear c0 c1 c2 c3 c4 b HJ1 HJ2
  go_wp2_with fail
  go_region_held3 (fun w'=>w'.cell? (aq p 0)=some (.pointer ll.addr)/\w'.cell? (aq p 2)=some (iv lk1)/\w'.cell? (aq p 3)=some (iv lk2)/\w'.cell? (aq p 4)=some (iv lv)) (simp [go_sem, *])
   (first|(go_at_call 158;refine (HJ3.out _ bL).mono ?_;rintro e w2 ⟨t2,rfl,m2,b⟩
           have e0:=(b.cell (p:=(aq p 0)) uS).trans (uN:_=some (.pointer ll.addr))
           have e1:=(b.cell (p:=(aq p 2)) uS).trans (uN:_=some (iv lk1))
           have e2:=(b.cell (p:=(aq p 3)) uS).trans (uN:_=some (iv lk2))
           have e3:=(b.cell (p:=(aq p 4)) uS).trans (uN:_=some (iv lv))))
  clear e0 e1 e2 e3
  go_wp2
  go_ret
  exact ⟨_,rfl,m2⟩
 ·have hta':decide (th<=a)=false:=by simpa using hta
  go_wp2_with fail
  go_region_held3 (fun w'=>w'.cell? (aq p 0)=some (.pointer ll.addr)/\w'.cell? (aq p 2)=some (iv lk1)/\w'.cell? (aq p 3)=some (iv lk2)/\w'.cell? (aq p 4)=some (iv lv)/\w'.cell? (aq q 0)=some (.pointer tl.addr)/\w'.cell? (aq w.heap.size 0)=some (iv k1)/\w'.cell? (aq w.heap.size 1)=some (iv k2)/\w'.cell? (aq w.heap.size 2)=some (iv v)) (simp [go_sem, *])
   (first|(go_at_call 158;refine (HK1.out _ bL).mono ?_;rintro e w1 ⟨t1,rfl,m,b⟩
           have e0:=(b.cell (p:=(aq p 0)) uS).trans (uN:_=some (.pointer ll.addr))
           have e1:=(b.cell (p:=(aq p 2)) uS).trans (uN:_=some (iv lk1))
           have e2:=(b.cell (p:=(aq p 3)) uS).trans (uN:_=some (iv lk2))
           have e3:=(b.cell (p:=(aq p 4)) uS).trans (uN:_=some (iv lv))
           have e4:=(b.cell (p:=(aq q 0)) uS).trans (uN:_=some (.pointer tl.addr))
           have e5:=(b.cell (p:=(aq w.heap.size 0)) uS).trans (uN:_=some (iv k1))
           have e6:=(b.cell (p:=(aq w.heap.size 1)) uS).trans (uN:_=some (iv k2))
           have e7:=(b.cell (p:=(aq w.heap.size 2)) uS).trans (uN:_=some (iv v))))
  clear e0 e1 e2 e3 e4
  have HK4:Hid _:=HK2.out _ m.2.2.1
  have hpw1:p<w1.heap.size:=uB hpw m.2.2.1.size
  have hqw1:q<w1.heap.size:=uB hqw m.2.2.1.size
  have hew1:w.heap.size<w1.heap.size:=by have:=b.size;simp at this;omega
  have M1:Hid _:=m
  have d0:=(m.2.2.1.cell (p:=(aq p 0)) hpw).trans c0
  have d2:=(m.2.2.1.cell (p:=(aq p 2)) hpw).trans c2
  have d3:=(m.2.2.1.cell (p:=(aq p 3)) hpw).trans c3
  have d4:=(m.2.2.1.cell (p:=(aq p 4)) hpw).trans c4
  have f1:=(m.2.2.1.cell (p:=(aq q 1)) hqw).trans g1
  have f2:=(m.2.2.1.cell (p:=(aq q 2)) hqw).trans g2
  have f3:=(m.2.2.1.cell (p:=(aq q 3)) hqw).trans g3
  have f4:=(m.2.2.1.cell (p:=(aq q 4)) hqw).trans g4
  clear c0 c1 c2 c3 c4 g0 g1 g2 g3 g4 g5 b m HJ1 HJ2 HK1 HK2
  go_wp2_with fail
  go_region_held3 (fun w'=>w'.cell? (aq q 1)=some (.pointer tr.addr)/\w'.cell? (aq w.heap.size 0)=some (iv k1)/\w'.cell? (aq w.heap.size 1)=some (iv k2)/\w'.cell? (aq w.heap.size 2)=some (iv v)) (simp [go_sem, *])
   (first|(go_at_call 158;refine (HK4.out _ bL).mono ?_;rintro e w2 ⟨t2,rfl,m,b⟩
           have e0:=(b.cell (p:=(aq q 1)) uS).trans (uN:_=some (.pointer tr.addr))
           have e1:=(b.cell (p:=(aq w.heap.size 0)) uS).trans (uN:_=some (iv k1))
           have e2:=(b.cell (p:=(aq w.heap.size 1)) uS).trans (uN:_=some (iv k2))
           have e3:=(b.cell (p:=(aq w.heap.size 2)) uS).trans (uN:_=some (iv v))))
  clear e0 e1 e2 e3
  have b12:Bl w1 w2:=uL (show Below w1.heap.size w1 _ from bL) (b.mono vS)
  have HK5:Hid _:=HK3.out _ _ _ _ M1.out m b12
  have hqw2:q<w2.heap.size:=uB hqw m.2.2.1.size
  have u2:=(b12.cell (p:=(aq q 2)) hqw1).trans f2
  have u3:=(b12.cell (p:=(aq q 3)) hqw1).trans f3
  have u4:=(b12.cell (p:=(aq q 4)) hqw1).trans f4
  clear d0 d2 d3 d4 f1 f2 f3 f4 b b12 m M1 HK3 HK4
  go_wp2_with fail
  refine (HK5.out _ bL).mono ?_
  rintro e w3 ⟨t3,rfl,m,b⟩
  go_wp2
  go_ret
  exact ⟨_,rfl,m⟩
theorem Za (p:Nat) (q:Nat) (tl tr:Tr) (tk:Int × Int) (tv th:Int) (l rr:Tr) (rk k:Int × Int) (rv rh v:Int) (w:World) (hl:Tr.at w (Tr.node p (Tr.node q tl tk tv th tr) rk rv rh rr)) (hr:l.at w) :
 Ca 171 #[.pointer l.addr,.agg #[iv k.1,iv k.2,iv v],pt p 0] w fun e w'=>∃ t:Tr,e=.returned (.pointer t.addr)/\mk w w' (fun n=>l.has n\/Tr.has (Tr.node p (Tr.node q tl tk tv th tr) rk rv rh rr) n) (l.toL++(k,v) :: ((Tr.node q tl tk tv th tr).toL++(rk,rv) :: rr.toL)) t:=by
 have HS:Hid (∀ n,(Tr.has (Tr.node q tl tk tv th tr) n\/rr.has n\/l.has n)->(fun n=>l.has n\/Tr.has (Tr.node p (Tr.node q tl tk tv th tr) rk rv rh rr) n) n):=by
  rintro n (h|h|h)
  ·exact .inr (.inr (.inl h))
  ·exact .inr (.inr (.inr h))
  ·exact .inl h
 obtain ⟨hp,h2,h1⟩:=hl
 have hpw:p<w.heap.size:=(blt hp)
 obtain ⟨c0,c1,c2,c3,c4,-⟩:=jN hp
 have HT:Hid (tl.at w/\tr.at w):=h2.2
 have hqw:q<w.heap.size:=(blt h2.1)
 obtain ⟨g0,g1,g2,g3,g4,g5⟩:=jN h2.1
 have HH:Hid (∀ W,Below w.heap.size w W->Ca 169 #[.pointer rr.addr] W fun e w'=>(∃ a,e=.returned (iv a))/\W=w'):=mH h1
 simp only [Tr.ptr] at c0 c1
 have HB:Hid ((Tr.node q tl tk tv th tr).at w/\rr.at w/\l.at w):=⟨h2,h1,hr⟩
 clear hp h1 h2 hr
 have HJ1:Hid (jW 158 #[.pointer l.addr,.agg #[iv k.1,iv k.2,iv v],.pointer (Tr.node q tl tk tv th tr).addr] w w (fun n=>l.has n\/Tr.has (Tr.node p (Tr.node q tl tk tv th tr) rk rv rh rr) n) (l.toL++(k,v) :: (Tr.node q tl tk tv th tr).toL)):=yR l (Tr.node q tl tk tv th tr) k v HB.out.2.2 HB.out.1 (uM _ _) (fun n hn=>.inl (hn.elim (fun h=>(HS.out n (.inr (.inr h)))) (fun h=>(HS.out n (.inl h))))) rfl
 have HJ2:Hid (∀ w1 t1,mk w w1 (fun n=>l.has n\/Tr.has (Tr.node p (Tr.node q tl tk tv th tr) rk rv rh rr) n) (l.toL++(k,v) :: (Tr.node q tl tk tv th tr).toL) t1->jW 158 #[.pointer t1.addr,.agg #[iv rk.1,iv rk.2,iv rv],.pointer rr.addr] w w1 (fun n=>l.has n\/Tr.has (Tr.node p (Tr.node q tl tk tv th tr) rk rv rh rr) n) (l.toL++(k,v) :: ((Tr.node q tl tk tv th tr).toL++(rk,rv) :: rr.toL))):=by
  intro w1 t1 m
  exact yR t1 rr rk rv m.1 (rr.at_below HB.out.2.1 m.2.2.1) m.2.2.1 (fun n hn=>hn.elim (fun h=>(m.2.2.2 n h)) (fun h=>.inl (HS.out n (.inr (.inl h))))) (by rw [m.2.1];simp)
 have HK1:Hid (jW 158 #[.pointer l.addr,.agg #[iv k.1,iv k.2,iv v],.pointer tl.addr] w w (fun n=>l.has n\/Tr.has (Tr.node p (Tr.node q tl tk tv th tr) rk rv rh rr) n) (l.toL++(k,v) :: tl.toL)):=yR l tl k v HB.out.2.2 HT.out.1 (uM _ _) (fun n hn=>.inl (hn.elim (fun h=>(HS.out n (.inr (.inr h)))) (fun h=>(HS.out n (.inl (.inr (.inl h))))))) rfl
 have HK2:Hid (∀ w1,Below w.heap.size w w1->jW 158 #[.pointer tr.addr,.agg #[iv rk.1,iv rk.2,iv rv],.pointer rr.addr] w w1 (fun n=>l.has n\/Tr.has (Tr.node p (Tr.node q tl tk tv th tr) rk rv rh rr) n) (tr.toL++(rk,rv) :: rr.toL)):=fun w1 hb=>yR tr rr rk rv (tr.at_below HT.out.2 hb) (rr.at_below HB.out.2.1 hb) hb (fun n hn=>.inl (hn.elim (fun h=>(HS.out n (.inl (.inr (.inr h))))) (fun h=>(HS.out n (.inr (.inl h)))))) rfl
 have HK3:Hid (∀ w1 w2 t1 t2,mk w w1 (fun n=>l.has n\/Tr.has (Tr.node p (Tr.node q tl tk tv th tr) rk rv rh rr) n) (l.toL++(k,v) :: tl.toL) t1->mk w w2 (fun n=>l.has n\/Tr.has (Tr.node p (Tr.node q tl tk tv th tr) rk rv rh rr) n) (tr.toL++(rk,rv) :: rr.toL) t2->Below w1.heap.size w1 w2->jW 158 #[.pointer t1.addr,.agg #[iv tk.1,iv tk.2,iv tv],.pointer t2.addr] w w2 (fun n=>l.has n\/Tr.has (Tr.node p (Tr.node q tl tk tv th tr) rk rv rh rr) n) (l.toL++(k,v) :: ((Tr.node q tl tk tv th tr).toL++(rk,rv) :: rr.toL))):=by
  intro w1 w2 t1 t2 m1 m2 hb
  exact yR t1 t2 tk tv (t1.at_below m1.1 hb) m2.1 m2.2.2.1 (fun n hn=>hn.elim (m1.2.2.2 n) (m2.2.2.2 n)) (by rw [m1.2.1,m2.2.1];simp [Tr.toL])
 clear HB HS HT
 generalize hLL:(l.toL++(k,v) :: ((Tr.node q tl tk tv th tr).toL++(rk,rv) :: rr.toL))=LL at HJ2 HK3
 clear hLL
 generalize hL1:(l.toL++(k,v) :: (Tr.node q tl tk tv th tr).toL)=L1 at HJ1 HJ2
 clear hL1
 generalize hLA:(l.toL++(k,v) :: tl.toL)=LA at HK1 HK3
 clear hLA
 generalize hLB:(tr.toL++(rk,rv) :: rr.toL)=LB at HK2 HK3
 clear hLB
 generalize hSS:(fun n=>l.has n\/Tr.has (Tr.node p (Tr.node q tl tk tv th tr) rk rv rh rr) n)=SS at HJ1 HJ2 HK1 HK2 HK3
 clear hSS
 obtain ⟨k1,k2⟩:=k
 obtain ⟨rk1,rk2⟩:=rk
 obtain ⟨tk1,tk2⟩:=tk
 simp only [Tr.addr_node] at *
 go_enter Tryz.func171,Tryz.ntmps171
 go_wp2_with fail
 go_region_held3 (fun w'=>w'.cell? (aq p 1)=some (.pointer rr.addr)/\w'.cell? (aq q 5)=some (iv th)) (simp [go_sem, *])
  (first|(go_at_call 169;refine (HH.out _ bL).mono ?_;rintro e w0 ⟨⟨a,rfl⟩,rfl⟩))
 clear HH
 by_cases hta:th<=a
 ·go_wp2_with fail
  go_region_held3 (fun w'=>w'.cell? (aq p 0)=some (pt q 0)/\w'.cell? (aq w.heap.size 0)=some (iv k1)/\w'.cell? (aq w.heap.size 1)=some (iv k2)/\w'.cell? (aq w.heap.size 2)=some (iv v)) (simp [go_sem, *])
   (first|(go_at_call 158;refine (HJ1.out _ bL).mono ?_;rintro e w1 ⟨t1,rfl,m,b⟩
           have e0:=(b.cell (p:=(aq p 0)) uS).trans (uN:_=some (pt q 0))
           have e1:=(b.cell (p:=(aq w.heap.size 0)) uS).trans (uN:_=some (iv k1))
           have e2:=(b.cell (p:=(aq w.heap.size 1)) uS).trans (uN:_=some (iv k2))
           have e3:=(b.cell (p:=(aq w.heap.size 2)) uS).trans (uN:_=some (iv v))))
  clear e0 e1 e2 e3
  have HJ3:Hid _:=HJ2.out _ _ m
  have hpw1:p<w1.heap.size:=uB hpw m.2.2.1.size
  have d1:=(m.2.2.1.cell (p:=(aq p 1)) hpw).trans c1
  have d2:=(m.2.2.1.cell (p:=(aq p 2)) hpw).trans c2
  have d3:=(m.2.2.1.cell (p:=(aq p 3)) hpw).trans c3
  have d4:=(m.2.2.1.cell (p:=(aq p 4)) hpw).trans c4
  clear c0 c1 c2 c3 c4 b HJ1 HJ2
  go_wp2_with fail
  go_region_held3 (fun w'=>w'.cell? (aq p 1)=some (.pointer rr.addr)/\w'.cell? (aq p 2)=some (iv rk1)/\w'.cell? (aq p 3)=some (iv rk2)/\w'.cell? (aq p 4)=some (iv rv)) (simp [go_sem, *])
   (first|(go_at_call 158;refine (HJ3.out _ bL).mono ?_;rintro e w2 ⟨t2,rfl,m2,b⟩
           have e0:=(b.cell (p:=(aq p 1)) uS).trans (uN:_=some (.pointer rr.addr))
           have e1:=(b.cell (p:=(aq p 2)) uS).trans (uN:_=some (iv rk1))
           have e2:=(b.cell (p:=(aq p 3)) uS).trans (uN:_=some (iv rk2))
           have e3:=(b.cell (p:=(aq p 4)) uS).trans (uN:_=some (iv rv))))
  clear e0 e1 e2 e3
  go_wp2
  go_ret
  exact ⟨_,rfl,m2⟩
 ·have hta':decide (th<=a)=false:=by simpa using hta
  go_wp2_with fail
  go_region_held3 (fun w'=>w'.cell? (aq w.heap.size 0)=some (iv k1)/\w'.cell? (aq w.heap.size 1)=some (iv k2)/\w'.cell? (aq w.heap.size 2)=some (iv v)/\w'.cell? (aq q 0)=some (.pointer tl.addr)) (simp [go_sem, *])
   (first|(go_at_call 158;refine (HK1.out _ bL).mono ?_;rintro e w1 ⟨t1,rfl,m,b⟩
           have e0:=(b.cell (p:=(aq w.heap.size 0)) uS).trans (uN:_=some (iv k1))
           have e1:=(b.cell (p:=(aq w.heap.size 1)) uS).trans (uN:_=some (iv k2))
           have e2:=(b.cell (p:=(aq w.heap.size 2)) uS).trans (uN:_=some (iv v))
           have e3:=(b.cell (p:=(aq q 0)) uS).trans (uN:_=some (.pointer tl.addr))))
  clear e0 e1 e2 e3
  have HK4:Hid _:=HK2.out _ m.2.2.1
  have hpw1:p<w1.heap.size:=uB hpw m.2.2.1.size
  have hqw1:q<w1.heap.size:=uB hqw m.2.2.1.size
  have hew1:w.heap.size<w1.heap.size:=by have:=b.size;simp at this;omega
  have M1:Hid _:=m
  have d1:=(m.2.2.1.cell (p:=(aq p 1)) hpw).trans c1
  have d2:=(m.2.2.1.cell (p:=(aq p 2)) hpw).trans c2
  have d3:=(m.2.2.1.cell (p:=(aq p 3)) hpw).trans c3
  have d4:=(m.2.2.1.cell (p:=(aq p 4)) hpw).trans c4
  have f1:=(m.2.2.1.cell (p:=(aq q 1)) hqw).trans g1
  have f2:=(m.2.2.1.cell (p:=(aq q 2)) hqw).trans g2
  have f3:=(m.2.2.1.cell (p:=(aq q 3)) hqw).trans g3
  have f4:=(m.2.2.1.cell (p:=(aq q 4)) hqw).trans g4
  clear c0 c1 c2 c3 c4 g0 g1 g2 g3 g4 g5 b m HJ1 HJ2 HK1 HK2
  go_wp2_with fail
  go_region_held3 (fun w'=>w'.cell? (aq q 1)=some (.pointer tr.addr)/\w'.cell? (aq p 2)=some (iv rk1)/\w'.cell? (aq p 3)=some (iv rk2)/\w'.cell? (aq p 4)=some (iv rv)/\w'.cell? (aq p 1)=some (.pointer rr.addr)) (simp [go_sem, *])
   (first|(go_at_call 158;refine (HK4.out _ bL).mono ?_;rintro e w2 ⟨t2,rfl,m,b⟩
           have e0:=(b.cell (p:=(aq q 1)) uS).trans (uN:_=some (.pointer tr.addr))
           have e1:=(b.cell (p:=(aq p 2)) uS).trans (uN:_=some (iv rk1))
           have e2:=(b.cell (p:=(aq p 3)) uS).trans (uN:_=some (iv rk2))
           have e3:=(b.cell (p:=(aq p 4)) uS).trans (uN:_=some (iv rv))
           have e4:=(b.cell (p:=(aq p 1)) uS).trans (uN:_=some (.pointer rr.addr))))
  clear e0 e1 e2 e3 e4
  have b12:Bl w1 w2:=uL (show Below w1.heap.size w1 _ from bL) (b.mono vS)
  have HK5:Hid _:=HK3.out _ _ _ _ M1.out m b12
  have hqw2:q<w2.heap.size:=uB hqw m.2.2.1.size
  have u2:=(b12.cell (p:=(aq q 2)) hqw1).trans f2
  have u3:=(b12.cell (p:=(aq q 3)) hqw1).trans f3
  have u4:=(b12.cell (p:=(aq q 4)) hqw1).trans f4
  clear d1 d2 d3 d4 f1 f2 f3 f4 b b12 m M1 HK3 HK4
  go_wp2_with fail
  refine (HK5.out _ bL).mono ?_
  rintro e w3 ⟨t3,rfl,m,b⟩
  go_wp2
  go_ret
  exact ⟨_,rfl,m⟩
theorem eC {w w2:World} {S:Nat->Prop} {L:List Ent} (p:Nat) (ll lr r:Tr) (lk k:Int × Int) (lv lh v:Int) (hl:Tr.at w2 (.node p ll lk lv lh lr)) (hr:r.at w2) (hb:Bl w w2) (hS:∀ n,Tr.has (.node p ll lk lv lh lr) n\/r.has n->S n\/w.heap.size<=n) (hL:(ll.toL++(lk,lv) :: lr.toL)++(k,v) :: r.toL=L) :
 jW 170 #[pt p 0,.agg #[iv k.1,iv k.2,iv v],.pointer r.addr] w w2 S L:=by
 refine xN hb (fun W hW=>?_) hL
 have h1:=Tr.at_below hl hW
 have h2:=Tr.at_below hr hW
 cases lr with
 | leaf=>exact (pH p ll r lk k lv lh v W h1 h2).mono (by rintro e w' ⟨t,rfl,h⟩;exact ⟨t,rfl,vF h hS⟩)
 | node q tl tk tv th tr=>exact (pJ p q tl tr tk tv th ll r lk k lv lh v W h1 h2).mono (by rintro e w' ⟨t,rfl,h⟩;exact ⟨t,rfl,vF h hS⟩)
theorem pF {w w2:World} {S:Nat->Prop} {L:List Ent} (p:Nat) (l rl rr:Tr) (rk k:Int × Int) (rv rh v:Int) (hl:Tr.at w2 (.node p rl rk rv rh rr)) (hr:l.at w2) (hb:Bl w w2) (hS:∀ n,l.has n\/Tr.has (.node p rl rk rv rh rr) n->S n\/w.heap.size<=n) (hL:l.toL++(k,v) :: (rl.toL++(rk,rv) :: rr.toL)=L) :
 jW 171 #[.pointer l.addr,.agg #[iv k.1,iv k.2,iv v],pt p 0] w w2 S L:=by
 refine xN hb (fun W hW=>?_) hL
 have h1:=Tr.at_below hl hW
 have h2:=Tr.at_below hr hW
 cases rl with
 | leaf=>exact (Yx p l rr rk k rv rh v W h1 h2).mono (by rintro e w' ⟨t,rfl,h⟩;exact ⟨t,rfl,vF h hS⟩)
 | node q tl tk tv th tr=>exact (Za p q tl tr tk tv th l rr rk k rv rh v W h1 h2).mono (by rintro e w' ⟨t,rfl,h⟩;exact ⟨t,rfl,vF h hS⟩)
theorem Xs (la ra:Option Addr) (k1 k2 v:Int) (w:World) (S:Nat->Prop) (L:List Ent) (hl:la=none\/∃ p,la=some (aq p 0)) (hr:ra=none\/∃ p,ra=some (aq p 0))
 (HH:Hid (∀ u W,u=la\/u=ra->Below w.heap.size w W->Ca 169 #[.pointer u] W fun e w'=>(∃ a,e=.returned (iv a))/\W=w'))
 (HR:Hid (la≠none->jW 170 #[.pointer la,.agg #[iv k1,iv k2,iv v],.pointer ra] w w S L))
 (HL:Hid (ra≠none->jW 171 #[.pointer la,.agg #[iv k1,iv k2,iv v],.pointer ra] w w S L))
 (HJ:Hid (jW 158 #[.pointer la,.agg #[iv k1,iv k2,iv v],.pointer ra] w w S L)) :
 Ca 159 #[.pointer la,.agg #[iv k1,iv k2,iv v],.pointer ra] w fun e w'=>∃ t:Tr,e=.returned (.pointer t.addr)/\mk w w' S L t:=by
 rcases hl with rfl|⟨p,rfl⟩
 ·rcases hr with rfl|⟨q,rfl⟩
  ·go_enter Tryz.func159,Tryz.ntmps159
   go_wp2_with (first
    | (go_at_call 169;refine (HH.out _ _ ?_ bL).mono ?_;(first|exact .inl rfl|exact .inr rfl);rintro e w1 ⟨⟨a,rfl⟩,rfl⟩)
    | (go_at_call 158;refine (HJ.out _ bL).mono ?_;rintro e w1 ⟨t,rfl,m,b⟩)
    | (go_at_call 170;refine (HR.out vS _ bL).mono ?_;rintro e w1 ⟨t,rfl,m,b⟩)
    | (go_at_call 171;refine (HL.out vS _ bL).mono ?_;rintro e w1 ⟨t,rfl,m,b⟩))
   all_goals (go_ret;exact ⟨_,rfl,m⟩)
  ·go_enter Tryz.func159,Tryz.ntmps159
   go_wp2_with (first
    | (go_at_call 169;refine (HH.out _ _ ?_ bL).mono ?_;(first|exact .inl rfl|exact .inr rfl);rintro e w1 ⟨⟨a,rfl⟩,rfl⟩)
    | (go_at_call 158;refine (HJ.out _ bL).mono ?_;rintro e w1 ⟨t,rfl,m,b⟩)
    | (go_at_call 170;refine (HR.out vS _ bL).mono ?_;rintro e w1 ⟨t,rfl,m,b⟩)
    | (go_at_call 171;refine (HL.out vS _ bL).mono ?_;rintro e w1 ⟨t,rfl,m,b⟩))
   all_goals (go_ret;exact ⟨_,rfl,m⟩)
 ·rcases hr with rfl|⟨q,rfl⟩
  ·go_enter Tryz.func159,Tryz.ntmps159
   go_wp2_with (first
    | (go_at_call 169;refine (HH.out _ _ ?_ bL).mono ?_;(first|exact .inl rfl|exact .inr rfl);rintro e w1 ⟨⟨a,rfl⟩,rfl⟩)
    | (go_at_call 158;refine (HJ.out _ bL).mono ?_;rintro e w1 ⟨t,rfl,m,b⟩)
    | (go_at_call 170;refine (HR.out vS _ bL).mono ?_;rintro e w1 ⟨t,rfl,m,b⟩)
    | (go_at_call 171;refine (HL.out vS _ bL).mono ?_;rintro e w1 ⟨t,rfl,m,b⟩))
   all_goals (go_ret;exact ⟨_,rfl,m⟩)
  ·go_enter Tryz.func159,Tryz.ntmps159
   go_wp2_with (first
    | (go_at_call 169;refine (HH.out _ _ ?_ bL).mono ?_;(first|exact .inl rfl|exact .inr rfl);rintro e w1 ⟨⟨a,rfl⟩,rfl⟩)
    | (go_at_call 158;refine (HJ.out _ bL).mono ?_;rintro e w1 ⟨t,rfl,m,b⟩)
    | (go_at_call 170;refine (HR.out vS _ bL).mono ?_;rintro e w1 ⟨t,rfl,m,b⟩)
    | (go_at_call 171;refine (HL.out vS _ bL).mono ?_;rintro e w1 ⟨t,rfl,m,b⟩))
   all_goals (go_ret;exact ⟨_,rfl,m⟩)
theorem Kz (l r:Tr) (k:Int × Int) (v:Int) (w:World) (hl:l.at w) (hr:r.at w) :
 Ca 159 #[.pointer l.addr,.agg #[iv k.1,iv k.2,iv v],.pointer r.addr] w fun e w'=>∃ t:Tr,e=.returned (.pointer t.addr)/\mk w w' (fun n=>l.has n\/r.has n) (l.toL++(k,v) :: r.toL) t:=by
 have ha:∀ t:Tr,t.addr=none\/∃ p,t.addr=some (aq p 0):=by
  intro t
  cases t
  ·exact .inl rfl
  ·exact .inr ⟨_,rfl⟩
 refine Xs _ _ _ _ _ w _ _ (ha l) (ha r) ?_ ?_ ?_ ?_
 ·rintro u W (rfl|rfl) hb
  ·exact mH hl W hb
  ·exact mH hr W hb
 ·intro hn
  cases l with
  | leaf=>exact absurd rfl hn
  | node p ll lk lv lh lr=>exact eC p ll lr r lk k lv lh v hl hr (uM _ _) (fun n hn=>.inl hn) rfl
 ·intro hn
  cases r with
  | leaf=>exact absurd rfl hn
  | node p rl rk rv rh rr=>exact pF p l rl rr rk k rv rh v hr hl (uM _ _) (fun n hn=>.inl hn) rfl
 ·exact yR l r k v hl hr (uM _ _) (fun n hn=>.inl hn) rfl
theorem kW {w w2:World} {S:Nat->Prop} {L:List Ent} (l r:Tr) (k:Int × Int) (v:Int) (hl:l.at w2) (hr:r.at w2) (hb:Bl w w2) (hS:∀ n,l.has n\/r.has n->S n\/w.heap.size<=n) (hL:l.toL++(k,v) :: r.toL=L) :
 jW 159 #[.pointer l.addr,.agg #[iv k.1,iv k.2,iv v],.pointer r.addr] w w2 S L :=
 xN hb (fun W hW=>(Kz l r k v W (l.at_below hl hW) (r.at_below hr hW)).mono (by rintro e w' ⟨t,rfl,h⟩;exact ⟨t,rfl,vF h hS⟩)) hL
