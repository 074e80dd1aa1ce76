import Derived.Test.YtfhncfghblkgeaaGreatL24
set_option maxRecDepth 100000
set_option maxHeartbeats 2000000
namespace Go.Proofs.YtfhncfghblkgeaaGreat
open Go.RowKit
theorem jwd (x:Nat) (C:Array Value) (T:TypeId) (n k t c u o:Int) (w:World) (hx:w.heap[x]?=some (.cells C T (0,0))) (h9:C[9]?=some (iv n)) (hn:0<=n/\n<=4294967296) :
 Calls Tryz.prog 169 #[pt x 0,.agg #[iv k,iv t,iv c,iv u,iv o]] w fun e w'=>e=.returned (.agg #[iv (n+1),iv c,iv u,iv 0,iv 0,iv 0])/\w'.heap[x]?=some (.cells (C.setIfInBounds 9 (iv (n+1))) T (0,0))/\Same (fun b=>b=x) w w':=by
 have hxw:x<w.heap.size:=(blt hx)
 have k9:w.cell? (aq x 9)=some (iv n):=by rw [Joins.cell_of_block hx];exact h9
 have f9:=ja0 hx 9
 have hw:IntKind.i64.wrap (n+1)=n+1:=jab (by omega) (by omega)
 have HE:Hid (∀ A B,(((w.setCell (aq x 9) (iv (n+1))).alloc A).alloc B).drew.heap[x]?=some (.cells (C.setIfInBounds 9 (iv (n+1))) T (0,0))/\Same (fun b=>b=x) w (((w.setCell (aq x 9) (iv (n+1))).alloc A).alloc B).drew):=fun A B=>by
  have h1:=Joins.block_setCell (i:=9) hx (iv (n+1))
  have s1:Same (fun b=>b=x) w (w.setCell (aq x 9) (iv (n+1))):=jce (Same.of_below (Below.refl _ _)) x 9 _ rfl
  have z1:x<(w.setCell (aq x 9) (iv (n+1))).heap.size:=by simpa [World.setCell] using hxw
  generalize w.setCell (aq x 9) (iv (n+1))=W at h1 s1 z1
  have hb:Below W.heap.size W ((W.alloc A).alloc B).drew:=(((Below.refl _ _).alloc (Nat.le_refl _) _).alloc (by simp) _).drew
  exact ⟨(hb.block x z1).trans h1,Same.trans s1 (Same.of_below (own:=fun b=>b=x) hb) (fun _ _ e=>e.elim id id)⟩
 replace hx:Hid _:=hx
 clear h9
 go_enter Tryz.func169,Tryz.ntmps169
 go_wp2_with fail
 go_region
 go_wp2
 refine bodyPost_ret (v:=.agg #[iv (n+1),iv c,iv u,iv 0,iv 0,iv 0]) (by simp [results,Tryz.results169,go_sem]) rfl ⟨rfl,?_⟩
 exact HE.out _ _
theorem jwp {W:World} {x:Nat} {own:Nat->Prop} {V:PV} (k t c u o:Int) (h:psm W x own V) (hn:0<=V.last/\V.last<=4294967296) :
 Calls Tryz.prog 169 #[pt x 0,.agg #[iv k,iv t,iv c,iv u,iv o]] W fun e w'=>e=.returned (POrd.val ⟨V.last+1,c,u,0,0,0⟩)/\jb4 W w' x own { V with last:=V.last+1 }:=by
 obtain ⟨g,h⟩:=h
 refine (jwd x (jbe V g) 117 V.last k t c u o W h.blk rfl hn).mono ?_
 rintro e w' ⟨rfl,a1,a6⟩
 exact ⟨rfl,h.turnX a6 (V':={ V with last:=V.last+1 }) (g':=g) a1 rfl ⟨rfl,rfl,rfl⟩ ⟨rfl,rfl,rfl,rfl⟩ ⟨rfl,rfl,rfl,rfl⟩ ⟨h.stayX a6 h.ot.1,h.ot.2,fun _ e=>.inl e⟩ ⟨h.stayX a6 h.qt.1,h.qt.2,fun _ e=>.inl e⟩ ⟨h.stayX a6 h.qz.1,h.qz.2,fun _ e=>.inl e⟩ ⟨h.stayX a6 h.lu.1,h.lu.2,fun _ e=>.inl e⟩ ⟨h.stayX a6 h.att.1,h.att.2,fun _ e=>.inl e⟩ ⟨rfl,rfl,rfl⟩ ⟨rfl,rfl,rfl⟩⟩
def jfa (w:World) (own:Nat->Prop) (m x:Nat) (V V':PV) (f:FuncId) (args:Array Value) (v:Value):Prop :=
 ∀ W,jjp w own m W x V->Calls Tryz.prog f args W fun e w'=>e=.returned v/\jjp w own m w' x V'/\∀ b,w.heap.size<=b->b<w.heap.size+m->w'.heap[b]?=W.heap[b]?
theorem jav {w W:World} {own:Nat->Prop} {m x:Nat} {V:PV} (h:jjp w own m W x V):W.cell? (aq x 8)=some (iv V.now)/\W.cell? (aq x 10)=some (pt V.tw 0)/\x<W.heap.size/\w.heap.size+m<=W.heap.size:=by
 obtain ⟨o1,⟨g,a1⟩,_,_,a4⟩:=h
 exact ⟨a1.cell 8 _ rfl,a1.cell 10 _ rfl,a1.xw,a4⟩
theorem jm4 {w W:World} {own:Nat->Prop} {m x b:Nat} {V:PV} {v0 v1 v2 v3 v4 v5:Value} (h:jjp w own m W x V) (hw:∀ k,own k->k<w.heap.size) (h1:w.heap.size<=b) (h2:b<w.heap.size+m) :
 jjp w own m ((((((W.setCell (aq b 0) v0).setCell (aq b 1) v1).setCell (aq b 2) v2).setCell (aq b 3) v3).setCell (aq b 4) v4).setCell (aq b 5) v5) x V :=
 jdg (jdg (jdg (jdg (jdg (jdg h hw h1 h2 v0) hw h1 h2 v1) hw h1 h2 v2) hw h1 h2 v3) hw h1 h2 v4) hw h1 h2 v5
theorem qcq (x tw:Nat) (own:Nat->Prop) (V V1 V2 V3 V5 V6 V7:PV) (num cust units cents up st sp e5 e6:Int) (w:World) (hw:∀ k,own k->k<w.heap.size) (h:psm w x own V) (hu:0<=units/\units<=4294967296) (hs:0<=V3.now+sp/\V3.now+sp<=9223372036854775807) (q2:(st==12)=false) (tV3:Hid (V3.tw=tw)) (tV5:Hid (V5.tw=tw)) (tV6:Hid (V6.tw=tw))
 (H1:Hid (jfa w own 2 x V V1 170 #[pt x 15,.agg #[iv num,iv cust,iv units,iv 12,iv cents,iv up]] (.tuple #[])))
 (H2:Hid (jfa w own 2 x V1 V2 171 #[pt x 19,iv cust,iv 12,iv (-units)] (.tuple #[])))
 (H3:Hid (jfa w own 2 x V2 V3 171 #[pt x 19,iv cust,iv st,iv units] (.tuple #[])))
 (HS:Hid (jfa w own 2 x V3 V3 173 #[pt x 0,iv st] (iv sp)))
 (H5:Hid (jfa w own 2 x V3 V5 77 #[pt tw 0,iv num] (iv e5)))
 (H6:Hid (jfa w own 2 x V5 V6 75 #[pt tw 0,iv num,iv (V3.now+sp)] (iv e6)))
 (H7:Hid (jfa w own 2 x V6 V7 174 #[pt x 11,.agg #[iv num,iv cust,iv units,iv st,iv cents,iv (V3.now+sp)]] (.tuple #[]))) :
 Calls Tryz.prog 157 #[pt x 0,.agg #[iv num,iv cust,iv units,iv 12,iv cents,iv up],iv st] w fun e w'=>e=.returned (.agg #[iv num,iv cust,iv units,iv st,iv cents,iv (V3.now+sp)])/\jb4 w w' x own V7:=by
 have hn:IntKind.i64.wrap (-units)=-units:=jab (by omega) (by omega)
 have hsum:IntKind.i64.wrap (V3.now+sp)=V3.now+sp:=jab (by omega) (by omega)
 clear hu hs
 replace hw:Hid _:=hw
 go_enter Tryz.func157,Tryz.ntmps157
 have hT0:Hid (jjp w own 2 ((w.alloc (.cells #[iv num,iv cust,iv units,iv 12,iv cents,iv up] 184)).alloc (.cells #[iv 0,iv 0,iv 0,iv 0,iv 0,iv 0] 184)) x V):=jh4 h (((Below.refl _ _).alloc (Nat.le_refl _) _).alloc (by simp) _) (by simp)
 have ob0:Hid (((w.alloc (.cells #[iv num,iv cust,iv units,iv 12,iv cents,iv up] 184)).alloc (.cells #[iv 0,iv 0,iv 0,iv 0,iv 0,iv 0] 184)).heap[w.heap.size]?=some (.cells #[iv num,iv cust,iv units,iv 12,iv cents,iv up] 184 (0,0))):=(Below.heap_alloc _ _ _ (by simp)).trans (heap_alloc_new w _)
 have rb0:Hid (((w.alloc (.cells #[iv num,iv cust,iv units,iv 12,iv cents,iv up] 184)).alloc (.cells #[iv 0,iv 0,iv 0,iv 0,iv 0,iv 0] 184)).heap[w.heap.size+1]?=some (.cells #[iv 0,iv 0,iv 0,iv 0,iv 0,iv 0] 184 (0,0))):=by
  have h:=heap_alloc_new (w.alloc (.cells #[iv num,iv cust,iv units,iv 12,iv cents,iv up] 184)) (.cells #[iv 0,iv 0,iv 0,iv 0,iv 0,iv 0] 184)
  rwa [show (w.alloc (.cells #[iv num,iv cust,iv units,iv 12,iv cents,iv up] 184)).heap.size=w.heap.size+1 by simp] at h
 have hxw:x<w.heap.size:=hw.out x (by obtain ⟨g,h⟩:=h;exact h.ownx)
 clear h
 go_wp2_with fail
 generalize (w.alloc (.cells #[iv num,iv cust,iv units,iv 12,iv cents,iv up] 184)).alloc (.cells #[iv 0,iv 0,iv 0,iv 0,iv 0,iv 0] 184)=W0 at hT0 ob0 rb0 ⊢
 obtain ⟨s0,s1,s2,s3,s4,s5⟩:=ja1 ob0.out
 obtain ⟨c8,c10,hx0,hz0⟩:=jav hT0.out
 have lw0:w.heap.size<W0.heap.size:=by omega
 have lv0:w.heap.size+1<W0.heap.size:=by omega
 have f3:=ja0 ob0.out 3
 have f5:=ja0 ob0.out 5
 go_region_held3 (fun w'=>w'.cell? (aq w.heap.size 0)=some (iv num)/\w'.cell? (aq w.heap.size 1)=some (iv cust)/\w'.cell? (aq w.heap.size 2)=some (iv units)/\w'.cell? (aq w.heap.size 3)=some (iv 12)/\w'.cell? (aq w.heap.size 4)=some (iv cents)/\w'.cell? (aq w.heap.size 5)=some (iv up)) (simp [go_sem, *])
  (first
    | (go_at_call 170;refine (H1.out _ (jat hT0.out bL)).mono ?_;rintro e W1 ⟨rfl,hT1,hk⟩
       have ob1:Hid (W1.heap[w.heap.size]?=some (.cells #[iv num,iv cust,iv units,iv 12,iv cents,iv up] 184 (0,0))):=(hk _ (Nat.le_refl _) (by omega)).trans ob0.out
       have rb1:Hid (W1.heap[w.heap.size+1]?=some (.cells #[iv 0,iv 0,iv 0,iv 0,iv 0,iv 0] 184 (0,0))):=(hk _ (by omega) (by omega)).trans rb0.out
       obtain ⟨s0',s1',s2',s3',s4',s5'⟩:=ja1 ob1.out
       obtain ⟨c8',c10',hx1,hz1⟩:=jav hT1
       have f5':=ja0 ob1.out 5
       have lw':w.heap.size<W1.heap.size:=by omega
       replace hT1:Hid _:=hT1
       clear hk))
 clear c8 c10 s0 s1 s2 s3 s4 s5 f3 f5 hx0 hz0 lw0 lv0 hT0 ob0 rb0 s0' s1' s2' s3' s4' s5' c8' c10' f5' lw' hx1 hz1
 obtain ⟨s0,s1,s2,s3,s4,s5⟩:=ja1 ob1.out
 obtain ⟨c8,c10,hx1,hz1⟩:=jav hT1.out
 have lw1:w.heap.size<W1.heap.size:=by omega
 have lv1:w.heap.size+1<W1.heap.size:=by omega
 have f3:=ja0 ob1.out 3
 have f5:=ja0 ob1.out 5
 go_wp2_with fail
 go_region_held3 (fun w'=>w'.cell? (aq w.heap.size 1)=some (iv cust)/\w'.cell? (aq w.heap.size 3)=some (iv 12)/\w'.cell? (aq w.heap.size 2)=some (iv units)) (simp [go_sem, *])
  (first
    | (go_at_call 171;refine (H2.out _ (jat hT1.out bL)).mono ?_;rintro e W2 ⟨rfl,hT2,hk⟩
       have ob2:Hid (W2.heap[w.heap.size]?=some (.cells #[iv num,iv cust,iv units,iv 12,iv cents,iv up] 184 (0,0))):=(hk _ (Nat.le_refl _) (by omega)).trans ob1.out
       have rb2:Hid (W2.heap[w.heap.size+1]?=some (.cells #[iv 0,iv 0,iv 0,iv 0,iv 0,iv 0] 184 (0,0))):=(hk _ (by omega) (by omega)).trans rb1.out
       obtain ⟨s0',s1',s2',s3',s4',s5'⟩:=ja1 ob2.out
       obtain ⟨c8',c10',hx2,hz2⟩:=jav hT2
       have f5':=ja0 ob2.out 5
       have lw':w.heap.size<W2.heap.size:=by omega
       replace hT2:Hid _:=hT2
       clear hk))
 clear c8 c10 s0 s1 s2 s3 s4 s5 f3 f5 hx1 hz1 lw1 lv1 hT1 ob1 rb1 s0' s1' s2' s3' s4' s5' c8' c10' f5' lw' hx2 hz2
 obtain ⟨s0,s1,s2,s3,s4,s5⟩:=ja1 ob2.out
 obtain ⟨c8,c10,hx2,hz2⟩:=jav hT2.out
 have lw2:w.heap.size<W2.heap.size:=by omega
 have lv2:w.heap.size+1<W2.heap.size:=by omega
 have f3:=ja0 ob2.out 3
 have f5:=ja0 ob2.out 5
 go_wp2_with fail
 have hT3:Hid (jjp w own 2 (W2.setCell (aq w.heap.size 3) (iv st)) x V2):=jdg hT2.out hw (Nat.le_refl _) (by omega) _
 have ob3:Hid ((W2.setCell (aq w.heap.size 3) (iv st)).heap[w.heap.size]?=some (.cells #[iv num,iv cust,iv units,iv st,iv cents,iv up] 184 (0,0))):=Joins.block_setCell (i:=3) ob2.out _
 have rb3:Hid ((W2.setCell (aq w.heap.size 3) (iv st)).heap[w.heap.size+1]?=some (.cells #[iv 0,iv 0,iv 0,iv 0,iv 0,iv 0] 184 (0,0))):=(Below.heap_setCell _ (aq w.heap.size 3) _ _ (by show w.heap.size+1≠w.heap.size;omega)).trans rb2.out
 clear c8 c10 s0 s1 s2 s3 s4 s5 f3 f5 hx2 hz2 lw2 lv2
 generalize W2.setCell (aq w.heap.size 3) (iv st)=W3 at hT3 ob3 rb3 ⊢
 clear hT2 ob2 rb2
 obtain ⟨s0,s1,s2,s3,s4,s5⟩:=ja1 ob3.out
 obtain ⟨c8,c10,hx3,hz3⟩:=jav hT3.out
 have lw3:w.heap.size<W3.heap.size:=by omega
 have lv3:w.heap.size+1<W3.heap.size:=by omega
 have f3:=ja0 ob3.out 3
 have f5:=ja0 ob3.out 5
 go_region_held3 (fun w'=>w'.cell? (aq w.heap.size 1)=some (iv cust)/\w'.cell? (aq w.heap.size 3)=some (iv st)/\w'.cell? (aq w.heap.size 2)=some (iv units)) (simp [go_sem, *])
  (first
    | (go_at_call 171;refine (H3.out _ (jat hT3.out bL)).mono ?_;rintro e W4 ⟨rfl,hT4,hk⟩
       have ob4:Hid (W4.heap[w.heap.size]?=some (.cells #[iv num,iv cust,iv units,iv st,iv cents,iv up] 184 (0,0))):=(hk _ (Nat.le_refl _) (by omega)).trans ob3.out
       have rb4:Hid (W4.heap[w.heap.size+1]?=some (.cells #[iv 0,iv 0,iv 0,iv 0,iv 0,iv 0] 184 (0,0))):=(hk _ (by omega) (by omega)).trans rb3.out
       obtain ⟨s0',s1',s2',s3',s4',s5'⟩:=ja1 ob4.out
       obtain ⟨c8',c10',hx4,hz4⟩:=jav hT4
       rw [tV3.out] at c10'
       have f5':=ja0 ob4.out 5
       have lw':w.heap.size<W4.heap.size:=by omega
       replace hT4:Hid _:=hT4
       clear hk))
 clear c8 c10 s0 s1 s2 s3 s4 s5 f3 f5 hx3 hz3 lw3 lv3 hT3 ob3 rb3 s0' s1' s2' s3' s4' s5' c8' c10' f5' lw' hx4 hz4
 obtain ⟨s0,s1,s2,s3,s4,s5⟩:=ja1 ob4.out
 obtain ⟨c8,c10,hx4,hz4⟩:=jav hT4.out
 rw [tV3.out] at c10
 have lw4:w.heap.size<W4.heap.size:=by omega
 have lv4:w.heap.size+1<W4.heap.size:=by omega
 have f3:=ja0 ob4.out 3
 have f5:=ja0 ob4.out 5
 go_wp2_with fail
 go_region_held3 (fun w'=>w'.cell? (aq x 8)=some (iv V3.now)) (simp [go_sem, *])
  (first
    | (go_at_call 173;refine (HS.out _ (jat hT4.out bL)).mono ?_;rintro e W5 ⟨rfl,hT5,hk⟩
       have ob5:Hid (W5.heap[w.heap.size]?=some (.cells #[iv num,iv cust,iv units,iv st,iv cents,iv up] 184 (0,0))):=(hk _ (Nat.le_refl _) (by omega)).trans ob4.out
       have rb5:Hid (W5.heap[w.heap.size+1]?=some (.cells #[iv 0,iv 0,iv 0,iv 0,iv 0,iv 0] 184 (0,0))):=(hk _ (by omega) (by omega)).trans rb4.out
       obtain ⟨s0',s1',s2',s3',s4',s5'⟩:=ja1 ob5.out
       obtain ⟨c8',c10',hx5,hz5⟩:=jav hT5
       rw [tV3.out] at c10'
       have f5':=ja0 ob5.out 5
       have lw':w.heap.size<W5.heap.size:=by omega
       replace hT5:Hid _:=hT5
       clear hk))
 clear c8 c10 s0 s1 s2 s3 s4 s5 f3 f5 hx4 hz4 lw4 lv4 hT4 ob4 rb4 s0' s1' s2' s3' s4' s5' c8' c10' f5' lw' hx5 hz5
 obtain ⟨s0,s1,s2,s3,s4,s5⟩:=ja1 ob5.out
 obtain ⟨c8,c10,hx5,hz5⟩:=jav hT5.out
 rw [tV3.out] at c10
 have lw5:w.heap.size<W5.heap.size:=by omega
 have lv5:w.heap.size+1<W5.heap.size:=by omega
 have f3:=ja0 ob5.out 3
 have f5:=ja0 ob5.out 5
 have hT6:Hid (jjp w own 2 (W5.setCell (aq w.heap.size 5) (iv (V3.now+sp))) x V3):=jdg hT5.out hw (Nat.le_refl _) (by omega) _
 have ob6:Hid ((W5.setCell (aq w.heap.size 5) (iv (V3.now+sp))).heap[w.heap.size]?=some (.cells #[iv num,iv cust,iv units,iv st,iv cents,iv (V3.now+sp)] 184 (0,0))):=Joins.block_setCell (i:=5) ob5.out _
 have rb6:Hid ((W5.setCell (aq w.heap.size 5) (iv (V3.now+sp))).heap[w.heap.size+1]?=some (.cells #[iv 0,iv 0,iv 0,iv 0,iv 0,iv 0] 184 (0,0))):=(Below.heap_setCell _ (aq w.heap.size 5) _ _ (by show w.heap.size+1≠w.heap.size;omega)).trans rb5.out
 clear c8 c10 s0 s1 s2 s3 s4 s5 f3 f5 hx5 hz5 lw5 lv5
 generalize W5.setCell (aq w.heap.size 5) (iv (V3.now+sp))=W6 at hT6 ob6 rb6 ⊢
 clear hT5 ob5 rb5
 obtain ⟨s0,s1,s2,s3,s4,s5⟩:=ja1 ob6.out
 obtain ⟨c8,c10,hx6,hz6⟩:=jav hT6.out
 rw [tV3.out] at c10
 have lw6:w.heap.size<W6.heap.size:=by omega
 have lv6:w.heap.size+1<W6.heap.size:=by omega
 have f3:=ja0 ob6.out 3
 have f5:=ja0 ob6.out 5
 go_wp2_with fail
 go_region_held3 (fun w'=>w'.cell? (aq w.heap.size 0)=some (iv num)/\w'.cell? (aq x 10)=some (pt tw 0)) (simp [go_sem, *])
  (first
    | (go_at_call 77;refine (H5.out _ (jat hT6.out bL)).mono ?_;rintro e W7 ⟨rfl,hT7,hk⟩
       have ob7:Hid (W7.heap[w.heap.size]?=some (.cells #[iv num,iv cust,iv units,iv st,iv cents,iv (V3.now+sp)] 184 (0,0))):=(hk _ (Nat.le_refl _) (by omega)).trans ob6.out
       have rb7:Hid (W7.heap[w.heap.size+1]?=some (.cells #[iv 0,iv 0,iv 0,iv 0,iv 0,iv 0] 184 (0,0))):=(hk _ (by omega) (by omega)).trans rb6.out
       obtain ⟨s0',s1',s2',s3',s4',s5'⟩:=ja1 ob7.out
       obtain ⟨c8',c10',hx7,hz7⟩:=jav hT7
       rw [tV5.out] at c10'
       have f5':=ja0 ob7.out 5
       have lw':w.heap.size<W7.heap.size:=by omega
       replace hT7:Hid _:=hT7
       clear hk))
 clear c8 c10 s0 s1 s2 s3 s4 s5 f3 f5 hx6 hz6 lw6 lv6 hT6 ob6 rb6 s0' s1' s2' s3' s4' s5' c8' c10' f5' lw' hx7 hz7
 obtain ⟨s0,s1,s2,s3,s4,s5⟩:=ja1 ob7.out
 obtain ⟨c8,c10,hx7,hz7⟩:=jav hT7.out
 rw [tV5.out] at c10
 have lw7:w.heap.size<W7.heap.size:=by omega
 have lv7:w.heap.size+1<W7.heap.size:=by omega
 have f3:=ja0 ob7.out 3
 have f5:=ja0 ob7.out 5
 go_wp2_with fail
 go_region_held3 (fun w'=>w'.cell? (aq w.heap.size 0)=some (iv num)/\w'.cell? (aq w.heap.size 5)=some (iv (V3.now+sp))/\w'.cell? (aq x 10)=some (pt tw 0)) (simp [go_sem, *])
  (first
    | (go_at_call 75;refine (H6.out _ (jat hT7.out bL)).mono ?_;rintro e W8 ⟨rfl,hT8,hk⟩
       have ob8:Hid (W8.heap[w.heap.size]?=some (.cells #[iv num,iv cust,iv units,iv st,iv cents,iv (V3.now+sp)] 184 (0,0))):=(hk _ (Nat.le_refl _) (by omega)).trans ob7.out
       have rb8:Hid (W8.heap[w.heap.size+1]?=some (.cells #[iv 0,iv 0,iv 0,iv 0,iv 0,iv 0] 184 (0,0))):=(hk _ (by omega) (by omega)).trans rb7.out
       obtain ⟨s0',s1',s2',s3',s4',s5'⟩:=ja1 ob8.out
       obtain ⟨c8',c10',hx8,hz8⟩:=jav hT8
       rw [tV6.out] at c10'
       have f5':=ja0 ob8.out 5
       have lw':w.heap.size<W8.heap.size:=by omega
       replace hT8:Hid _:=hT8
       clear hk))
 clear c8 c10 s0 s1 s2 s3 s4 s5 f3 f5 hx7 hz7 lw7 lv7 hT7 ob7 rb7 s0' s1' s2' s3' s4' s5' c8' c10' f5' lw' hx8 hz8
 obtain ⟨s0,s1,s2,s3,s4,s5⟩:=ja1 ob8.out
 obtain ⟨c8,c10,hx8,hz8⟩:=jav hT8.out
 rw [tV6.out] at c10
 have lw8:w.heap.size<W8.heap.size:=by omega
 have lv8:w.heap.size+1<W8.heap.size:=by omega
 have f3:=ja0 ob8.out 3
 have f5:=ja0 ob8.out 5
 go_wp2_with fail
 go_region_held3 (fun w'=>w'.cell? (aq w.heap.size 0)=some (iv num)/\w'.cell? (aq w.heap.size 1)=some (iv cust)/\w'.cell? (aq w.heap.size 2)=some (iv units)/\w'.cell? (aq w.heap.size 3)=some (iv st)/\w'.cell? (aq w.heap.size 4)=some (iv cents)/\w'.cell? (aq w.heap.size 5)=some (iv (V3.now+sp))) (simp [go_sem, *])
  (first
    | (go_at_call 174;refine (H7.out _ (jat hT8.out bL)).mono ?_;rintro e W9 ⟨rfl,hT9,hk⟩
       have ob9:Hid (W9.heap[w.heap.size]?=some (.cells #[iv num,iv cust,iv units,iv st,iv cents,iv (V3.now+sp)] 184 (0,0))):=(hk _ (Nat.le_refl _) (by omega)).trans ob8.out
       have rb9:Hid (W9.heap[w.heap.size+1]?=some (.cells #[iv 0,iv 0,iv 0,iv 0,iv 0,iv 0] 184 (0,0))):=(hk _ (by omega) (by omega)).trans rb8.out
       obtain ⟨s0',s1',s2',s3',s4',s5'⟩:=ja1 ob9.out
       obtain ⟨c8',c10',hx9,hz9⟩:=jav hT9
       have f5':=ja0 ob9.out 5
       have lw':w.heap.size<W9.heap.size:=by omega
       replace hT9:Hid _:=hT9
       clear hk))
 clear c8 c10 s0 s1 s2 s3 s4 s5 f3 f5 hx8 hz8 lw8 lv8 hT8 ob8 rb8 s0' s1' s2' s3' s4' s5' c8' c10' f5' lw' hx9 hz9
 obtain ⟨s0,s1,s2,s3,s4,s5⟩:=ja1 ob9.out
 obtain ⟨c8,c10,hx9,hz9⟩:=jav hT9.out
 have lw9:w.heap.size<W9.heap.size:=by omega
 have lv9:w.heap.size+1<W9.heap.size:=by omega
 have f3:=ja0 ob9.out 3
 have f5:=ja0 ob9.out 5
 have HE:Hid (∀ v0 v1 v2 v3 v4 v5,jb4 w ((((((W9.setCell (aq (w.heap.size+1) 0) v0).setCell (aq (w.heap.size+1) 1) v1).setCell (aq (w.heap.size+1) 2) v2).setCell (aq (w.heap.size+1) 3) v3).setCell (aq (w.heap.size+1) 4) v4).setCell (aq (w.heap.size+1) 5) v5) x own V7):=fun v0 v1 v2 v3 v4 v5=>jl7 (jm4 hT9.out hw.out (by omega) (by omega))
 have g0:=ja0 rb9.out 0
 have g1:=ja0 rb9.out 1
 have g2:=ja0 rb9.out 2
 have g3:=ja0 rb9.out 3
 have g4:=ja0 rb9.out 4
 have g5:=ja0 rb9.out 5
 obtain ⟨r0,r1,r2,r3,r4,r5⟩:=ja1 rb9.out
 go_wp2
 refine bodyPost_ret (v:=.agg #[iv num,iv cust,iv units,iv st,iv cents,iv (V3.now+sp)]) (by simp [results,Tryz.results157,go_sem,r0,r1,r2,r3,r4,r5]) rfl ⟨rfl,?_⟩
 exact HE.out _ _ _ _ _ _
theorem jx7 (x tw:Nat) (own:Nat->Prop) (V V2 V3 V5 V6 V7:PV) (num cust units od0 cents up st sp e5 e6:Int) (w:World) (hw:∀ k,own k->k<w.heap.size) (h:psm w x own V) (hu:0<=units/\units<=4294967296) (hs:0<=V3.now+sp/\V3.now+sp<=9223372036854775807) (q1:(od0==12)=false) (q2:(st==12)=false) (tV3:Hid (V3.tw=tw)) (tV5:Hid (V5.tw=tw)) (tV6:Hid (V6.tw=tw))
 (H2:Hid (jfa w own 2 x V V2 171 #[pt x 19,iv cust,iv od0,iv (-units)] (.tuple #[])))
 (H3:Hid (jfa w own 2 x V2 V3 171 #[pt x 19,iv cust,iv st,iv units] (.tuple #[])))
 (HS:Hid (jfa w own 2 x V3 V3 173 #[pt x 0,iv st] (iv sp)))
 (H5:Hid (jfa w own 2 x V3 V5 77 #[pt tw 0,iv num] (iv e5)))
 (H6:Hid (jfa w own 2 x V5 V6 75 #[pt tw 0,iv num,iv (V3.now+sp)] (iv e6)))
 (H7:Hid (jfa w own 2 x V6 V7 174 #[pt x 11,.agg #[iv num,iv cust,iv units,iv st,iv cents,iv (V3.now+sp)]] (.tuple #[]))) :
 Calls Tryz.prog 157 #[pt x 0,.agg #[iv num,iv cust,iv units,iv od0,iv cents,iv up],iv st] w fun e w'=>e=.returned (.agg #[iv num,iv cust,iv units,iv st,iv cents,iv (V3.now+sp)])/\jb4 w w' x own V7:=by
 have hn:IntKind.i64.wrap (-units)=-units:=jab (by omega) (by omega)
 have hsum:IntKind.i64.wrap (V3.now+sp)=V3.now+sp:=jab (by omega) (by omega)
 clear hu hs
 replace hw:Hid _:=hw
 go_enter Tryz.func157,Tryz.ntmps157
 have hT0:Hid (jjp w own 2 ((w.alloc (.cells #[iv num,iv cust,iv units,iv od0,iv cents,iv up] 184)).alloc (.cells #[iv 0,iv 0,iv 0,iv 0,iv 0,iv 0] 184)) x V):=jh4 h (((Below.refl _ _).alloc (Nat.le_refl _) _).alloc (by simp) _) (by simp)
 have ob0:Hid (((w.alloc (.cells #[iv num,iv cust,iv units,iv od0,iv cents,iv up] 184)).alloc (.cells #[iv 0,iv 0,iv 0,iv 0,iv 0,iv 0] 184)).heap[w.heap.size]?=some (.cells #[iv num,iv cust,iv units,iv od0,iv cents,iv up] 184 (0,0))):=(Below.heap_alloc _ _ _ (by simp)).trans (heap_alloc_new w _)
 have rb0:Hid (((w.alloc (.cells #[iv num,iv cust,iv units,iv od0,iv cents,iv up] 184)).alloc (.cells #[iv 0,iv 0,iv 0,iv 0,iv 0,iv 0] 184)).heap[w.heap.size+1]?=some (.cells #[iv 0,iv 0,iv 0,iv 0,iv 0,iv 0] 184 (0,0))):=by
  have h:=heap_alloc_new (w.alloc (.cells #[iv num,iv cust,iv units,iv od0,iv cents,iv up] 184)) (.cells #[iv 0,iv 0,iv 0,iv 0,iv 0,iv 0] 184)
  rwa [show (w.alloc (.cells #[iv num,iv cust,iv units,iv od0,iv cents,iv up] 184)).heap.size=w.heap.size+1 by simp] at h
 have hxw:x<w.heap.size:=hw.out x (by obtain ⟨g,h⟩:=h;exact h.ownx)
 clear h
 go_wp2_with fail
 generalize (w.alloc (.cells #[iv num,iv cust,iv units,iv od0,iv cents,iv up] 184)).alloc (.cells #[iv 0,iv 0,iv 0,iv 0,iv 0,iv 0] 184)=W0 at hT0 ob0 rb0 ⊢
 obtain ⟨s0,s1,s2,s3,s4,s5⟩:=ja1 ob0.out
 obtain ⟨c8,c10,hx0,hz0⟩:=jav hT0.out
 have lw0:w.heap.size<W0.heap.size:=by omega
 have lv0:w.heap.size+1<W0.heap.size:=by omega
 have f3:=ja0 ob0.out 3
 have f5:=ja0 ob0.out 5
 go_region_held3 (fun w'=>w'.cell? (aq w.heap.size 1)=some (iv cust)/\w'.cell? (aq w.heap.size 3)=some (iv od0)/\w'.cell? (aq w.heap.size 2)=some (iv units)) (simp [go_sem, *])
  (first
    | (go_at_call 171;refine (H2.out _ (jat hT0.out bL)).mono ?_;rintro e W1 ⟨rfl,hT1,hk⟩
       have ob1:Hid (W1.heap[w.heap.size]?=some (.cells #[iv num,iv cust,iv units,iv od0,iv cents,iv up] 184 (0,0))):=(hk _ (Nat.le_refl _) (by omega)).trans ob0.out
       have rb1:Hid (W1.heap[w.heap.size+1]?=some (.cells #[iv 0,iv 0,iv 0,iv 0,iv 0,iv 0] 184 (0,0))):=(hk _ (by omega) (by omega)).trans rb0.out
       obtain ⟨s0',s1',s2',s3',s4',s5'⟩:=ja1 ob1.out
       obtain ⟨c8',c10',hx1,hz1⟩:=jav hT1
       have f5':=ja0 ob1.out 5
       have lw':w.heap.size<W1.heap.size:=by omega
       replace hT1:Hid _:=hT1
       clear hk))
 clear c8 c10 s0 s1 s2 s3 s4 s5 f3 f5 hx0 hz0 lw0 lv0 hT0 ob0 rb0 s0' s1' s2' s3' s4' s5' c8' c10' f5' lw' hx1 hz1
 obtain ⟨s0,s1,s2,s3,s4,s5⟩:=ja1 ob1.out
 obtain ⟨c8,c10,hx1,hz1⟩:=jav hT1.out
 have lw1:w.heap.size<W1.heap.size:=by omega
 have lv1:w.heap.size+1<W1.heap.size:=by omega
 have f3:=ja0 ob1.out 3
 have f5:=ja0 ob1.out 5
 go_wp2_with fail
 have hT2:Hid (jjp w own 2 (W1.setCell (aq w.heap.size 3) (iv st)) x V2):=jdg hT1.out hw (Nat.le_refl _) (by omega) _
 have ob2:Hid ((W1.setCell (aq w.heap.size 3) (iv st)).heap[w.heap.size]?=some (.cells #[iv num,iv cust,iv units,iv st,iv cents,iv up] 184 (0,0))):=Joins.block_setCell (i:=3) ob1.out _
 have rb2:Hid ((W1.setCell (aq w.heap.size 3) (iv st)).heap[w.heap.size+1]?=some (.cells #[iv 0,iv 0,iv 0,iv 0,iv 0,iv 0] 184 (0,0))):=(Below.heap_setCell _ (aq w.heap.size 3) _ _ (by show w.heap.size+1≠w.heap.size;omega)).trans rb1.out
 clear c8 c10 s0 s1 s2 s3 s4 s5 f3 f5 hx1 hz1 lw1 lv1
 generalize W1.setCell (aq w.heap.size 3) (iv st)=W2 at hT2 ob2 rb2 ⊢
 clear hT1 ob1 rb1
 obtain ⟨s0,s1,s2,s3,s4,s5⟩:=ja1 ob2.out
 obtain ⟨c8,c10,hx2,hz2⟩:=jav hT2.out
 have lw2:w.heap.size<W2.heap.size:=by omega
 have lv2:w.heap.size+1<W2.heap.size:=by omega
 have f3:=ja0 ob2.out 3
 have f5:=ja0 ob2.out 5
 go_region_held3 (fun w'=>w'.cell? (aq w.heap.size 1)=some (iv cust)/\w'.cell? (aq w.heap.size 3)=some (iv st)/\w'.cell? (aq w.heap.size 2)=some (iv units)) (simp [go_sem, *])
  (first
    | (go_at_call 171;refine (H3.out _ (jat hT2.out bL)).mono ?_;rintro e W3 ⟨rfl,hT3,hk⟩
       have ob3:Hid (W3.heap[w.heap.size]?=some (.cells #[iv num,iv cust,iv units,iv st,iv cents,iv up] 184 (0,0))):=(hk _ (Nat.le_refl _) (by omega)).trans ob2.out
       have rb3:Hid (W3.heap[w.heap.size+1]?=some (.cells #[iv 0,iv 0,iv 0,iv 0,iv 0,iv 0] 184 (0,0))):=(hk _ (by omega) (by omega)).trans rb2.out
       obtain ⟨s0',s1',s2',s3',s4',s5'⟩:=ja1 ob3.out
       obtain ⟨c8',c10',hx3,hz3⟩:=jav hT3
       rw [tV3.out] at c10'
       have f5':=ja0 ob3.out 5
       have lw':w.heap.size<W3.heap.size:=by omega
       replace hT3:Hid _:=hT3
       clear hk))
 clear c8 c10 s0 s1 s2 s3 s4 s5 f3 f5 hx2 hz2 lw2 lv2 hT2 ob2 rb2 s0' s1' s2' s3' s4' s5' c8' c10' f5' lw' hx3 hz3
 obtain ⟨s0,s1,s2,s3,s4,s5⟩:=ja1 ob3.out
 obtain ⟨c8,c10,hx3,hz3⟩:=jav hT3.out
 rw [tV3.out] at c10
 have lw3:w.heap.size<W3.heap.size:=by omega
 have lv3:w.heap.size+1<W3.heap.size:=by omega
 have f3:=ja0 ob3.out 3
 have f5:=ja0 ob3.out 5
 go_wp2_with fail
 go_region_held3 (fun w'=>w'.cell? (aq x 8)=some (iv V3.now)) (simp [go_sem, *])
  (first
    | (go_at_call 173;refine (HS.out _ (jat hT3.out bL)).mono ?_;rintro e W4 ⟨rfl,hT4,hk⟩
       have ob4:Hid (W4.heap[w.heap.size]?=some (.cells #[iv num,iv cust,iv units,iv st,iv cents,iv up] 184 (0,0))):=(hk _ (Nat.le_refl _) (by omega)).trans ob3.out
       have rb4:Hid (W4.heap[w.heap.size+1]?=some (.cells #[iv 0,iv 0,iv 0,iv 0,iv 0,iv 0] 184 (0,0))):=(hk _ (by omega) (by omega)).trans rb3.out
       obtain ⟨s0',s1',s2',s3',s4',s5'⟩:=ja1 ob4.out
       obtain ⟨c8',c10',hx4,hz4⟩:=jav hT4
       rw [tV3.out] at c10'
       have f5':=ja0 ob4.out 5
       have lw':w.heap.size<W4.heap.size:=by omega
       replace hT4:Hid _:=hT4
       clear hk))
 clear c8 c10 s0 s1 s2 s3 s4 s5 f3 f5 hx3 hz3 lw3 lv3 hT3 ob3 rb3 s0' s1' s2' s3' s4' s5' c8' c10' f5' lw' hx4 hz4
 obtain ⟨s0,s1,s2,s3,s4,s5⟩:=ja1 ob4.out
 obtain ⟨c8,c10,hx4,hz4⟩:=jav hT4.out
 rw [tV3.out] at c10
 have lw4:w.heap.size<W4.heap.size:=by omega
 have lv4:w.heap.size+1<W4.heap.size:=by omega
 have f3:=ja0 ob4.out 3
 have f5:=ja0 ob4.out 5
 have hT5:Hid (jjp w own 2 (W4.setCell (aq w.heap.size 5) (iv (V3.now+sp))) x V3):=jdg hT4.out hw (Nat.le_refl _) (by omega) _
 have ob5:Hid ((W4.setCell (aq w.heap.size 5) (iv (V3.now+sp))).heap[w.heap.size]?=some (.cells #[iv num,iv cust,iv units,iv st,iv cents,iv (V3.now+sp)] 184 (0,0))):=Joins.block_setCell (i:=5) ob4.out _
 have rb5:Hid ((W4.setCell (aq w.heap.size 5) (iv (V3.now+sp))).heap[w.heap.size+1]?=some (.cells #[iv 0,iv 0,iv 0,iv 0,iv 0,iv 0] 184 (0,0))):=(Below.heap_setCell _ (aq w.heap.size 5) _ _ (by show w.heap.size+1≠w.heap.size;omega)).trans rb4.out
 clear c8 c10 s0 s1 s2 s3 s4 s5 f3 f5 hx4 hz4 lw4 lv4
 generalize W4.setCell (aq w.heap.size 5) (iv (V3.now+sp))=W5 at hT5 ob5 rb5 ⊢
 clear hT4 ob4 rb4
 obtain ⟨s0,s1,s2,s3,s4,s5⟩:=ja1 ob5.out
 obtain ⟨c8,c10,hx5,hz5⟩:=jav hT5.out
 rw [tV3.out] at c10
 have lw5:w.heap.size<W5.heap.size:=by omega
 have lv5:w.heap.size+1<W5.heap.size:=by omega
 have f3:=ja0 ob5.out 3
 have f5:=ja0 ob5.out 5
 go_wp2_with fail
 go_region_held3 (fun w'=>w'.cell? (aq w.heap.size 0)=some (iv num)/\w'.cell? (aq x 10)=some (pt tw 0)) (simp [go_sem, *])
  (first
    | (go_at_call 77;refine (H5.out _ (jat hT5.out bL)).mono ?_;rintro e W6 ⟨rfl,hT6,hk⟩
       have ob6:Hid (W6.heap[w.heap.size]?=some (.cells #[iv num,iv cust,iv units,iv st,iv cents,iv (V3.now+sp)] 184 (0,0))):=(hk _ (Nat.le_refl _) (by omega)).trans ob5.out
       have rb6:Hid (W6.heap[w.heap.size+1]?=some (.cells #[iv 0,iv 0,iv 0,iv 0,iv 0,iv 0] 184 (0,0))):=(hk _ (by omega) (by omega)).trans rb5.out
       obtain ⟨s0',s1',s2',s3',s4',s5'⟩:=ja1 ob6.out
       obtain ⟨c8',c10',hx6,hz6⟩:=jav hT6
       rw [tV5.out] at c10'
       have f5':=ja0 ob6.out 5
       have lw':w.heap.size<W6.heap.size:=by omega
       replace hT6:Hid _:=hT6
       clear hk))
 clear c8 c10 s0 s1 s2 s3 s4 s5 f3 f5 hx5 hz5 lw5 lv5 hT5 ob5 rb5 s0' s1' s2' s3' s4' s5' c8' c10' f5' lw' hx6 hz6
 obtain ⟨s0,s1,s2,s3,s4,s5⟩:=ja1 ob6.out
 obtain ⟨c8,c10,hx6,hz6⟩:=jav hT6.out
 rw [tV5.out] at c10
 have lw6:w.heap.size<W6.heap.size:=by omega
 have lv6:w.heap.size+1<W6.heap.size:=by omega
 have f3:=ja0 ob6.out 3
 have f5:=ja0 ob6.out 5
 go_wp2_with fail
 go_region_held3 (fun w'=>w'.cell? (aq w.heap.size 0)=some (iv num)/\w'.cell? (aq w.heap.size 5)=some (iv (V3.now+sp))/\w'.cell? (aq x 10)=some (pt tw 0)) (simp [go_sem, *])
  (first
    | (go_at_call 75;refine (H6.out _ (jat hT6.out bL)).mono ?_;rintro e W7 ⟨rfl,hT7,hk⟩
       have ob7:Hid (W7.heap[w.heap.size]?=some (.cells #[iv num,iv cust,iv units,iv st,iv cents,iv (V3.now+sp)] 184 (0,0))):=(hk _ (Nat.le_refl _) (by omega)).trans ob6.out
       have rb7:Hid (W7.heap[w.heap.size+1]?=some (.cells #[iv 0,iv 0,iv 0,iv 0,iv 0,iv 0] 184 (0,0))):=(hk _ (by omega) (by omega)).trans rb6.out
       obtain ⟨s0',s1',s2',s3',s4',s5'⟩:=ja1 ob7.out
       obtain ⟨c8',c10',hx7,hz7⟩:=jav hT7
       rw [tV6.out] at c10'
       have f5':=ja0 ob7.out 5
       have lw':w.heap.size<W7.heap.size:=by omega
       replace hT7:Hid _:=hT7
       clear hk))
 clear c8 c10 s0 s1 s2 s3 s4 s5 f3 f5 hx6 hz6 lw6 lv6 hT6 ob6 rb6 s0' s1' s2' s3' s4' s5' c8' c10' f5' lw' hx7 hz7
 obtain ⟨s0,s1,s2,s3,s4,s5⟩:=ja1 ob7.out
 obtain ⟨c8,c10,hx7,hz7⟩:=jav hT7.out
 rw [tV6.out] at c10
 have lw7:w.heap.size<W7.heap.size:=by omega
 have lv7:w.heap.size+1<W7.heap.size:=by omega
 have f3:=ja0 ob7.out 3
 have f5:=ja0 ob7.out 5
 go_wp2_with fail
 go_region_held3 (fun w'=>w'.cell? (aq w.heap.size 0)=some (iv num)/\w'.cell? (aq w.heap.size 1)=some (iv cust)/\w'.cell? (aq w.heap.size 2)=some (iv units)/\w'.cell? (aq w.heap.size 3)=some (iv st)/\w'.cell? (aq w.heap.size 4)=some (iv cents)/\w'.cell? (aq w.heap.size 5)=some (iv (V3.now+sp))) (simp [go_sem, *])
  (first
    | (go_at_call 174;refine (H7.out _ (jat hT7.out bL)).mono ?_;rintro e W8 ⟨rfl,hT8,hk⟩
       have ob8:Hid (W8.heap[w.heap.size]?=some (.cells #[iv num,iv cust,iv units,iv st,iv cents,iv (V3.now+sp)] 184 (0,0))):=(hk _ (Nat.le_refl _) (by omega)).trans ob7.out
       have rb8:Hid (W8.heap[w.heap.size+1]?=some (.cells #[iv 0,iv 0,iv 0,iv 0,iv 0,iv 0] 184 (0,0))):=(hk _ (by omega) (by omega)).trans rb7.out
       obtain ⟨s0',s1',s2',s3',s4',s5'⟩:=ja1 ob8.out
       obtain ⟨c8',c10',hx8,hz8⟩:=jav hT8
       have f5':=ja0 ob8.out 5
       have lw':w.heap.size<W8.heap.size:=by omega
       replace hT8:Hid _:=hT8
       clear hk))
 clear c8 c10 s0 s1 s2 s3 s4 s5 f3 f5 hx7 hz7 lw7 lv7 hT7 ob7 rb7 s0' s1' s2' s3' s4' s5' c8' c10' f5' lw' hx8 hz8
 obtain ⟨s0,s1,s2,s3,s4,s5⟩:=ja1 ob8.out
 obtain ⟨c8,c10,hx8,hz8⟩:=jav hT8.out
 have lw8:w.heap.size<W8.heap.size:=by omega
 have lv8:w.heap.size+1<W8.heap.size:=by omega
 have f3:=ja0 ob8.out 3
 have f5:=ja0 ob8.out 5
 have HE:Hid (∀ v0 v1 v2 v3 v4 v5,jb4 w ((((((W8.setCell (aq (w.heap.size+1) 0) v0).setCell (aq (w.heap.size+1) 1) v1).setCell (aq (w.heap.size+1) 2) v2).setCell (aq (w.heap.size+1) 3) v3).setCell (aq (w.heap.size+1) 4) v4).setCell (aq (w.heap.size+1) 5) v5) x own V7):=fun v0 v1 v2 v3 v4 v5=>jl7 (jm4 hT8.out hw.out (by omega) (by omega))
 have g0:=ja0 rb8.out 0
 have g1:=ja0 rb8.out 1
 have g2:=ja0 rb8.out 2
 have g3:=ja0 rb8.out 3
 have g4:=ja0 rb8.out 4
 have g5:=ja0 rb8.out 5
 obtain ⟨r0,r1,r2,r3,r4,r5⟩:=ja1 rb8.out
 go_wp2
 refine bodyPost_ret (v:=.agg #[iv num,iv cust,iv units,iv st,iv cents,iv (V3.now+sp)]) (by simp [results,Tryz.results157,go_sem,r0,r1,r2,r3,r4,r5]) rfl ⟨rfl,?_⟩
 exact HE.out _ _ _ _ _ _
theorem qeh (x tw:Nat) (own:Nat->Prop) (V V2 V3 V4 V5 V6 V7:PV) (num cust units od0 cents up sp e5 e6:Int) (w:World) (hw:∀ k,own k->k<w.heap.size) (h:psm w x own V) (hu:0<=units/\units<=4294967296) (hs:0<=V4.now+sp/\V4.now+sp<=9223372036854775807) (q1:(od0==12)=false) (tV4:Hid (V4.tw=tw)) (tV5:Hid (V5.tw=tw)) (tV6:Hid (V6.tw=tw))
 (H2:Hid (jfa w own 2 x V V2 171 #[pt x 19,iv cust,iv od0,iv (-units)] (.tuple #[])))
 (H3:Hid (jfa w own 2 x V2 V3 171 #[pt x 19,iv cust,iv 12,iv units] (.tuple #[])))
 (H4:Hid (jfa w own 2 x V3 V4 172 #[pt x 15,.agg #[iv num,iv cust,iv units,iv 12,iv cents,iv up]] (.tuple #[])))
 (HS:Hid (jfa w own 2 x V4 V4 173 #[pt x 0,iv 12] (iv sp)))
 (H5:Hid (jfa w own 2 x V4 V5 77 #[pt tw 0,iv num] (iv e5)))
 (H6:Hid (jfa w own 2 x V5 V6 75 #[pt tw 0,iv num,iv (V4.now+sp)] (iv e6)))
 (H7:Hid (jfa w own 2 x V6 V7 174 #[pt x 11,.agg #[iv num,iv cust,iv units,iv 12,iv cents,iv (V4.now+sp)]] (.tuple #[]))) :
 Calls Tryz.prog 157 #[pt x 0,.agg #[iv num,iv cust,iv units,iv od0,iv cents,iv up],iv 12] w fun e w'=>e=.returned (.agg #[iv num,iv cust,iv units,iv 12,iv cents,iv (V4.now+sp)])/\jb4 w w' x own V7:=by
 have hn:IntKind.i64.wrap (-units)=-units:=jab (by omega) (by omega)
 have hsum:IntKind.i64.wrap (V4.now+sp)=V4.now+sp:=jab (by omega) (by omega)
 clear hu hs
 replace hw:Hid _:=hw
 go_enter Tryz.func157,Tryz.ntmps157
 have hT0:Hid (jjp w own 2 ((w.alloc (.cells #[iv num,iv cust,iv units,iv od0,iv cents,iv up] 184)).alloc (.cells #[iv 0,iv 0,iv 0,iv 0,iv 0,iv 0] 184)) x V):=jh4 h (((Below.refl _ _).alloc (Nat.le_refl _) _).alloc (by simp) _) (by simp)
 have ob0:Hid (((w.alloc (.cells #[iv num,iv cust,iv units,iv od0,iv cents,iv up] 184)).alloc (.cells #[iv 0,iv 0,iv 0,iv 0,iv 0,iv 0] 184)).heap[w.heap.size]?=some (.cells #[iv num,iv cust,iv units,iv od0,iv cents,iv up] 184 (0,0))):=(Below.heap_alloc _ _ _ (by simp)).trans (heap_alloc_new w _)
 have rb0:Hid (((w.alloc (.cells #[iv num,iv cust,iv units,iv od0,iv cents,iv up] 184)).alloc (.cells #[iv 0,iv 0,iv 0,iv 0,iv 0,iv 0] 184)).heap[w.heap.size+1]?=some (.cells #[iv 0,iv 0,iv 0,iv 0,iv 0,iv 0] 184 (0,0))):=by
  have h:=heap_alloc_new (w.alloc (.cells #[iv num,iv cust,iv units,iv od0,iv cents,iv up] 184)) (.cells #[iv 0,iv 0,iv 0,iv 0,iv 0,iv 0] 184)
  rwa [show (w.alloc (.cells #[iv num,iv cust,iv units,iv od0,iv cents,iv up] 184)).heap.size=w.heap.size+1 by simp] at h
 have hxw:x<w.heap.size:=hw.out x (by obtain ⟨g,h⟩:=h;exact h.ownx)
 clear h
 go_wp2_with fail
 generalize (w.alloc (.cells #[iv num,iv cust,iv units,iv od0,iv cents,iv up] 184)).alloc (.cells #[iv 0,iv 0,iv 0,iv 0,iv 0,iv 0] 184)=W0 at hT0 ob0 rb0 ⊢
 obtain ⟨s0,s1,s2,s3,s4,s5⟩:=ja1 ob0.out
 obtain ⟨c8,c10,hx0,hz0⟩:=jav hT0.out
 have lw0:w.heap.size<W0.heap.size:=by omega
 have lv0:w.heap.size+1<W0.heap.size:=by omega
 have f3:=ja0 ob0.out 3
 have f5:=ja0 ob0.out 5
 go_region_held3 (fun w'=>w'.cell? (aq w.heap.size 1)=some (iv cust)/\w'.cell? (aq w.heap.size 3)=some (iv od0)/\w'.cell? (aq w.heap.size 2)=some (iv units)) (simp [go_sem, *])
  (first
    | (go_at_call 171;refine (H2.out _ (jat hT0.out bL)).mono ?_;rintro e W1 ⟨rfl,hT1,hk⟩
       have ob1:Hid (W1.heap[w.heap.size]?=some (.cells #[iv num,iv cust,iv units,iv od0,iv cents,iv up] 184 (0,0))):=(hk _ (Nat.le_refl _) (by omega)).trans ob0.out
       have rb1:Hid (W1.heap[w.heap.size+1]?=some (.cells #[iv 0,iv 0,iv 0,iv 0,iv 0,iv 0] 184 (0,0))):=(hk _ (by omega) (by omega)).trans rb0.out
       obtain ⟨s0',s1',s2',s3',s4',s5'⟩:=ja1 ob1.out
       obtain ⟨c8',c10',hx1,hz1⟩:=jav hT1
       have f5':=ja0 ob1.out 5
       have lw':w.heap.size<W1.heap.size:=by omega
       replace hT1:Hid _:=hT1
       clear hk))
 clear c8 c10 s0 s1 s2 s3 s4 s5 f3 f5 hx0 hz0 lw0 lv0 hT0 ob0 rb0 s0' s1' s2' s3' s4' s5' c8' c10' f5' lw' hx1 hz1
 obtain ⟨s0,s1,s2,s3,s4,s5⟩:=ja1 ob1.out
 obtain ⟨c8,c10,hx1,hz1⟩:=jav hT1.out
 have lw1:w.heap.size<W1.heap.size:=by omega
 have lv1:w.heap.size+1<W1.heap.size:=by omega
 have f3:=ja0 ob1.out 3
 have f5:=ja0 ob1.out 5
 go_wp2_with fail
 have hT2:Hid (jjp w own 2 (W1.setCell (aq w.heap.size 3) (iv 12)) x V2):=jdg hT1.out hw (Nat.le_refl _) (by omega) _
 have ob2:Hid ((W1.setCell (aq w.heap.size 3) (iv 12)).heap[w.heap.size]?=some (.cells #[iv num,iv cust,iv units,iv 12,iv cents,iv up] 184 (0,0))):=Joins.block_setCell (i:=3) ob1.out _
 have rb2:Hid ((W1.setCell (aq w.heap.size 3) (iv 12)).heap[w.heap.size+1]?=some (.cells #[iv 0,iv 0,iv 0,iv 0,iv 0,iv 0] 184 (0,0))):=(Below.heap_setCell _ (aq w.heap.size 3) _ _ (by show w.heap.size+1≠w.heap.size;omega)).trans rb1.out
 clear c8 c10 s0 s1 s2 s3 s4 s5 f3 f5 hx1 hz1 lw1 lv1
 generalize W1.setCell (aq w.heap.size 3) (iv 12)=W2 at hT2 ob2 rb2 ⊢
 clear hT1 ob1 rb1
 obtain ⟨s0,s1,s2,s3,s4,s5⟩:=ja1 ob2.out
 obtain ⟨c8,c10,hx2,hz2⟩:=jav hT2.out
 have lw2:w.heap.size<W2.heap.size:=by omega
 have lv2:w.heap.size+1<W2.heap.size:=by omega
 have f3:=ja0 ob2.out 3
 have f5:=ja0 ob2.out 5
 go_region_held3 (fun w'=>w'.cell? (aq w.heap.size 1)=some (iv cust)/\w'.cell? (aq w.heap.size 3)=some (iv 12)/\w'.cell? (aq w.heap.size 2)=some (iv units)) (simp [go_sem, *])
  (first
    | (go_at_call 171;refine (H3.out _ (jat hT2.out bL)).mono ?_;rintro e W3 ⟨rfl,hT3,hk⟩
       have ob3:Hid (W3.heap[w.heap.size]?=some (.cells #[iv num,iv cust,iv units,iv 12,iv cents,iv up] 184 (0,0))):=(hk _ (Nat.le_refl _) (by omega)).trans ob2.out
       have rb3:Hid (W3.heap[w.heap.size+1]?=some (.cells #[iv 0,iv 0,iv 0,iv 0,iv 0,iv 0] 184 (0,0))):=(hk _ (by omega) (by omega)).trans rb2.out
       obtain ⟨s0',s1',s2',s3',s4',s5'⟩:=ja1 ob3.out
       obtain ⟨c8',c10',hx3,hz3⟩:=jav hT3
       have f5':=ja0 ob3.out 5
       have lw':w.heap.size<W3.heap.size:=by omega
       replace hT3:Hid _:=hT3
       clear hk))
 clear c8 c10 s0 s1 s2 s3 s4 s5 f3 f5 hx2 hz2 lw2 lv2 hT2 ob2 rb2 s0' s1' s2' s3' s4' s5' c8' c10' f5' lw' hx3 hz3
 obtain ⟨s0,s1,s2,s3,s4,s5⟩:=ja1 ob3.out
 obtain ⟨c8,c10,hx3,hz3⟩:=jav hT3.out
 have lw3:w.heap.size<W3.heap.size:=by omega
 have lv3:w.heap.size+1<W3.heap.size:=by omega
 have f3:=ja0 ob3.out 3
 have f5:=ja0 ob3.out 5
 go_wp2_with fail
 go_region_held3 (fun w'=>w'.cell? (aq w.heap.size 0)=some (iv num)/\w'.cell? (aq w.heap.size 1)=some (iv cust)/\w'.cell? (aq w.heap.size 2)=some (iv units)/\w'.cell? (aq w.heap.size 3)=some (iv 12)/\w'.cell? (aq w.heap.size 4)=some (iv cents)/\w'.cell? (aq w.heap.size 5)=some (iv up)) (simp [go_sem, *])
  (first
    | (go_at_call 172;refine (H4.out _ (jat hT3.out bL)).mono ?_;rintro e W4 ⟨rfl,hT4,hk⟩
       have ob4:Hid (W4.heap[w.heap.size]?=some (.cells #[iv num,iv cust,iv units,iv 12,iv cents,iv up] 184 (0,0))):=(hk _ (Nat.le_refl _) (by omega)).trans ob3.out
       have rb4:Hid (W4.heap[w.heap.size+1]?=some (.cells #[iv 0,iv 0,iv 0,iv 0,iv 0,iv 0] 184 (0,0))):=(hk _ (by omega) (by omega)).trans rb3.out
       obtain ⟨s0',s1',s2',s3',s4',s5'⟩:=ja1 ob4.out
       obtain ⟨c8',c10',hx4,hz4⟩:=jav hT4
       rw [tV4.out] at c10'
       have f5':=ja0 ob4.out 5
       have lw':w.heap.size<W4.heap.size:=by omega
       replace hT4:Hid _:=hT4
       clear hk))
 clear c8 c10 s0 s1 s2 s3 s4 s5 f3 f5 hx3 hz3 lw3 lv3 hT3 ob3 rb3 s0' s1' s2' s3' s4' s5' c8' c10' f5' lw' hx4 hz4
 obtain ⟨s0,s1,s2,s3,s4,s5⟩:=ja1 ob4.out
 obtain ⟨c8,c10,hx4,hz4⟩:=jav hT4.out
 rw [tV4.out] at c10
 have lw4:w.heap.size<W4.heap.size:=by omega
 have lv4:w.heap.size+1<W4.heap.size:=by omega
 have f3:=ja0 ob4.out 3
 have f5:=ja0 ob4.out 5
 go_wp2_with fail
 go_region_held3 (fun w'=>w'.cell? (aq x 8)=some (iv V4.now)) (simp [go_sem, *])
  (first
    | (go_at_call 173;refine (HS.out _ (jat hT4.out bL)).mono ?_;rintro e W5 ⟨rfl,hT5,hk⟩
       have ob5:Hid (W5.heap[w.heap.size]?=some (.cells #[iv num,iv cust,iv units,iv 12,iv cents,iv up] 184 (0,0))):=(hk _ (Nat.le_refl _) (by omega)).trans ob4.out
       have rb5:Hid (W5.heap[w.heap.size+1]?=some (.cells #[iv 0,iv 0,iv 0,iv 0,iv 0,iv 0] 184 (0,0))):=(hk _ (by omega) (by omega)).trans rb4.out
       obtain ⟨s0',s1',s2',s3',s4',s5'⟩:=ja1 ob5.out
       obtain ⟨c8',c10',hx5,hz5⟩:=jav hT5
       rw [tV4.out] at c10'
       have f5':=ja0 ob5.out 5
       have lw':w.heap.size<W5.heap.size:=by omega
       replace hT5:Hid _:=hT5
       clear hk))
 clear c8 c10 s0 s1 s2 s3 s4 s5 f3 f5 hx4 hz4 lw4 lv4 hT4 ob4 rb4 s0' s1' s2' s3' s4' s5' c8' c10' f5' lw' hx5 hz5
 obtain ⟨s0,s1,s2,s3,s4,s5⟩:=ja1 ob5.out
 obtain ⟨c8,c10,hx5,hz5⟩:=jav hT5.out
 rw [tV4.out] at c10
 have lw5:w.heap.size<W5.heap.size:=by omega
 have lv5:w.heap.size+1<W5.heap.size:=by omega
 have f3:=ja0 ob5.out 3
 have f5:=ja0 ob5.out 5
 have hT6:Hid (jjp w own 2 (W5.setCell (aq w.heap.size 5) (iv (V4.now+sp))) x V4):=jdg hT5.out hw (Nat.le_refl _) (by omega) _
 have ob6:Hid ((W5.setCell (aq w.heap.size 5) (iv (V4.now+sp))).heap[w.heap.size]?=some (.cells #[iv num,iv cust,iv units,iv 12,iv cents,iv (V4.now+sp)] 184 (0,0))):=Joins.block_setCell (i:=5) ob5.out _
 have rb6:Hid ((W5.setCell (aq w.heap.size 5) (iv (V4.now+sp))).heap[w.heap.size+1]?=some (.cells #[iv 0,iv 0,iv 0,iv 0,iv 0,iv 0] 184 (0,0))):=(Below.heap_setCell _ (aq w.heap.size 5) _ _ (by show w.heap.size+1≠w.heap.size;omega)).trans rb5.out
 clear c8 c10 s0 s1 s2 s3 s4 s5 f3 f5 hx5 hz5 lw5 lv5
 generalize W5.setCell (aq w.heap.size 5) (iv (V4.now+sp))=W6 at hT6 ob6 rb6 ⊢
 clear hT5 ob5 rb5
 obtain ⟨s0,s1,s2,s3,s4,s5⟩:=ja1 ob6.out
 obtain ⟨c8,c10,hx6,hz6⟩:=jav hT6.out
 rw [tV4.out] at c10
 have lw6:w.heap.size<W6.heap.size:=by omega
 have lv6:w.heap.size+1<W6.heap.size:=by omega
 have f3:=ja0 ob6.out 3
 have f5:=ja0 ob6.out 5
 go_wp2_with fail
 go_region_held3 (fun w'=>w'.cell? (aq w.heap.size 0)=some (iv num)/\w'.cell? (aq x 10)=some (pt tw 0)) (simp [go_sem, *])
  (first
    | (go_at_call 77;refine (H5.out _ (jat hT6.out bL)).mono ?_;rintro e W7 ⟨rfl,hT7,hk⟩
       have ob7:Hid (W7.heap[w.heap.size]?=some (.cells #[iv num,iv cust,iv units,iv 12,iv cents,iv (V4.now+sp)] 184 (0,0))):=(hk _ (Nat.le_refl _) (by omega)).trans ob6.out
       have rb7:Hid (W7.heap[w.heap.size+1]?=some (.cells #[iv 0,iv 0,iv 0,iv 0,iv 0,iv 0] 184 (0,0))):=(hk _ (by omega) (by omega)).trans rb6.out
       obtain ⟨s0',s1',s2',s3',s4',s5'⟩:=ja1 ob7.out
       obtain ⟨c8',c10',hx7,hz7⟩:=jav hT7
       rw [tV5.out] at c10'
       have f5':=ja0 ob7.out 5
       have lw':w.heap.size<W7.heap.size:=by omega
       replace hT7:Hid _:=hT7
       clear hk))
 clear c8 c10 s0 s1 s2 s3 s4 s5 f3 f5 hx6 hz6 lw6 lv6 hT6 ob6 rb6 s0' s1' s2' s3' s4' s5' c8' c10' f5' lw' hx7 hz7
 obtain ⟨s0,s1,s2,s3,s4,s5⟩:=ja1 ob7.out
 obtain ⟨c8,c10,hx7,hz7⟩:=jav hT7.out
 rw [tV5.out] at c10
 have lw7:w.heap.size<W7.heap.size:=by omega
 have lv7:w.heap.size+1<W7.heap.size:=by omega
 have f3:=ja0 ob7.out 3
 have f5:=ja0 ob7.out 5
 go_wp2_with fail
 go_region_held3 (fun w'=>w'.cell? (aq w.heap.size 0)=some (iv num)/\w'.cell? (aq w.heap.size 5)=some (iv (V4.now+sp))/\w'.cell? (aq x 10)=some (pt tw 0)) (simp [go_sem, *])
  (first
    | (go_at_call 75;refine (H6.out _ (jat hT7.out bL)).mono ?_;rintro e W8 ⟨rfl,hT8,hk⟩
       have ob8:Hid (W8.heap[w.heap.size]?=some (.cells #[iv num,iv cust,iv units,iv 12,iv cents,iv (V4.now+sp)] 184 (0,0))):=(hk _ (Nat.le_refl _) (by omega)).trans ob7.out
       have rb8:Hid (W8.heap[w.heap.size+1]?=some (.cells #[iv 0,iv 0,iv 0,iv 0,iv 0,iv 0] 184 (0,0))):=(hk _ (by omega) (by omega)).trans rb7.out
       obtain ⟨s0',s1',s2',s3',s4',s5'⟩:=ja1 ob8.out
       obtain ⟨c8',c10',hx8,hz8⟩:=jav hT8
       rw [tV6.out] at c10'
       have f5':=ja0 ob8.out 5
       have lw':w.heap.size<W8.heap.size:=by omega
       replace hT8:Hid _:=hT8
       clear hk))
 clear c8 c10 s0 s1 s2 s3 s4 s5 f3 f5 hx7 hz7 lw7 lv7 hT7 ob7 rb7 s0' s1' s2' s3' s4' s5' c8' c10' f5' lw' hx8 hz8
 obtain ⟨s0,s1,s2,s3,s4,s5⟩:=ja1 ob8.out
 obtain ⟨c8,c10,hx8,hz8⟩:=jav hT8.out
 rw [tV6.out] at c10
 have lw8:w.heap.size<W8.heap.size:=by omega
 have lv8:w.heap.size+1<W8.heap.size:=by omega
 have f3:=ja0 ob8.out 3
 have f5:=ja0 ob8.out 5
 go_wp2_with fail
 go_region_held3 (fun w'=>w'.cell? (aq w.heap.size 0)=some (iv num)/\w'.cell? (aq w.heap.size 1)=some (iv cust)/\w'.cell? (aq w.heap.size 2)=some (iv units)/\w'.cell? (aq w.heap.size 3)=some (iv 12)/\w'.cell? (aq w.heap.size 4)=some (iv cents)/\w'.cell? (aq w.heap.size 5)=some (iv (V4.now+sp))) (simp [go_sem, *])
  (first
    | (go_at_call 174;refine (H7.out _ (jat hT8.out bL)).mono ?_;rintro e W9 ⟨rfl,hT9,hk⟩
       have ob9:Hid (W9.heap[w.heap.size]?=some (.cells #[iv num,iv cust,iv units,iv 12,iv cents,iv (V4.now+sp)] 184 (0,0))):=(hk _ (Nat.le_refl _) (by omega)).trans ob8.out
       have rb9:Hid (W9.heap[w.heap.size+1]?=some (.cells #[iv 0,iv 0,iv 0,iv 0,iv 0,iv 0] 184 (0,0))):=(hk _ (by omega) (by omega)).trans rb8.out
       obtain ⟨s0',s1',s2',s3',s4',s5'⟩:=ja1 ob9.out
       obtain ⟨c8',c10',hx9,hz9⟩:=jav hT9
       have f5':=ja0 ob9.out 5
       have lw':w.heap.size<W9.heap.size:=by omega
       replace hT9:Hid _:=hT9
       clear hk))
 clear c8 c10 s0 s1 s2 s3 s4 s5 f3 f5 hx8 hz8 lw8 lv8 hT8 ob8 rb8 s0' s1' s2' s3' s4' s5' c8' c10' f5' lw' hx9 hz9
 obtain ⟨s0,s1,s2,s3,s4,s5⟩:=ja1 ob9.out
 obtain ⟨c8,c10,hx9,hz9⟩:=jav hT9.out
 have lw9:w.heap.size<W9.heap.size:=by omega
 have lv9:w.heap.size+1<W9.heap.size:=by omega
 have f3:=ja0 ob9.out 3
 have f5:=ja0 ob9.out 5
 have HE:Hid (∀ v0 v1 v2 v3 v4 v5,jb4 w ((((((W9.setCell (aq (w.heap.size+1) 0) v0).setCell (aq (w.heap.size+1) 1) v1).setCell (aq (w.heap.size+1) 2) v2).setCell (aq (w.heap.size+1) 3) v3).setCell (aq (w.heap.size+1) 4) v4).setCell (aq (w.heap.size+1) 5) v5) x own V7):=fun v0 v1 v2 v3 v4 v5=>jl7 (jm4 hT9.out hw.out (by omega) (by omega))
 have g0:=ja0 rb9.out 0
 have g1:=ja0 rb9.out 1
 have g2:=ja0 rb9.out 2
 have g3:=ja0 rb9.out 3
 have g4:=ja0 rb9.out 4
 have g5:=ja0 rb9.out 5
 obtain ⟨r0,r1,r2,r3,r4,r5⟩:=ja1 rb9.out
 go_wp2
 refine bodyPost_ret (v:=.agg #[iv num,iv cust,iv units,iv 12,iv cents,iv (V4.now+sp)]) (by simp [results,Tryz.results157,go_sem,r0,r1,r2,r3,r4,r5]) rfl ⟨rfl,?_⟩
 exact HE.out _ _ _ _ _ _
end Go.Proofs.YtfhncfghblkgeaaGreat
