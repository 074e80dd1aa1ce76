import Derived.Test.YtfhncfghblkgeabGreatL34
set_option maxRecDepth 100000
set_option maxHeartbeats 2000000
namespace Go.Proofs.YtfhncfghblkgeabGreat
open Go.RowKit
theorem Dm (x:Nat) (C:Array Value) (T:TypeId) (n k t c u o:Int) (w:World) (hx:w.heap[x]?=some (.cells C T)) (h9:C[9]?=some (iv n)) (hn:0<=n/\n<=4294967296) :
 Ca 151 #[pt x 0,.agg #[iv k,iv t,iv c,iv u,iv o]] w fun e w'=>e=.returned (.agg #[iv (n+1),iv c,iv u,iv 0,iv 0,iv 0])/\w'.heap[x]?=some (.cells (C.setIfInBounds 9 (iv (n+1))) T (0,0))/\Same (fun b=>b=x) w w':=by
 have hxw:x<w.heap.size:=(blt hx)
 have k9:w.cell? (aq x 9)=some (iv n):=by rw [uI hx];exact h9
 have f9:=qA hx 9
 have hw:IntKind.i64.wrap (n+1)=n+1:=yA uO uO
 have HE:Hid (∀ A B,(((w.setCell (aq x 9) (iv (n+1))).alloc A).alloc B).drew.heap[x]?=some (.cells (C.setIfInBounds 9 (iv (n+1))) T (0,0))/\Same (fun b=>b=x) w (((w.setCell (aq x 9) (iv (n+1))).alloc A).alloc B).drew):=fun A B=>by
  have h1:=uH (i:=9) hx (iv (n+1))
  have s1:Same (fun b=>b=x) w (w.setCell (aq x 9) (iv (n+1))):=jI (Same.of_below (uM _ _)) x 9 _ rfl
  have z1:x<(w.setCell (aq x 9) (iv (n+1))).heap.size:=by simpa [World.setCell] using hxw
  generalize w.setCell (aq x 9) (iv (n+1))=W at h1 s1 z1
  have hb:Below W.heap.size W ((W.alloc A).alloc B).drew:=(((uM _ _).alloc (uA _) _).alloc vS _).drew
  exact ⟨(hb.block x z1).trans h1,Same.trans s1 (Same.of_below (own:=fun b=>b=x) hb) (fun _ _ e=>e.elim id id)⟩
 replace hx:Hid _:=hx
 clear h9
 go_enter Tryz.func151,Tryz.ntmps151
 go_wp2_with fail
 go_region
 go_wp2
 refine uK (v:=.agg #[iv (n+1),iv c,iv u,iv 0,iv 0,iv 0]) (by simp [results,Tryz.results151,go_sem]) rfl ⟨rfl,?_⟩
 exact HE.out _ _
theorem Lm {W:World} {x:Nat} {own:Nat->Prop} {V:PV} (k t c u o:Int) (h:QE W x own V) (hn:0<=V.last/\V.last<=4294967296) :
 Ca 151 #[pt x 0,.agg #[iv k,iv t,iv c,iv u,iv o]] W fun e w'=>e=.returned (POrd.val ⟨V.last+1,c,u,0,0,0⟩)/\yN W w' x own { V with last:=V.last+1 }:=by
 obtain ⟨g,h⟩:=h
 refine (Dm x (yS V g) 105 V.last k t c u o W h.blk rfl hn).mono ?_
 rintro e w' ⟨rfl,a1,a6⟩
 exact ⟨rfl,h.turnX a6 (V':={ V with last:=V.last+1 }) (g':=g) a1 rfl ⟨rfl,rfl,rfl⟩ ⟨rfl,rfl,rfl,rfl⟩ ⟨rfl,rfl,rfl,rfl⟩ ⟨h.stayX a6 h.ot.1,h.ot.2,fun _ e=>.inl e⟩ ⟨h.stayX a6 h.qt.1,h.qt.2,fun _ e=>.inl e⟩ ⟨h.stayX a6 h.qz.1,h.qz.2,fun _ e=>.inl e⟩ ⟨h.stayX a6 h.lu.1,h.lu.2,fun _ e=>.inl e⟩ ⟨h.stayX a6 h.att.1,h.att.2,fun _ e=>.inl e⟩ ⟨rfl,rfl,rfl⟩ ⟨rfl,rfl,rfl⟩⟩
def dC (w:World) (own:Nat->Prop) (m x:Nat) (V V':PV) (f:FuncId) (args:Array Value) (v:Value):Prop :=
 ∀ W,aS w own m W x V->Ca f args W fun e w'=>e=.returned v/\aS w own m w' x V'/\∀ b,w.heap.size<=b->b<w.heap.size+m->w'.heap[b]?=W.heap[b]?
theorem yF {w W:World} {own:Nat->Prop} {m x:Nat} {V:PV} (h:aS w own m W x V):W.cell? (aq x 8)=some (iv V.now)/\W.cell? (aq x 10)=some (pt V.tw 0)/\x<W.heap.size/\w.heap.size+m<=W.heap.size:=by
 obtain ⟨o1,⟨g,a1⟩,_,_,a4⟩:=h
 exact ⟨a1.cell 8 _ rfl,a1.cell 10 _ rfl,a1.xw,a4⟩
theorem iN {w W:World} {own:Nat->Prop} {m x b:Nat} {V:PV} {v0 v1 v2 v3 v4 v5:Value} (h:aS w own m W x V) (hw:∀ k,own k->k<w.heap.size) (h1:w.heap.size<=b) (h2:b<w.heap.size+m) :
 aS w own m ((((((W.sc b 0 v0).sc b 1 v1).sc b 2 v2).sc b 3 v3).sc b 4 v4).sc b 5 v5) x V :=
 kA (kA (kA (kA (kA (kA h hw h1 h2 v0) hw h1 h2 v1) hw h1 h2 v2) hw h1 h2 v3) hw h1 h2 v4) hw h1 h2 v5
theorem By (x tw:Nat) (own:Nat->Prop) (V V1 V2 V3 V5 V6 V7:PV) (num cust units cents up st sp e5 e6:Int) (w:World) (hw:∀ k,own k->k<w.heap.size) (h:QE w x own V) (hu:0<=units/\units<=4294967296) (hs:0<=V3.now+sp/\V3.now+sp<=9223372036854775807) (q2:(st==12)=false) (tV3:Hid (V3.tw=tw)) (tV5:Hid (V5.tw=tw)) (tV6:Hid (V6.tw=tw))
 (H1:Hid (dC w own 2 x V V1 152 #[pt x 15,.agg #[iv num,iv cust,iv units,iv 12,iv cents,iv up]] (.tuple #[])))
 (H2:Hid (dC w own 2 x V1 V2 153 #[pt x 19,iv cust,iv 12,iv (-units)] (.tuple #[])))
 (H3:Hid (dC w own 2 x V2 V3 153 #[pt x 19,iv cust,iv st,iv units] (.tuple #[])))
 (HS:Hid (dC w own 2 x V3 V3 155 #[pt x 0,iv st] (iv sp)))
 (H5:Hid (dC w own 2 x V3 V5 81 #[pt tw 0,iv num] (iv e5)))
 (H6:Hid (dC w own 2 x V5 V6 79 #[pt tw 0,iv num,iv (V3.now+sp)] (iv e6)))
 (H7:Hid (dC w own 2 x V6 V7 156 #[pt x 11,.agg #[iv num,iv cust,iv units,iv st,iv cents,iv (V3.now+sp)]] (.tuple #[]))) :
 Ca 129 #[pt x 0,.agg #[iv num,iv cust,iv units,iv 12,iv cents,iv up],iv st] w fun e w'=>e=.returned (.agg #[iv num,iv cust,iv units,iv st,iv cents,iv (V3.now+sp)])/\yN w w' x own V7:=by
 have hn:IntKind.i64.wrap (-units)=-units:=yA uO uO
 have hsum:IntKind.i64.wrap (V3.now+sp)=V3.now+sp:=yA uO uO
 clear hu hs
 replace hw:Hid _:=hw
 go_enter Tryz.func129,Tryz.ntmps129
 have hT0:Hid (aS w own 2 ((w.alloc (.cells #[iv num,iv cust,iv units,iv 12,iv cents,iv up] 142)).alloc (.cells #[iv 0,iv 0,iv 0,iv 0,iv 0,iv 0] 142)) x V):=mO h (((uM _ _).alloc (uA _) _).alloc vS _) vS
 have ob0:=zq1 w #[iv num,iv cust,iv units,iv 12,iv cents,iv up] 142 #[iv 0,iv 0,iv 0,iv 0,iv 0,iv 0] 142
 have rb0:=zq2 w #[iv num,iv cust,iv units,iv 12,iv cents,iv up] 142 #[iv 0,iv 0,iv 0,iv 0,iv 0,iv 0] 142
 have hxw:x<w.heap.size:=hw.out x (by obtain ⟨g,h⟩:=h;exact h.ownx)
 clear h
 go_wp2_with fail
 generalize (w.alloc (.cells #[iv num,iv cust,iv units,iv 12,iv cents,iv up] 142)).alloc (.cells #[iv 0,iv 0,iv 0,iv 0,iv 0,iv 0] 142)=W0 at hT0 ob0 rb0 ⊢
 obtain ⟨s0,s1,s2,s3,s4,s5⟩:=qB ob0.out
 obtain ⟨c8,c10,hx0,hz0⟩:=yF hT0.out
 have lw0:w.heap.size<W0.heap.size:=uO
 have lv0:w.heap.size+1<W0.heap.size:=uO
 have f3:=qA ob0.out 3
 have f5:=qA ob0.out 5
 go_region_held3 (fun w'=>w'.cell? (aq w.heap.size 0)=some (iv num)/\w'.cell? (aq w.heap.size 1)=some (iv cust)/\w'.cell? (aq w.heap.size 2)=some (iv units)/\w'.cell? (aq w.heap.size 3)=some (iv 12)/\w'.cell? (aq w.heap.size 4)=some (iv cents)/\w'.cell? (aq w.heap.size 5)=some (iv up)) (simp [go_sem, *])
  (first
    | (go_at_call 152;refine (H1.out _ (yB hT0.out bL)).mono ?_;rintro e W1 ⟨rfl,hT1,hk⟩
       have ob1:Hid (W1.heap[w.heap.size]?=some (.cells #[iv num,iv cust,iv units,iv 12,iv cents,iv up] 142)):=(hk _ (uA _) uO).trans ob0.out
       have rb1:Hid (W1.heap[w.heap.size+1]?=some (.cells #[iv 0,iv 0,iv 0,iv 0,iv 0,iv 0] 142)):=(hk _ uO uO).trans rb0.out
       obtain ⟨s0',s1',s2',s3',s4',s5'⟩:=qB ob1.out
       obtain ⟨c8',c10',hx1,hz1⟩:=yF hT1
       have f5':=qA ob1.out 5
       have lw':w.heap.size<W1.heap.size:=uO
       replace hT1:Hid _:=hT1
       clear hk))
 clear c8 c10 s0 s1 s2 s3 s4 s5 f3 f5 hx0 hz0 lw0 lv0 hT0 ob0 rb0 s0' s1' s2' s3' s4' s5' c8' c10' f5' lw' hx1 hz1
 obtain ⟨s0,s1,s2,s3,s4,s5⟩:=qB ob1.out
 obtain ⟨c8,c10,hx1,hz1⟩:=yF hT1.out
 have lw1:w.heap.size<W1.heap.size:=uO
 have lv1:w.heap.size+1<W1.heap.size:=uO
 have f3:=qA ob1.out 3
 have f5:=qA ob1.out 5
 go_wp2_with fail
 go_region_held3 (fun w'=>w'.cell? (aq w.heap.size 1)=some (iv cust)/\w'.cell? (aq w.heap.size 3)=some (iv 12)/\w'.cell? (aq w.heap.size 2)=some (iv units)) (simp [go_sem, *])
  (first
    | (go_at_call 153;refine (H2.out _ (yB hT1.out bL)).mono ?_;rintro e W2 ⟨rfl,hT2,hk⟩
       have ob2:Hid (W2.heap[w.heap.size]?=some (.cells #[iv num,iv cust,iv units,iv 12,iv cents,iv up] 142)):=(hk _ (uA _) uO).trans ob1.out
       have rb2:Hid (W2.heap[w.heap.size+1]?=some (.cells #[iv 0,iv 0,iv 0,iv 0,iv 0,iv 0] 142)):=(hk _ uO uO).trans rb1.out
       obtain ⟨s0',s1',s2',s3',s4',s5'⟩:=qB ob2.out
       obtain ⟨c8',c10',hx2,hz2⟩:=yF hT2
       have f5':=qA ob2.out 5
       have lw':w.heap.size<W2.heap.size:=uO
       replace hT2:Hid _:=hT2
       clear hk))
 clear c8 c10 s0 s1 s2 s3 s4 s5 f3 f5 hx1 hz1 lw1 lv1 hT1 ob1 rb1 s0' s1' s2' s3' s4' s5' c8' c10' f5' lw' hx2 hz2
 obtain ⟨s0,s1,s2,s3,s4,s5⟩:=qB ob2.out
 obtain ⟨c8,c10,hx2,hz2⟩:=yF hT2.out
 have lw2:w.heap.size<W2.heap.size:=uO
 have lv2:w.heap.size+1<W2.heap.size:=uO
 have f3:=qA ob2.out 3
 have f5:=qA ob2.out 5
 go_wp2_with fail
 have hT3:Hid (aS w own 2 (W2.setCell (aq w.heap.size 3) (iv st)) x V2):=kA hT2.out hw (uA _) uO _
 have ob3:Hid ((W2.setCell (aq w.heap.size 3) (iv st)).heap[w.heap.size]?=some (.cells #[iv num,iv cust,iv units,iv st,iv cents,iv up] 142)):=uH (i:=3) ob2.out _
 have rb3:Hid ((W2.setCell (aq w.heap.size 3) (iv st)).heap[w.heap.size+1]?=some (.cells #[iv 0,iv 0,iv 0,iv 0,iv 0,iv 0] 142)):=(uG _ (aq w.heap.size 3) _ _ (by show w.heap.size+1≠w.heap.size;omega)).trans rb2.out
 clear c8 c10 s0 s1 s2 s3 s4 s5 f3 f5 hx2 hz2 lw2 lv2
 generalize W2.setCell (aq w.heap.size 3) (iv st)=W3 at hT3 ob3 rb3 ⊢
 clear hT2 ob2 rb2
 obtain ⟨s0,s1,s2,s3,s4,s5⟩:=qB ob3.out
 obtain ⟨c8,c10,hx3,hz3⟩:=yF hT3.out
 have lw3:w.heap.size<W3.heap.size:=uO
 have lv3:w.heap.size+1<W3.heap.size:=uO
 have f3:=qA ob3.out 3
 have f5:=qA ob3.out 5
 go_region_held3 (fun w'=>w'.cell? (aq w.heap.size 1)=some (iv cust)/\w'.cell? (aq w.heap.size 3)=some (iv st)/\w'.cell? (aq w.heap.size 2)=some (iv units)) (simp [go_sem, *])
  (first
    | (go_at_call 153;refine (H3.out _ (yB hT3.out bL)).mono ?_;rintro e W4 ⟨rfl,hT4,hk⟩
       have ob4:Hid (W4.heap[w.heap.size]?=some (.cells #[iv num,iv cust,iv units,iv st,iv cents,iv up] 142)):=(hk _ (uA _) uO).trans ob3.out
       have rb4:Hid (W4.heap[w.heap.size+1]?=some (.cells #[iv 0,iv 0,iv 0,iv 0,iv 0,iv 0] 142)):=(hk _ uO uO).trans rb3.out
       obtain ⟨s0',s1',s2',s3',s4',s5'⟩:=qB ob4.out
       obtain ⟨c8',c10',hx4,hz4⟩:=yF hT4
       rw [tV3.out] at c10'
       have f5':=qA ob4.out 5
       have lw':w.heap.size<W4.heap.size:=uO
       replace hT4:Hid _:=hT4
       clear hk))
 clear c8 c10 s0 s1 s2 s3 s4 s5 f3 f5 hx3 hz3 lw3 lv3 hT3 ob3 rb3 s0' s1' s2' s3' s4' s5' c8' c10' f5' lw' hx4 hz4
 obtain ⟨s0,s1,s2,s3,s4,s5⟩:=qB ob4.out
 obtain ⟨c8,c10,hx4,hz4⟩:=yF hT4.out
 rw [tV3.out] at c10
 have lw4:w.heap.size<W4.heap.size:=uO
 have lv4:w.heap.size+1<W4.heap.size:=uO
 have f3:=qA ob4.out 3
 have f5:=qA ob4.out 5
 go_wp2_with fail
 go_region_held3 (fun w'=>w'.cell? (aq x 8)=some (iv V3.now)) (simp [go_sem, *])
  (first
    | (go_at_call 155;refine (HS.out _ (yB hT4.out bL)).mono ?_;rintro e W5 ⟨rfl,hT5,hk⟩
       have ob5:Hid (W5.heap[w.heap.size]?=some (.cells #[iv num,iv cust,iv units,iv st,iv cents,iv up] 142)):=(hk _ (uA _) uO).trans ob4.out
       have rb5:Hid (W5.heap[w.heap.size+1]?=some (.cells #[iv 0,iv 0,iv 0,iv 0,iv 0,iv 0] 142)):=(hk _ uO uO).trans rb4.out
       obtain ⟨s0',s1',s2',s3',s4',s5'⟩:=qB ob5.out
       obtain ⟨c8',c10',hx5,hz5⟩:=yF hT5
       rw [tV3.out] at c10'
       have f5':=qA ob5.out 5
       have lw':w.heap.size<W5.heap.size:=uO
       replace hT5:Hid _:=hT5
       clear hk))
 clear c8 c10 s0 s1 s2 s3 s4 s5 f3 f5 hx4 hz4 lw4 lv4 hT4 ob4 rb4 s0' s1' s2' s3' s4' s5' c8' c10' f5' lw' hx5 hz5
 obtain ⟨s0,s1,s2,s3,s4,s5⟩:=qB ob5.out
 obtain ⟨c8,c10,hx5,hz5⟩:=yF hT5.out
 rw [tV3.out] at c10
 have lw5:w.heap.size<W5.heap.size:=uO
 have lv5:w.heap.size+1<W5.heap.size:=uO
 have f3:=qA ob5.out 3
 have f5:=qA ob5.out 5
 have hT6:Hid (aS w own 2 (W5.setCell (aq w.heap.size 5) (iv (V3.now+sp))) x V3):=kA hT5.out hw (uA _) uO _
 have ob6:Hid ((W5.setCell (aq w.heap.size 5) (iv (V3.now+sp))).heap[w.heap.size]?=some (.cells #[iv num,iv cust,iv units,iv st,iv cents,iv (V3.now+sp)] 142)):=uH (i:=5) ob5.out _
 have rb6:Hid ((W5.setCell (aq w.heap.size 5) (iv (V3.now+sp))).heap[w.heap.size+1]?=some (.cells #[iv 0,iv 0,iv 0,iv 0,iv 0,iv 0] 142)):=(uG _ (aq w.heap.size 5) _ _ (by show w.heap.size+1≠w.heap.size;omega)).trans rb5.out
 clear c8 c10 s0 s1 s2 s3 s4 s5 f3 f5 hx5 hz5 lw5 lv5
 generalize W5.setCell (aq w.heap.size 5) (iv (V3.now+sp))=W6 at hT6 ob6 rb6 ⊢
 clear hT5 ob5 rb5
 obtain ⟨s0,s1,s2,s3,s4,s5⟩:=qB ob6.out
 obtain ⟨c8,c10,hx6,hz6⟩:=yF hT6.out
 rw [tV3.out] at c10
 have lw6:w.heap.size<W6.heap.size:=uO
 have lv6:w.heap.size+1<W6.heap.size:=uO
 have f3:=qA ob6.out 3
 have f5:=qA ob6.out 5
 go_wp2_with fail
 go_region_held3 (fun w'=>w'.cell? (aq w.heap.size 0)=some (iv num)/\w'.cell? (aq x 10)=some (pt tw 0)) (simp [go_sem, *])
  (first
    | (go_at_call 81;refine (H5.out _ (yB hT6.out bL)).mono ?_;rintro e W7 ⟨rfl,hT7,hk⟩
       have ob7:Hid (W7.heap[w.heap.size]?=some (.cells #[iv num,iv cust,iv units,iv st,iv cents,iv (V3.now+sp)] 142)):=(hk _ (uA _) uO).trans ob6.out
       have rb7:Hid (W7.heap[w.heap.size+1]?=some (.cells #[iv 0,iv 0,iv 0,iv 0,iv 0,iv 0] 142)):=(hk _ uO uO).trans rb6.out
       obtain ⟨s0',s1',s2',s3',s4',s5'⟩:=qB ob7.out
       obtain ⟨c8',c10',hx7,hz7⟩:=yF hT7
       rw [tV5.out] at c10'
       have f5':=qA ob7.out 5
       have lw':w.heap.size<W7.heap.size:=uO
       replace hT7:Hid _:=hT7
       clear hk))
 clear c8 c10 s0 s1 s2 s3 s4 s5 f3 f5 hx6 hz6 lw6 lv6 hT6 ob6 rb6 s0' s1' s2' s3' s4' s5' c8' c10' f5' lw' hx7 hz7
 obtain ⟨s0,s1,s2,s3,s4,s5⟩:=qB ob7.out
 obtain ⟨c8,c10,hx7,hz7⟩:=yF hT7.out
 rw [tV5.out] at c10
 have lw7:w.heap.size<W7.heap.size:=uO
 have lv7:w.heap.size+1<W7.heap.size:=uO
 have f3:=qA ob7.out 3
 have f5:=qA ob7.out 5
 go_wp2_with fail
 go_region_held3 (fun w'=>w'.cell? (aq w.heap.size 0)=some (iv num)/\w'.cell? (aq w.heap.size 5)=some (iv (V3.now+sp))/\w'.cell? (aq x 10)=some (pt tw 0)) (simp [go_sem, *])
  (first
    | (go_at_call 79;refine (H6.out _ (yB hT7.out bL)).mono ?_;rintro e W8 ⟨rfl,hT8,hk⟩
       have ob8:Hid (W8.heap[w.heap.size]?=some (.cells #[iv num,iv cust,iv units,iv st,iv cents,iv (V3.now+sp)] 142)):=(hk _ (uA _) uO).trans ob7.out
       have rb8:Hid (W8.heap[w.heap.size+1]?=some (.cells #[iv 0,iv 0,iv 0,iv 0,iv 0,iv 0] 142)):=(hk _ uO uO).trans rb7.out
       obtain ⟨s0',s1',s2',s3',s4',s5'⟩:=qB ob8.out
       obtain ⟨c8',c10',hx8,hz8⟩:=yF hT8
       rw [tV6.out] at c10'
       have f5':=qA ob8.out 5
       have lw':w.heap.size<W8.heap.size:=uO
       replace hT8:Hid _:=hT8
       clear hk))
 clear c8 c10 s0 s1 s2 s3 s4 s5 f3 f5 hx7 hz7 lw7 lv7 hT7 ob7 rb7 s0' s1' s2' s3' s4' s5' c8' c10' f5' lw' hx8 hz8
 obtain ⟨s0,s1,s2,s3,s4,s5⟩:=qB ob8.out
 obtain ⟨c8,c10,hx8,hz8⟩:=yF hT8.out
 rw [tV6.out] at c10
 have lw8:w.heap.size<W8.heap.size:=uO
 have lv8:w.heap.size+1<W8.heap.size:=uO
 have f3:=qA ob8.out 3
 have f5:=qA ob8.out 5
 go_wp2_with fail
 go_region_held3 (fun w'=>w'.cell? (aq w.heap.size 0)=some (iv num)/\w'.cell? (aq w.heap.size 1)=some (iv cust)/\w'.cell? (aq w.heap.size 2)=some (iv units)/\w'.cell? (aq w.heap.size 3)=some (iv st)/\w'.cell? (aq w.heap.size 4)=some (iv cents)/\w'.cell? (aq w.heap.size 5)=some (iv (V3.now+sp))) (simp [go_sem, *])
  (first
    | (go_at_call 156;refine (H7.out _ (yB hT8.out bL)).mono ?_;rintro e W9 ⟨rfl,hT9,hk⟩
       have ob9:Hid (W9.heap[w.heap.size]?=some (.cells #[iv num,iv cust,iv units,iv st,iv cents,iv (V3.now+sp)] 142)):=(hk _ (uA _) uO).trans ob8.out
       have rb9:Hid (W9.heap[w.heap.size+1]?=some (.cells #[iv 0,iv 0,iv 0,iv 0,iv 0,iv 0] 142)):=(hk _ uO uO).trans rb8.out
       obtain ⟨s0',s1',s2',s3',s4',s5'⟩:=qB ob9.out
       obtain ⟨c8',c10',hx9,hz9⟩:=yF hT9
       have f5':=qA ob9.out 5
       have lw':w.heap.size<W9.heap.size:=uO
       replace hT9:Hid _:=hT9
       clear hk))
 clear c8 c10 s0 s1 s2 s3 s4 s5 f3 f5 hx8 hz8 lw8 lv8 hT8 ob8 rb8 s0' s1' s2' s3' s4' s5' c8' c10' f5' lw' hx9 hz9
 obtain ⟨s0,s1,s2,s3,s4,s5⟩:=qB ob9.out
 obtain ⟨c8,c10,hx9,hz9⟩:=yF hT9.out
 have lw9:w.heap.size<W9.heap.size:=uO
 have lv9:w.heap.size+1<W9.heap.size:=uO
 have f3:=qA ob9.out 3
 have f5:=qA ob9.out 5
 have HE:Hid (∀ v0 v1 v2 v3 v4 v5,yN w ((((((W9.setCell (aq (w.heap.size+1) 0) v0).setCell (aq (w.heap.size+1) 1) v1).setCell (aq (w.heap.size+1) 2) v2).setCell (aq (w.heap.size+1) 3) v3).setCell (aq (w.heap.size+1) 4) v4).setCell (aq (w.heap.size+1) 5) v5) x own V7):=fun v0 v1 v2 v3 v4 v5=>cX (iN hT9.out hw.out uO uO)
 have g0:=qA rb9.out 0
 have g1:=qA rb9.out 1
 have g2:=qA rb9.out 2
 have g3:=qA rb9.out 3
 have g4:=qA rb9.out 4
 have g5:=qA rb9.out 5
 obtain ⟨r0,r1,r2,r3,r4,r5⟩:=qB rb9.out
 go_wp2
 refine uK (v:=.agg #[iv num,iv cust,iv units,iv st,iv cents,iv (V3.now+sp)]) (by simp [results,Tryz.results129,go_sem,r0,r1,r2,r3,r4,r5]) rfl ⟨rfl,?_⟩
 exact HE.out _ _ _ _ _ _
theorem Ru (x tw:Nat) (own:Nat->Prop) (V V2 V3 V5 V6 V7:PV) (num cust units od0 cents up st sp e5 e6:Int) (w:World) (hw:∀ k,own k->k<w.heap.size) (h:QE w x own V) (hu:0<=units/\units<=4294967296) (hs:0<=V3.now+sp/\V3.now+sp<=9223372036854775807) (q1:(od0==12)=false) (q2:(st==12)=false) (tV3:Hid (V3.tw=tw)) (tV5:Hid (V5.tw=tw)) (tV6:Hid (V6.tw=tw))
 (H2:Hid (dC w own 2 x V V2 153 #[pt x 19,iv cust,iv od0,iv (-units)] (.tuple #[])))
 (H3:Hid (dC w own 2 x V2 V3 153 #[pt x 19,iv cust,iv st,iv units] (.tuple #[])))
 (HS:Hid (dC w own 2 x V3 V3 155 #[pt x 0,iv st] (iv sp)))
 (H5:Hid (dC w own 2 x V3 V5 81 #[pt tw 0,iv num] (iv e5)))
 (H6:Hid (dC w own 2 x V5 V6 79 #[pt tw 0,iv num,iv (V3.now+sp)] (iv e6)))
 (H7:Hid (dC w own 2 x V6 V7 156 #[pt x 11,.agg #[iv num,iv cust,iv units,iv st,iv cents,iv (V3.now+sp)]] (.tuple #[]))) :
 Ca 129 #[pt x 0,.agg #[iv num,iv cust,iv units,iv od0,iv cents,iv up],iv st] w fun e w'=>e=.returned (.agg #[iv num,iv cust,iv units,iv st,iv cents,iv (V3.now+sp)])/\yN w w' x own V7:=by
 have hn:IntKind.i64.wrap (-units)=-units:=yA uO uO
 have hsum:IntKind.i64.wrap (V3.now+sp)=V3.now+sp:=yA uO uO
 clear hu hs
 replace hw:Hid _:=hw
 go_enter Tryz.func129,Tryz.ntmps129
 have hT0:Hid (aS w own 2 ((w.alloc (.cells #[iv num,iv cust,iv units,iv od0,iv cents,iv up] 142)).alloc (.cells #[iv 0,iv 0,iv 0,iv 0,iv 0,iv 0] 142)) x V):=mO h (((uM _ _).alloc (uA _) _).alloc vS _) vS
 have ob0:=zq1 w #[iv num,iv cust,iv units,iv od0,iv cents,iv up] 142 #[iv 0,iv 0,iv 0,iv 0,iv 0,iv 0] 142
 have rb0:=zq2 w #[iv num,iv cust,iv units,iv od0,iv cents,iv up] 142 #[iv 0,iv 0,iv 0,iv 0,iv 0,iv 0] 142
 have hxw:x<w.heap.size:=hw.out x (by obtain ⟨g,h⟩:=h;exact h.ownx)
 clear h
 go_wp2_with fail
 generalize (w.alloc (.cells #[iv num,iv cust,iv units,iv od0,iv cents,iv up] 142)).alloc (.cells #[iv 0,iv 0,iv 0,iv 0,iv 0,iv 0] 142)=W0 at hT0 ob0 rb0 ⊢
 obtain ⟨s0,s1,s2,s3,s4,s5⟩:=qB ob0.out
 obtain ⟨c8,c10,hx0,hz0⟩:=yF hT0.out
 have lw0:w.heap.size<W0.heap.size:=uO
 have lv0:w.heap.size+1<W0.heap.size:=uO
 have f3:=qA ob0.out 3
 have f5:=qA ob0.out 5
 go_region_held3 (fun w'=>w'.cell? (aq w.heap.size 1)=some (iv cust)/\w'.cell? (aq w.heap.size 3)=some (iv od0)/\w'.cell? (aq w.heap.size 2)=some (iv units)) (simp [go_sem, *])
  (first
    | (go_at_call 153;refine (H2.out _ (yB hT0.out bL)).mono ?_;rintro e W1 ⟨rfl,hT1,hk⟩
       have ob1:Hid (W1.heap[w.heap.size]?=some (.cells #[iv num,iv cust,iv units,iv od0,iv cents,iv up] 142)):=(hk _ (uA _) uO).trans ob0.out
       have rb1:Hid (W1.heap[w.heap.size+1]?=some (.cells #[iv 0,iv 0,iv 0,iv 0,iv 0,iv 0] 142)):=(hk _ uO uO).trans rb0.out
       obtain ⟨s0',s1',s2',s3',s4',s5'⟩:=qB ob1.out
       obtain ⟨c8',c10',hx1,hz1⟩:=yF hT1
       have f5':=qA ob1.out 5
       have lw':w.heap.size<W1.heap.size:=uO
       replace hT1:Hid _:=hT1
       clear hk))
 clear c8 c10 s0 s1 s2 s3 s4 s5 f3 f5 hx0 hz0 lw0 lv0 hT0 ob0 rb0 s0' s1' s2' s3' s4' s5' c8' c10' f5' lw' hx1 hz1
 obtain ⟨s0,s1,s2,s3,s4,s5⟩:=qB ob1.out
 obtain ⟨c8,c10,hx1,hz1⟩:=yF hT1.out
 have lw1:w.heap.size<W1.heap.size:=uO
 have lv1:w.heap.size+1<W1.heap.size:=uO
 have f3:=qA ob1.out 3
 have f5:=qA ob1.out 5
 go_wp2_with fail
 have hT2:Hid (aS w own 2 (W1.setCell (aq w.heap.size 3) (iv st)) x V2):=kA hT1.out hw (uA _) uO _
 have ob2:Hid ((W1.setCell (aq w.heap.size 3) (iv st)).heap[w.heap.size]?=some (.cells #[iv num,iv cust,iv units,iv st,iv cents,iv up] 142)):=uH (i:=3) ob1.out _
 have rb2:Hid ((W1.setCell (aq w.heap.size 3) (iv st)).heap[w.heap.size+1]?=some (.cells #[iv 0,iv 0,iv 0,iv 0,iv 0,iv 0] 142)):=(uG _ (aq w.heap.size 3) _ _ (by show w.heap.size+1≠w.heap.size;omega)).trans rb1.out
 clear c8 c10 s0 s1 s2 s3 s4 s5 f3 f5 hx1 hz1 lw1 lv1
 generalize W1.setCell (aq w.heap.size 3) (iv st)=W2 at hT2 ob2 rb2 ⊢
 clear hT1 ob1 rb1
 obtain ⟨s0,s1,s2,s3,s4,s5⟩:=qB ob2.out
 obtain ⟨c8,c10,hx2,hz2⟩:=yF hT2.out
 have lw2:w.heap.size<W2.heap.size:=uO
 have lv2:w.heap.size+1<W2.heap.size:=uO
 have f3:=qA ob2.out 3
 have f5:=qA ob2.out 5
 go_region_held3 (fun w'=>w'.cell? (aq w.heap.size 1)=some (iv cust)/\w'.cell? (aq w.heap.size 3)=some (iv st)/\w'.cell? (aq w.heap.size 2)=some (iv units)) (simp [go_sem, *])
  (first
    | (go_at_call 153;refine (H3.out _ (yB hT2.out bL)).mono ?_;rintro e W3 ⟨rfl,hT3,hk⟩
       have ob3:Hid (W3.heap[w.heap.size]?=some (.cells #[iv num,iv cust,iv units,iv st,iv cents,iv up] 142)):=(hk _ (uA _) uO).trans ob2.out
       have rb3:Hid (W3.heap[w.heap.size+1]?=some (.cells #[iv 0,iv 0,iv 0,iv 0,iv 0,iv 0] 142)):=(hk _ uO uO).trans rb2.out
       obtain ⟨s0',s1',s2',s3',s4',s5'⟩:=qB ob3.out
       obtain ⟨c8',c10',hx3,hz3⟩:=yF hT3
       rw [tV3.out] at c10'
       have f5':=qA ob3.out 5
       have lw':w.heap.size<W3.heap.size:=uO
       replace hT3:Hid _:=hT3
       clear hk))
 clear c8 c10 s0 s1 s2 s3 s4 s5 f3 f5 hx2 hz2 lw2 lv2 hT2 ob2 rb2 s0' s1' s2' s3' s4' s5' c8' c10' f5' lw' hx3 hz3
 obtain ⟨s0,s1,s2,s3,s4,s5⟩:=qB ob3.out
 obtain ⟨c8,c10,hx3,hz3⟩:=yF hT3.out
 rw [tV3.out] at c10
 have lw3:w.heap.size<W3.heap.size:=uO
 have lv3:w.heap.size+1<W3.heap.size:=uO
 have f3:=qA ob3.out 3
 have f5:=qA ob3.out 5
 go_wp2_with fail
 go_region_held3 (fun w'=>w'.cell? (aq x 8)=some (iv V3.now)) (simp [go_sem, *])
  (first
    | (go_at_call 155;refine (HS.out _ (yB hT3.out bL)).mono ?_;rintro e W4 ⟨rfl,hT4,hk⟩
       have ob4:Hid (W4.heap[w.heap.size]?=some (.cells #[iv num,iv cust,iv units,iv st,iv cents,iv up] 142)):=(hk _ (uA _) uO).trans ob3.out
       have rb4:Hid (W4.heap[w.heap.size+1]?=some (.cells #[iv 0,iv 0,iv 0,iv 0,iv 0,iv 0] 142)):=(hk _ uO uO).trans rb3.out
       obtain ⟨s0',s1',s2',s3',s4',s5'⟩:=qB ob4.out
       obtain ⟨c8',c10',hx4,hz4⟩:=yF hT4
       rw [tV3.out] at c10'
       have f5':=qA ob4.out 5
       have lw':w.heap.size<W4.heap.size:=uO
       replace hT4:Hid _:=hT4
       clear hk))
 clear c8 c10 s0 s1 s2 s3 s4 s5 f3 f5 hx3 hz3 lw3 lv3 hT3 ob3 rb3 s0' s1' s2' s3' s4' s5' c8' c10' f5' lw' hx4 hz4
 obtain ⟨s0,s1,s2,s3,s4,s5⟩:=qB ob4.out
 obtain ⟨c8,c10,hx4,hz4⟩:=yF hT4.out
 rw [tV3.out] at c10
 have lw4:w.heap.size<W4.heap.size:=uO
 have lv4:w.heap.size+1<W4.heap.size:=uO
 have f3:=qA ob4.out 3
 have f5:=qA ob4.out 5
 have hT5:Hid (aS w own 2 (W4.setCell (aq w.heap.size 5) (iv (V3.now+sp))) x V3):=kA hT4.out hw (uA _) uO _
 have ob5:Hid ((W4.setCell (aq w.heap.size 5) (iv (V3.now+sp))).heap[w.heap.size]?=some (.cells #[iv num,iv cust,iv units,iv st,iv cents,iv (V3.now+sp)] 142)):=uH (i:=5) ob4.out _
 have rb5:Hid ((W4.setCell (aq w.heap.size 5) (iv (V3.now+sp))).heap[w.heap.size+1]?=some (.cells #[iv 0,iv 0,iv 0,iv 0,iv 0,iv 0] 142)):=(uG _ (aq w.heap.size 5) _ _ (by show w.heap.size+1≠w.heap.size;omega)).trans rb4.out
 clear c8 c10 s0 s1 s2 s3 s4 s5 f3 f5 hx4 hz4 lw4 lv4
 generalize W4.setCell (aq w.heap.size 5) (iv (V3.now+sp))=W5 at hT5 ob5 rb5 ⊢
 clear hT4 ob4 rb4
 obtain ⟨s0,s1,s2,s3,s4,s5⟩:=qB ob5.out
 obtain ⟨c8,c10,hx5,hz5⟩:=yF hT5.out
 rw [tV3.out] at c10
 have lw5:w.heap.size<W5.heap.size:=uO
 have lv5:w.heap.size+1<W5.heap.size:=uO
 have f3:=qA ob5.out 3
 have f5:=qA ob5.out 5
 go_wp2_with fail
 go_region_held3 (fun w'=>w'.cell? (aq w.heap.size 0)=some (iv num)/\w'.cell? (aq x 10)=some (pt tw 0)) (simp [go_sem, *])
  (first
    | (go_at_call 81;refine (H5.out _ (yB hT5.out bL)).mono ?_;rintro e W6 ⟨rfl,hT6,hk⟩
       have ob6:Hid (W6.heap[w.heap.size]?=some (.cells #[iv num,iv cust,iv units,iv st,iv cents,iv (V3.now+sp)] 142)):=(hk _ (uA _) uO).trans ob5.out
       have rb6:Hid (W6.heap[w.heap.size+1]?=some (.cells #[iv 0,iv 0,iv 0,iv 0,iv 0,iv 0] 142)):=(hk _ uO uO).trans rb5.out
       obtain ⟨s0',s1',s2',s3',s4',s5'⟩:=qB ob6.out
       obtain ⟨c8',c10',hx6,hz6⟩:=yF hT6
       rw [tV5.out] at c10'
       have f5':=qA ob6.out 5
       have lw':w.heap.size<W6.heap.size:=uO
       replace hT6:Hid _:=hT6
       clear hk))
 clear c8 c10 s0 s1 s2 s3 s4 s5 f3 f5 hx5 hz5 lw5 lv5 hT5 ob5 rb5 s0' s1' s2' s3' s4' s5' c8' c10' f5' lw' hx6 hz6
 obtain ⟨s0,s1,s2,s3,s4,s5⟩:=qB ob6.out
 obtain ⟨c8,c10,hx6,hz6⟩:=yF hT6.out
 rw [tV5.out] at c10
 have lw6:w.heap.size<W6.heap.size:=uO
 have lv6:w.heap.size+1<W6.heap.size:=uO
 have f3:=qA ob6.out 3
 have f5:=qA ob6.out 5
 go_wp2_with fail
 go_region_held3 (fun w'=>w'.cell? (aq w.heap.size 0)=some (iv num)/\w'.cell? (aq w.heap.size 5)=some (iv (V3.now+sp))/\w'.cell? (aq x 10)=some (pt tw 0)) (simp [go_sem, *])
  (first
    | (go_at_call 79;refine (H6.out _ (yB hT6.out bL)).mono ?_;rintro e W7 ⟨rfl,hT7,hk⟩
       have ob7:Hid (W7.heap[w.heap.size]?=some (.cells #[iv num,iv cust,iv units,iv st,iv cents,iv (V3.now+sp)] 142)):=(hk _ (uA _) uO).trans ob6.out
       have rb7:Hid (W7.heap[w.heap.size+1]?=some (.cells #[iv 0,iv 0,iv 0,iv 0,iv 0,iv 0] 142)):=(hk _ uO uO).trans rb6.out
       obtain ⟨s0',s1',s2',s3',s4',s5'⟩:=qB ob7.out
       obtain ⟨c8',c10',hx7,hz7⟩:=yF hT7
       rw [tV6.out] at c10'
       have f5':=qA ob7.out 5
       have lw':w.heap.size<W7.heap.size:=uO
       replace hT7:Hid _:=hT7
       clear hk))
 clear c8 c10 s0 s1 s2 s3 s4 s5 f3 f5 hx6 hz6 lw6 lv6 hT6 ob6 rb6 s0' s1' s2' s3' s4' s5' c8' c10' f5' lw' hx7 hz7
 obtain ⟨s0,s1,s2,s3,s4,s5⟩:=qB ob7.out
 obtain ⟨c8,c10,hx7,hz7⟩:=yF hT7.out
 rw [tV6.out] at c10
 have lw7:w.heap.size<W7.heap.size:=uO
 have lv7:w.heap.size+1<W7.heap.size:=uO
 have f3:=qA ob7.out 3
 have f5:=qA ob7.out 5
 go_wp2_with fail
 go_region_held3 (fun w'=>w'.cell? (aq w.heap.size 0)=some (iv num)/\w'.cell? (aq w.heap.size 1)=some (iv cust)/\w'.cell? (aq w.heap.size 2)=some (iv units)/\w'.cell? (aq w.heap.size 3)=some (iv st)/\w'.cell? (aq w.heap.size 4)=some (iv cents)/\w'.cell? (aq w.heap.size 5)=some (iv (V3.now+sp))) (simp [go_sem, *])
  (first
    | (go_at_call 156;refine (H7.out _ (yB hT7.out bL)).mono ?_;rintro e W8 ⟨rfl,hT8,hk⟩
       have ob8:Hid (W8.heap[w.heap.size]?=some (.cells #[iv num,iv cust,iv units,iv st,iv cents,iv (V3.now+sp)] 142)):=(hk _ (uA _) uO).trans ob7.out
       have rb8:Hid (W8.heap[w.heap.size+1]?=some (.cells #[iv 0,iv 0,iv 0,iv 0,iv 0,iv 0] 142)):=(hk _ uO uO).trans rb7.out
       obtain ⟨s0',s1',s2',s3',s4',s5'⟩:=qB ob8.out
       obtain ⟨c8',c10',hx8,hz8⟩:=yF hT8
       have f5':=qA ob8.out 5
       have lw':w.heap.size<W8.heap.size:=uO
       replace hT8:Hid _:=hT8
       clear hk))
 clear c8 c10 s0 s1 s2 s3 s4 s5 f3 f5 hx7 hz7 lw7 lv7 hT7 ob7 rb7 s0' s1' s2' s3' s4' s5' c8' c10' f5' lw' hx8 hz8
 obtain ⟨s0,s1,s2,s3,s4,s5⟩:=qB ob8.out
 obtain ⟨c8,c10,hx8,hz8⟩:=yF hT8.out
 have lw8:w.heap.size<W8.heap.size:=uO
 have lv8:w.heap.size+1<W8.heap.size:=uO
 have f3:=qA ob8.out 3
 have f5:=qA ob8.out 5
 have HE:Hid (∀ v0 v1 v2 v3 v4 v5,yN w ((((((W8.setCell (aq (w.heap.size+1) 0) v0).setCell (aq (w.heap.size+1) 1) v1).setCell (aq (w.heap.size+1) 2) v2).setCell (aq (w.heap.size+1) 3) v3).setCell (aq (w.heap.size+1) 4) v4).setCell (aq (w.heap.size+1) 5) v5) x own V7):=fun v0 v1 v2 v3 v4 v5=>cX (iN hT8.out hw.out uO uO)
 have g0:=qA rb8.out 0
 have g1:=qA rb8.out 1
 have g2:=qA rb8.out 2
 have g3:=qA rb8.out 3
 have g4:=qA rb8.out 4
 have g5:=qA rb8.out 5
 obtain ⟨r0,r1,r2,r3,r4,r5⟩:=qB rb8.out
 go_wp2
 refine uK (v:=.agg #[iv num,iv cust,iv units,iv st,iv cents,iv (V3.now+sp)]) (by simp [results,Tryz.results129,go_sem,r0,r1,r2,r3,r4,r5]) rfl ⟨rfl,?_⟩
 exact HE.out _ _ _ _ _ _
theorem Si (x tw:Nat) (own:Nat->Prop) (V V2 V3 V4 V5 V6 V7:PV) (num cust units od0 cents up sp e5 e6:Int) (w:World) (hw:∀ k,own k->k<w.heap.size) (h:QE w x own V) (hu:0<=units/\units<=4294967296) (hs:0<=V4.now+sp/\V4.now+sp<=9223372036854775807) (q1:(od0==12)=false) (tV4:Hid (V4.tw=tw)) (tV5:Hid (V5.tw=tw)) (tV6:Hid (V6.tw=tw))
 (H2:Hid (dC w own 2 x V V2 153 #[pt x 19,iv cust,iv od0,iv (-units)] (.tuple #[])))
 (H3:Hid (dC w own 2 x V2 V3 153 #[pt x 19,iv cust,iv 12,iv units] (.tuple #[])))
 (H4:Hid (dC w own 2 x V3 V4 154 #[pt x 15,.agg #[iv num,iv cust,iv units,iv 12,iv cents,iv up]] (.tuple #[])))
 (HS:Hid (dC w own 2 x V4 V4 155 #[pt x 0,iv 12] (iv sp)))
 (H5:Hid (dC w own 2 x V4 V5 81 #[pt tw 0,iv num] (iv e5)))
 (H6:Hid (dC w own 2 x V5 V6 79 #[pt tw 0,iv num,iv (V4.now+sp)] (iv e6)))
 (H7:Hid (dC w own 2 x V6 V7 156 #[pt x 11,.agg #[iv num,iv cust,iv units,iv 12,iv cents,iv (V4.now+sp)]] (.tuple #[]))) :
 Ca 129 #[pt x 0,.agg #[iv num,iv cust,iv units,iv od0,iv cents,iv up],iv 12] w fun e w'=>e=.returned (.agg #[iv num,iv cust,iv units,iv 12,iv cents,iv (V4.now+sp)])/\yN w w' x own V7:=by
 have hn:IntKind.i64.wrap (-units)=-units:=yA uO uO
 have hsum:IntKind.i64.wrap (V4.now+sp)=V4.now+sp:=yA uO uO
 clear hu hs
 replace hw:Hid _:=hw
 go_enter Tryz.func129,Tryz.ntmps129
 have hT0:Hid (aS w own 2 ((w.alloc (.cells #[iv num,iv cust,iv units,iv od0,iv cents,iv up] 142)).alloc (.cells #[iv 0,iv 0,iv 0,iv 0,iv 0,iv 0] 142)) x V):=mO h (((uM _ _).alloc (uA _) _).alloc vS _) vS
 have ob0:=zq1 w #[iv num,iv cust,iv units,iv od0,iv cents,iv up] 142 #[iv 0,iv 0,iv 0,iv 0,iv 0,iv 0] 142
 have rb0:=zq2 w #[iv num,iv cust,iv units,iv od0,iv cents,iv up] 142 #[iv 0,iv 0,iv 0,iv 0,iv 0,iv 0] 142
 have hxw:x<w.heap.size:=hw.out x (by obtain ⟨g,h⟩:=h;exact h.ownx)
 clear h
 go_wp2_with fail
 generalize (w.alloc (.cells #[iv num,iv cust,iv units,iv od0,iv cents,iv up] 142)).alloc (.cells #[iv 0,iv 0,iv 0,iv 0,iv 0,iv 0] 142)=W0 at hT0 ob0 rb0 ⊢
 obtain ⟨s0,s1,s2,s3,s4,s5⟩:=qB ob0.out
 obtain ⟨c8,c10,hx0,hz0⟩:=yF hT0.out
 have lw0:w.heap.size<W0.heap.size:=uO
 have lv0:w.heap.size+1<W0.heap.size:=uO
 have f3:=qA ob0.out 3
 have f5:=qA ob0.out 5
 go_region_held3 (fun w'=>w'.cell? (aq w.heap.size 1)=some (iv cust)/\w'.cell? (aq w.heap.size 3)=some (iv od0)/\w'.cell? (aq w.heap.size 2)=some (iv units)) (simp [go_sem, *])
  (first
    | (go_at_call 153;refine (H2.out _ (yB hT0.out bL)).mono ?_;rintro e W1 ⟨rfl,hT1,hk⟩
       have ob1:Hid (W1.heap[w.heap.size]?=some (.cells #[iv num,iv cust,iv units,iv od0,iv cents,iv up] 142)):=(hk _ (uA _) uO).trans ob0.out
       have rb1:Hid (W1.heap[w.heap.size+1]?=some (.cells #[iv 0,iv 0,iv 0,iv 0,iv 0,iv 0] 142)):=(hk _ uO uO).trans rb0.out
       obtain ⟨s0',s1',s2',s3',s4',s5'⟩:=qB ob1.out
       obtain ⟨c8',c10',hx1,hz1⟩:=yF hT1
       have f5':=qA ob1.out 5
       have lw':w.heap.size<W1.heap.size:=uO
       replace hT1:Hid _:=hT1
       clear hk))
 clear c8 c10 s0 s1 s2 s3 s4 s5 f3 f5 hx0 hz0 lw0 lv0 hT0 ob0 rb0 s0' s1' s2' s3' s4' s5' c8' c10' f5' lw' hx1 hz1
 obtain ⟨s0,s1,s2,s3,s4,s5⟩:=qB ob1.out
 obtain ⟨c8,c10,hx1,hz1⟩:=yF hT1.out
 have lw1:w.heap.size<W1.heap.size:=uO
 have lv1:w.heap.size+1<W1.heap.size:=uO
 have f3:=qA ob1.out 3
 have f5:=qA ob1.out 5
 go_wp2_with fail
 have hT2:Hid (aS w own 2 (W1.setCell (aq w.heap.size 3) (iv 12)) x V2):=kA hT1.out hw (uA _) uO _
 have ob2:Hid ((W1.setCell (aq w.heap.size 3) (iv 12)).heap[w.heap.size]?=some (.cells #[iv num,iv cust,iv units,iv 12,iv cents,iv up] 142)):=uH (i:=3) ob1.out _
 have rb2:Hid ((W1.setCell (aq w.heap.size 3) (iv 12)).heap[w.heap.size+1]?=some (.cells #[iv 0,iv 0,iv 0,iv 0,iv 0,iv 0] 142)):=(uG _ (aq w.heap.size 3) _ _ (by show w.heap.size+1≠w.heap.size;omega)).trans rb1.out
 clear c8 c10 s0 s1 s2 s3 s4 s5 f3 f5 hx1 hz1 lw1 lv1
 generalize W1.setCell (aq w.heap.size 3) (iv 12)=W2 at hT2 ob2 rb2 ⊢
 clear hT1 ob1 rb1
 obtain ⟨s0,s1,s2,s3,s4,s5⟩:=qB ob2.out
 obtain ⟨c8,c10,hx2,hz2⟩:=yF hT2.out
 have lw2:w.heap.size<W2.heap.size:=uO
 have lv2:w.heap.size+1<W2.heap.size:=uO
 have f3:=qA ob2.out 3
 have f5:=qA ob2.out 5
 go_region_held3 (fun w'=>w'.cell? (aq w.heap.size 1)=some (iv cust)/\w'.cell? (aq w.heap.size 3)=some (iv 12)/\w'.cell? (aq w.heap.size 2)=some (iv units)) (simp [go_sem, *])
  (first
    | (go_at_call 153;refine (H3.out _ (yB hT2.out bL)).mono ?_;rintro e W3 ⟨rfl,hT3,hk⟩
       have ob3:Hid (W3.heap[w.heap.size]?=some (.cells #[iv num,iv cust,iv units,iv 12,iv cents,iv up] 142)):=(hk _ (uA _) uO).trans ob2.out
       have rb3:Hid (W3.heap[w.heap.size+1]?=some (.cells #[iv 0,iv 0,iv 0,iv 0,iv 0,iv 0] 142)):=(hk _ uO uO).trans rb2.out
       obtain ⟨s0',s1',s2',s3',s4',s5'⟩:=qB ob3.out
       obtain ⟨c8',c10',hx3,hz3⟩:=yF hT3
       have f5':=qA ob3.out 5
       have lw':w.heap.size<W3.heap.size:=uO
       replace hT3:Hid _:=hT3
       clear hk))
 clear c8 c10 s0 s1 s2 s3 s4 s5 f3 f5 hx2 hz2 lw2 lv2 hT2 ob2 rb2 s0' s1' s2' s3' s4' s5' c8' c10' f5' lw' hx3 hz3
 obtain ⟨s0,s1,s2,s3,s4,s5⟩:=qB ob3.out
 obtain ⟨c8,c10,hx3,hz3⟩:=yF hT3.out
 have lw3:w.heap.size<W3.heap.size:=uO
 have lv3:w.heap.size+1<W3.heap.size:=uO
 have f3:=qA ob3.out 3
 have f5:=qA ob3.out 5
 go_wp2_with fail
 go_region_held3 (fun w'=>w'.cell? (aq w.heap.size 0)=some (iv num)/\w'.cell? (aq w.heap.size 1)=some (iv cust)/\w'.cell? (aq w.heap.size 2)=some (iv units)/\w'.cell? (aq w.heap.size 3)=some (iv 12)/\w'.cell? (aq w.heap.size 4)=some (iv cents)/\w'.cell? (aq w.heap.size 5)=some (iv up)) (simp [go_sem, *])
  (first
    | (go_at_call 154;refine (H4.out _ (yB hT3.out bL)).mono ?_;rintro e W4 ⟨rfl,hT4,hk⟩
       have ob4:Hid (W4.heap[w.heap.size]?=some (.cells #[iv num,iv cust,iv units,iv 12,iv cents,iv up] 142)):=(hk _ (uA _) uO).trans ob3.out
       have rb4:Hid (W4.heap[w.heap.size+1]?=some (.cells #[iv 0,iv 0,iv 0,iv 0,iv 0,iv 0] 142)):=(hk _ uO uO).trans rb3.out
       obtain ⟨s0',s1',s2',s3',s4',s5'⟩:=qB ob4.out
       obtain ⟨c8',c10',hx4,hz4⟩:=yF hT4
       rw [tV4.out] at c10'
       have f5':=qA ob4.out 5
       have lw':w.heap.size<W4.heap.size:=uO
       replace hT4:Hid _:=hT4
       clear hk))
 clear c8 c10 s0 s1 s2 s3 s4 s5 f3 f5 hx3 hz3 lw3 lv3 hT3 ob3 rb3 s0' s1' s2' s3' s4' s5' c8' c10' f5' lw' hx4 hz4
 obtain ⟨s0,s1,s2,s3,s4,s5⟩:=qB ob4.out
 obtain ⟨c8,c10,hx4,hz4⟩:=yF hT4.out
 rw [tV4.out] at c10
 have lw4:w.heap.size<W4.heap.size:=uO
 have lv4:w.heap.size+1<W4.heap.size:=uO
 have f3:=qA ob4.out 3
 have f5:=qA ob4.out 5
 go_wp2_with fail
 go_region_held3 (fun w'=>w'.cell? (aq x 8)=some (iv V4.now)) (simp [go_sem, *])
  (first
    | (go_at_call 155;refine (HS.out _ (yB hT4.out bL)).mono ?_;rintro e W5 ⟨rfl,hT5,hk⟩
       have ob5:Hid (W5.heap[w.heap.size]?=some (.cells #[iv num,iv cust,iv units,iv 12,iv cents,iv up] 142)):=(hk _ (uA _) uO).trans ob4.out
       have rb5:Hid (W5.heap[w.heap.size+1]?=some (.cells #[iv 0,iv 0,iv 0,iv 0,iv 0,iv 0] 142)):=(hk _ uO uO).trans rb4.out
       obtain ⟨s0',s1',s2',s3',s4',s5'⟩:=qB ob5.out
       obtain ⟨c8',c10',hx5,hz5⟩:=yF hT5
       rw [tV4.out] at c10'
       have f5':=qA ob5.out 5
       have lw':w.heap.size<W5.heap.size:=uO
       replace hT5:Hid _:=hT5
       clear hk))
 clear c8 c10 s0 s1 s2 s3 s4 s5 f3 f5 hx4 hz4 lw4 lv4 hT4 ob4 rb4 s0' s1' s2' s3' s4' s5' c8' c10' f5' lw' hx5 hz5
 obtain ⟨s0,s1,s2,s3,s4,s5⟩:=qB ob5.out
 obtain ⟨c8,c10,hx5,hz5⟩:=yF hT5.out
 rw [tV4.out] at c10
 have lw5:w.heap.size<W5.heap.size:=uO
 have lv5:w.heap.size+1<W5.heap.size:=uO
 have f3:=qA ob5.out 3
 have f5:=qA ob5.out 5
 have hT6:Hid (aS w own 2 (W5.setCell (aq w.heap.size 5) (iv (V4.now+sp))) x V4):=kA hT5.out hw (uA _) uO _
 have ob6:Hid ((W5.setCell (aq w.heap.size 5) (iv (V4.now+sp))).heap[w.heap.size]?=some (.cells #[iv num,iv cust,iv units,iv 12,iv cents,iv (V4.now+sp)] 142)):=uH (i:=5) ob5.out _
 have rb6:Hid ((W5.setCell (aq w.heap.size 5) (iv (V4.now+sp))).heap[w.heap.size+1]?=some (.cells #[iv 0,iv 0,iv 0,iv 0,iv 0,iv 0] 142)):=(uG _ (aq w.heap.size 5) _ _ (by show w.heap.size+1≠w.heap.size;omega)).trans rb5.out
 clear c8 c10 s0 s1 s2 s3 s4 s5 f3 f5 hx5 hz5 lw5 lv5
 generalize W5.setCell (aq w.heap.size 5) (iv (V4.now+sp))=W6 at hT6 ob6 rb6 ⊢
 clear hT5 ob5 rb5
 obtain ⟨s0,s1,s2,s3,s4,s5⟩:=qB ob6.out
 obtain ⟨c8,c10,hx6,hz6⟩:=yF hT6.out
 rw [tV4.out] at c10
 have lw6:w.heap.size<W6.heap.size:=uO
 have lv6:w.heap.size+1<W6.heap.size:=uO
 have f3:=qA ob6.out 3
 have f5:=qA ob6.out 5
 go_wp2_with fail
 go_region_held3 (fun w'=>w'.cell? (aq w.heap.size 0)=some (iv num)/\w'.cell? (aq x 10)=some (pt tw 0)) (simp [go_sem, *])
  (first
    | (go_at_call 81;refine (H5.out _ (yB hT6.out bL)).mono ?_;rintro e W7 ⟨rfl,hT7,hk⟩
       have ob7:Hid (W7.heap[w.heap.size]?=some (.cells #[iv num,iv cust,iv units,iv 12,iv cents,iv (V4.now+sp)] 142)):=(hk _ (uA _) uO).trans ob6.out
       have rb7:Hid (W7.heap[w.heap.size+1]?=some (.cells #[iv 0,iv 0,iv 0,iv 0,iv 0,iv 0] 142)):=(hk _ uO uO).trans rb6.out
       obtain ⟨s0',s1',s2',s3',s4',s5'⟩:=qB ob7.out
       obtain ⟨c8',c10',hx7,hz7⟩:=yF hT7
       rw [tV5.out] at c10'
       have f5':=qA ob7.out 5
       have lw':w.heap.size<W7.heap.size:=uO
       replace hT7:Hid _:=hT7
       clear hk))
 clear c8 c10 s0 s1 s2 s3 s4 s5 f3 f5 hx6 hz6 lw6 lv6 hT6 ob6 rb6 s0' s1' s2' s3' s4' s5' c8' c10' f5' lw' hx7 hz7
 obtain ⟨s0,s1,s2,s3,s4,s5⟩:=qB ob7.out
 obtain ⟨c8,c10,hx7,hz7⟩:=yF hT7.out
 rw [tV5.out] at c10
 have lw7:w.heap.size<W7.heap.size:=uO
 have lv7:w.heap.size+1<W7.heap.size:=uO
 have f3:=qA ob7.out 3
 have f5:=qA ob7.out 5
 go_wp2_with fail
 go_region_held3 (fun w'=>w'.cell? (aq w.heap.size 0)=some (iv num)/\w'.cell? (aq w.heap.size 5)=some (iv (V4.now+sp))/\w'.cell? (aq x 10)=some (pt tw 0)) (simp [go_sem, *])
  (first
    | (go_at_call 79;refine (H6.out _ (yB hT7.out bL)).mono ?_;rintro e W8 ⟨rfl,hT8,hk⟩
       have ob8:Hid (W8.heap[w.heap.size]?=some (.cells #[iv num,iv cust,iv units,iv 12,iv cents,iv (V4.now+sp)] 142)):=(hk _ (uA _) uO).trans ob7.out
       have rb8:Hid (W8.heap[w.heap.size+1]?=some (.cells #[iv 0,iv 0,iv 0,iv 0,iv 0,iv 0] 142)):=(hk _ uO uO).trans rb7.out
       obtain ⟨s0',s1',s2',s3',s4',s5'⟩:=qB ob8.out
       obtain ⟨c8',c10',hx8,hz8⟩:=yF hT8
       rw [tV6.out] at c10'
       have f5':=qA ob8.out 5
       have lw':w.heap.size<W8.heap.size:=uO
       replace hT8:Hid _:=hT8
       clear hk))
 clear c8 c10 s0 s1 s2 s3 s4 s5 f3 f5 hx7 hz7 lw7 lv7 hT7 ob7 rb7 s0' s1' s2' s3' s4' s5' c8' c10' f5' lw' hx8 hz8
 obtain ⟨s0,s1,s2,s3,s4,s5⟩:=qB ob8.out
 obtain ⟨c8,c10,hx8,hz8⟩:=yF hT8.out
 rw [tV6.out] at c10
 have lw8:w.heap.size<W8.heap.size:=uO
 have lv8:w.heap.size+1<W8.heap.size:=uO
 have f3:=qA ob8.out 3
 have f5:=qA ob8.out 5
 go_wp2_with fail
 go_region_held3 (fun w'=>w'.cell? (aq w.heap.size 0)=some (iv num)/\w'.cell? (aq w.heap.size 1)=some (iv cust)/\w'.cell? (aq w.heap.size 2)=some (iv units)/\w'.cell? (aq w.heap.size 3)=some (iv 12)/\w'.cell? (aq w.heap.size 4)=some (iv cents)/\w'.cell? (aq w.heap.size 5)=some (iv (V4.now+sp))) (simp [go_sem, *])
  (first
    | (go_at_call 156;refine (H7.out _ (yB hT8.out bL)).mono ?_;rintro e W9 ⟨rfl,hT9,hk⟩
       have ob9:Hid (W9.heap[w.heap.size]?=some (.cells #[iv num,iv cust,iv units,iv 12,iv cents,iv (V4.now+sp)] 142)):=(hk _ (uA _) uO).trans ob8.out
       have rb9:Hid (W9.heap[w.heap.size+1]?=some (.cells #[iv 0,iv 0,iv 0,iv 0,iv 0,iv 0] 142)):=(hk _ uO uO).trans rb8.out
       obtain ⟨s0',s1',s2',s3',s4',s5'⟩:=qB ob9.out
       obtain ⟨c8',c10',hx9,hz9⟩:=yF hT9
       have f5':=qA ob9.out 5
       have lw':w.heap.size<W9.heap.size:=uO
       replace hT9:Hid _:=hT9
       clear hk))
 clear c8 c10 s0 s1 s2 s3 s4 s5 f3 f5 hx8 hz8 lw8 lv8 hT8 ob8 rb8 s0' s1' s2' s3' s4' s5' c8' c10' f5' lw' hx9 hz9
 obtain ⟨s0,s1,s2,s3,s4,s5⟩:=qB ob9.out
 obtain ⟨c8,c10,hx9,hz9⟩:=yF hT9.out
 have lw9:w.heap.size<W9.heap.size:=uO
 have lv9:w.heap.size+1<W9.heap.size:=uO
 have f3:=qA ob9.out 3
 have f5:=qA ob9.out 5
 have HE:Hid (∀ v0 v1 v2 v3 v4 v5,yN w ((((((W9.setCell (aq (w.heap.size+1) 0) v0).setCell (aq (w.heap.size+1) 1) v1).setCell (aq (w.heap.size+1) 2) v2).setCell (aq (w.heap.size+1) 3) v3).setCell (aq (w.heap.size+1) 4) v4).setCell (aq (w.heap.size+1) 5) v5) x own V7):=fun v0 v1 v2 v3 v4 v5=>cX (iN hT9.out hw.out uO uO)
 have g0:=qA rb9.out 0
 have g1:=qA rb9.out 1
 have g2:=qA rb9.out 2
 have g3:=qA rb9.out 3
 have g4:=qA rb9.out 4
 have g5:=qA rb9.out 5
 obtain ⟨r0,r1,r2,r3,r4,r5⟩:=qB rb9.out
 go_wp2
 refine uK (v:=.agg #[iv num,iv cust,iv units,iv 12,iv cents,iv (V4.now+sp)]) (by simp [results,Tryz.results129,go_sem,r0,r1,r2,r3,r4,r5]) rfl ⟨rfl,?_⟩
 exact HE.out _ _ _ _ _ _
