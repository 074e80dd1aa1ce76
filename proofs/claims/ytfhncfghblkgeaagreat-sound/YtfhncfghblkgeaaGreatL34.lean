import Derived.Test.YtfhncfghblkgeaaGreatL28
import Derived.Test.YtfhncfghblkgeaaGreatL31
import Derived.Test.YtfhncfghblkgeaaGreatL32
import Derived.Test.YtfhncfghblkgeaaGreatL33
set_option maxRecDepth 100000
set_option maxHeartbeats 2000000
namespace Go.Proofs.YtfhncfghblkgeaaGreat
open Go.RowKit
def ji1 (W:World) (b:Nat):Nat->List Value->World
 | _,[]=>W
 | o,v :: vs=>ji1 (W.setCell (aq b o) v) b (o+1) vs
theorem jid {P P':World->(Nat->Prop)->Prop} {w W W':World} {own loc:Nat->Prop} (hw:∀ k,own k->k<w.heap.size) (hT:ja9 P w own loc W) (h:∀ o,P W o->jar P' W W' o):ja9 P' w own loc W'/\∀ b,loc b->W'.heap[b]?=W.heap[b]?:=by
 obtain ⟨o1,a1,a2,a3,a4⟩:=hT
 obtain ⟨o2,b1,b2,b3⟩:=h o1 a1
 have z1:=a2.size
 have z2:=b2.size
 refine ⟨⟨o2,b1,Same.trans a2 b2 (fun k hk e=>e.elim id (fun e=>(a3 k e).elim id (fun e=>by omega))),fun k e=>(b3 k e).elim (a3 k) (fun e=>.inr ⟨by omega,fun c=>by have:=(a4 k c).2;omega⟩),fun k e=>⟨(a4 k e).1,by have:=(a4 k e).2;omega⟩⟩,fun b hb=>b2.block b (a4 b hb).2 (fun e=>?_)⟩
 rcases a3 b e with e|e
 ·have:=hw b e;have:=(a4 b hb).1;omega
 ·exact e.2 hb
theorem joq (x n m j:Nat) (num z0 z1 z2 z3 z4 z5:Int) (w:World) (own:Nat->Prop) (hw:∀ k,own k->k<w.heap.size) (hnm:n=m+1) (hm:m<=4294967296) (hj:j<=m) (P0 P1 P2 P3 P4 P5:World->(Nat->Prop)->Prop) (K0:Keeps P0) (K1:Keeps P1) (K2:Keeps P2) (K4:Keeps P4) (h:P0 w own)
 (HG:Hid (jc2 w own P0 P0 95 #[pt x 11,.agg #[iv num,iv 0]] (.tuple #[iv j,.bool true])))
 (HC:Hid (∀ loc W,ja9 P0 w own loc W->∃ (b cap:Nat) (v0 v1 v2 v3 v4 v5:Value),x<W.heap.size/\b<W.heap.size/\W.cell? (aq x 13)=some (.slice (some (aq b 0)) n cap)/\W.cell? (aq b (m * 6))=some (iv z0)/\W.cell? (aq b (m * 6+1))=some (iv z1)/\W.cell? (aq b (m * 6+2))=some (iv z2)/\W.cell? (aq b (m * 6+3))=some (iv z3)/\W.cell? (aq b (m * 6+4))=some (iv z4)/\W.cell? (aq b (m * 6+5))=some (iv z5)/\W.cell? (aq b (j * 6))=some v0/\W.cell? (aq b (j * 6+1))=some v1/\W.cell? (aq b (j * 6+2))=some v2/\W.cell? (aq b (j * 6+3))=some v3/\W.cell? (aq b (j * 6+4))=some v4/\W.cell? (aq b (j * 6+5))=some v5/\W.frozen? (aq b (j * 6))=false/\W.frozen? (aq b (j * 6+1))=false/\W.frozen? (aq b (j * 6+2))=false/\W.frozen? (aq b (j * 6+3))=false/\W.frozen? (aq b (j * 6+4))=false/\W.frozen? (aq b (j * 6+5))=false/\ja9 P1 w own loc ((((((W.setCell (aq b (j * 6)) (iv z0)).setCell (aq b (j * 6+1)) (iv z1)).setCell (aq b (j * 6+2)) (iv z2)).setCell (aq b (j * 6+3)) (iv z3)).setCell (aq b (j * 6+4)) (iv z4)).setCell (aq b (j * 6+5)) (iv z5))/\∀ k,loc k->((((((W.setCell (aq b (j * 6)) (iv z0)).setCell (aq b (j * 6+1)) (iv z1)).setCell (aq b (j * 6+2)) (iv z2)).setCell (aq b (j * 6+3)) (iv z3)).setCell (aq b (j * 6+4)) (iv z4)).setCell (aq b (j * 6+5)) (iv z5)).heap[k]?=W.heap[k]?))
 (HP:Hid (jc2 w own P1 P2 112 #[pt x 11,.agg #[iv z0,iv 0],iv j] (.tuple #[])))
 (HR:Hid (jc2 w own P2 P3 143 #[pt x 11,.agg #[iv num,iv 0]] (.tuple #[])))
 (HL:Hid (∀ loc W,ja9 P3 w own loc W->∃ (b cap:Nat),x<W.heap.size/\n<=cap/\W.cell? (aq x 13)=some (.slice (some (aq b 0)) n cap)/\W.frozen? (aq x 13)=false/\ja9 P4 w own loc (W.setCell (aq x 13) (.slice (some (aq b 0)) m cap))))
 (HX1:Hid (∀ loc W,ja9 P1 w own loc W->x<W.heap.size)) (HX2:Hid (∀ loc W,ja9 P2 w own loc W->x<W.heap.size))
 (HS:Hid (jc2 w own P4 P5 176 #[pt x 11] (.tuple #[]))) :
 Calls Tryz.prog 160 #[pt x 11,iv num] w fun e w'=>e=.returned (.tuple #[])/\jar P5 w w' own:=by
 have he:wrap64 ((n:Int) - 1)=(m:Int):=by unfold wrap64;omega
 have d0:decide ((j:Int)<0)=false:=by simp
 have d1:decide ((m:Int)<(j:Int))=false:=by simp;omega
 have b0:(0:Int)<=(m:Int):=by omega
 have b1:(m:Int)<(n:Int):=by omega
 have b2:(0:Int)<=(j:Int):=by omega
 have b3:(j:Int)<(n:Int):=by omega
 replace hnm:Hid _:=hnm
 replace hw:Hid _:=hw
 go_enter Tryz.func160,Tryz.ntmps160
 go_wp2_with fail
 have kb:Hid ((w.alloc (.cells #[iv num,iv 0] 178)).heap[w.heap.size]?=some (.cells #[iv num,iv 0] 178 (0,0))):=heap_alloc_new _ _
 have hT0:Hid (ja9 P0 w own (fun k=>k=w.heap.size) (w.alloc (.cells #[iv num,iv 0] 178))):=jaj K0 h ((Below.refl _ _).alloc (Nat.le_refl _) _) (by rintro k rfl;exact ⟨Nat.le_refl _,by simp⟩)
 generalize w.alloc (.cells #[iv num,iv 0] 178)=W0 at kb hT0 ⊢
 obtain ⟨y0,y1⟩:=jaa kb.out
 have hz:w.heap.size<W0.heap.size:=(blt kb.out)
 have hxW:x<W0.heap.size:=by
  obtain ⟨b,cap,v0,v1,v2,v3,v4,v5,hx,hb,hl,m0,m1,m2,m3,m4,m5,e0,e1,e2,e3,e4,e5,f0,f1,f2,f3,f4,f5,hs3,hs4⟩:=HC.out _ _ hT0.out
  exact hx
 go_region_held3 (fun w'=>w'.cell? (aq w.heap.size 0)=some (iv num)/\w'.cell? (aq w.heap.size 1)=some (iv 0)) (simp [go_sem, *])
  (first
    | (go_at_call 95;refine (HG.out _ _ (ja4 K0 hT0.out bL)).mono ?_;rintro e W1 ⟨rfl,hT1,hk⟩
       replace hT1:Hid _:=hT1
       have kb1:Hid (W1.heap[w.heap.size]?=some (.cells #[iv num,iv 0] 178 (0,0))):=(hk w.heap.size rfl).trans kb.out
       obtain ⟨q0,q1⟩:=jaa kb1.out
       have hz1:w.heap.size<W1.heap.size:=(blt kb1.out)
       clear hk))
 clear y0 y1 hT0 kb HG hz hxW
 obtain ⟨b,cap,v0,v1,v2,v3,v4,v5,hx,hb,hl,m0,m1,m2,m3,m4,m5,e0,e1,e2,e3,e4,e5,f0,f1,f2,f3,f4,f5,hs3,hs4⟩:=HC.out _ _ hT1.out
 clear e0 f0 e1 f1 e2 f2 e3 f3 e4 f4 e5 f5 hs3 hs4
 go_wp2_with fail
 have lb:Hid ((W1.alloc (.cells #[iv z0,iv z1,iv z2,iv z3,iv z4,iv z5] 184)).heap[W1.heap.size]?=some (.cells #[iv z0,iv z1,iv z2,iv z3,iv z4,iv z5] 184 (0,0))):=heap_alloc_new _ _
 have kb2:Hid ((W1.alloc (.cells #[iv z0,iv z1,iv z2,iv z3,iv z4,iv z5] 184)).heap[w.heap.size]?=some (.cells #[iv num,iv 0] 178 (0,0))):=(Below.heap_alloc _ _ _ hz1).trans kb1.out
 have hT2:Hid (ja9 P0 w own (fun k=>k=w.heap.size\/k=W1.heap.size) (W1.alloc (.cells #[iv z0,iv z1,iv z2,iv z3,iv z4,iv z5] 184))):=jaf K0 hT1.out _
 clear hx hb hl m0 m1 m2 m3 m4 m5 q0 q1 hT1 kb1 hz1
 generalize W1.alloc (.cells #[iv z0,iv z1,iv z2,iv z3,iv z4,iv z5] 184)=W2 at lb kb2 hT2 ⊢
 generalize W1.heap.size=l at lb hT2 ⊢
 obtain ⟨b,cap,v0,v1,v2,v3,v4,v5,hx,hb,hl,m0,m1,m2,m3,m4,m5,e0,e1,e2,e3,e4,e5,f0,f1,f2,f3,f4,f5,hs3,hs4⟩:=HC.out _ _ hT2.out
 obtain ⟨s0,s1,s2,s3,s4,s5⟩:=ja1 lb.out
 have hlz:l<W2.heap.size:=(blt lb.out)
 replace hs3:Hid _:=hs3
 replace hs4:Hid _:=hs4
 clear m0 m1 m2 m3 m4 m5 HC
 go_region
 all_goals
  have hT3:=hs3.out
  have lb3:Hid _:=(hs4.out l (.inr rfl)).trans lb.out
  have kb3:Hid _:=(hs4.out w.heap.size (.inl rfl)).trans kb2.out
  clear hs3 hs4 hx hb hl e0 f0 s0 e1 f1 s1 e2 f2 s2 e3 f3 s3 e4 f4 s4 e5 f5 s5 hT2 lb kb2 hlz
  generalize ((((((W2.setCell (aq b (j * 6)) (iv z0)).setCell (aq b (j * 6+1)) (iv z1)).setCell (aq b (j * 6+2)) (iv z2)).setCell (aq b (j * 6+3)) (iv z3)).setCell (aq b (j * 6+4)) (iv z4)).setCell (aq b (j * 6+5)) (iv z5))=W3 at hT3 lb3 kb3 ⊢
  replace hT3:Hid (ja9 P1 w own (fun k=>k=w.heap.size\/k=l) W3):=hT3
  have u0:W3.cell? (aq l 0)=some (iv z0):=by rw [Joins.cell_of_block lb3.out];rfl
  have hx3:x<W3.heap.size:=HX1.out _ _ hT3.out
  have hlz:l<W3.heap.size:=(blt lb3.out)
  go_wp2_with fail
  go_region_held3 (fun w'=>w'.cell? (aq l 0)=some (iv z0)) (simp [go_sem, *])
   (first
     | (go_at_call 112;refine (HP.out _ _ (ja4 K1 hT3.out bL)).mono ?_;rintro e W4 ⟨rfl,hT4,hk⟩
        replace hT4:Hid _:=hT4
        have kb4:Hid (W4.heap[w.heap.size]?=some (.cells #[iv num,iv 0] 178 (0,0))):=(hk w.heap.size (.inl rfl)).trans kb3.out
        have lb4:Hid (W4.heap[l]?=_):=(hk l (.inr rfl)).trans lb3.out
        have q0:W4.cell? (aq l 0)=some (iv z0):=by rw [Joins.cell_of_block lb4.out];rfl
        clear hk))
  clear u0 hx3 hlz hT3 lb3 kb3 q0 lb4 HP
  obtain ⟨y0,y1⟩:=jaa kb4.out
  have hx4:x<W4.heap.size:=HX2.out _ _ hT4.out
  have hz4:w.heap.size<W4.heap.size:=(blt kb4.out)
  go_wp2_with fail
  go_region_held3 (fun w'=>w'.cell? (aq w.heap.size 0)=some (iv num)/\w'.cell? (aq w.heap.size 1)=some (iv 0)) (simp [go_sem, *])
   (first
     | (go_at_call 143;refine (HR.out _ _ (ja4 K2 hT4.out bL)).mono ?_;rintro e W5 ⟨rfl,hT5,hk⟩
        replace hT5:Hid _:=hT5
        obtain ⟨q0,q1⟩:=jaa ((hk w.heap.size (.inl rfl)).trans kb4.out)
        clear hk))
  clear y0 y1 q0 q1 hx4 hz4 hT4 kb4 HR
  obtain ⟨b5,c5,hx5,hc5,hl5,hf5,hs5⟩:=HL.out _ _ hT5.out
  have b4:(m:Int)<=(c5:Int):=by have:=hnm.out;omega
  replace hs5:Hid _:=hs5
  clear hT5
  go_wp2_with (go_at_call 176;refine (HS.out _ _ (ja4 K4 hs5.out bL)).mono ?_;rintro e W6 ⟨rfl,hT6,hk⟩)
  first|go_end0|refine bodyPost_ret (results_none rfl _ _ _) rfl ?_
  exact ⟨rfl,jb7 hT6⟩
theorem jpl (x n m j:Nat) (num z0 z1 z2 z3 z4 z5 z6 z7 z8:Int) (w:World) (own:Nat->Prop) (hw:∀ k,own k->k<w.heap.size) (hnm:n=m+1) (hm:m<=4294967296) (hj:j<=m) (P0 P1 P2 P3 P4 P5:World->(Nat->Prop)->Prop) (K0:Keeps P0) (K1:Keeps P1) (K2:Keeps P2) (K4:Keeps P4) (h:P0 w own)
 (HG:Hid (jc2 w own P0 P0 95 #[pt x 24,.agg #[iv num,iv 0]] (.tuple #[iv j,.bool true])))
 (HC:Hid (∀ loc W,ja9 P0 w own loc W->∃ (b cap:Nat) (v0 v1 v2 v3 v4 v5 v6 v7 v8:Value),x<W.heap.size/\b<W.heap.size/\W.cell? (aq x 26)=some (.slice (some (aq b 0)) n cap)/\W.cell? (aq b (m * 9))=some (iv z0)/\W.cell? (aq b (m * 9+1))=some (iv z1)/\W.cell? (aq b (m * 9+2))=some (iv z2)/\W.cell? (aq b (m * 9+3))=some (iv z3)/\W.cell? (aq b (m * 9+4))=some (iv z4)/\W.cell? (aq b (m * 9+5))=some (iv z5)/\W.cell? (aq b (m * 9+6))=some (iv z6)/\W.cell? (aq b (m * 9+7))=some (iv z7)/\W.cell? (aq b (m * 9+8))=some (iv z8)/\W.cell? (aq b (j * 9))=some v0/\W.cell? (aq b (j * 9+1))=some v1/\W.cell? (aq b (j * 9+2))=some v2/\W.cell? (aq b (j * 9+3))=some v3/\W.cell? (aq b (j * 9+4))=some v4/\W.cell? (aq b (j * 9+5))=some v5/\W.cell? (aq b (j * 9+6))=some v6/\W.cell? (aq b (j * 9+7))=some v7/\W.cell? (aq b (j * 9+8))=some v8/\W.frozen? (aq b (j * 9))=false/\W.frozen? (aq b (j * 9+1))=false/\W.frozen? (aq b (j * 9+2))=false/\W.frozen? (aq b (j * 9+3))=false/\W.frozen? (aq b (j * 9+4))=false/\W.frozen? (aq b (j * 9+5))=false/\W.frozen? (aq b (j * 9+6))=false/\W.frozen? (aq b (j * 9+7))=false/\W.frozen? (aq b (j * 9+8))=false/\ja9 P1 w own loc (((((((((W.setCell (aq b (j * 9)) (iv z0)).setCell (aq b (j * 9+1)) (iv z1)).setCell (aq b (j * 9+2)) (iv z2)).setCell (aq b (j * 9+3)) (iv z3)).setCell (aq b (j * 9+4)) (iv z4)).setCell (aq b (j * 9+5)) (iv z5)).setCell (aq b (j * 9+6)) (iv z6)).setCell (aq b (j * 9+7)) (iv z7)).setCell (aq b (j * 9+8)) (iv z8))/\∀ k,loc k->(((((((((W.setCell (aq b (j * 9)) (iv z0)).setCell (aq b (j * 9+1)) (iv z1)).setCell (aq b (j * 9+2)) (iv z2)).setCell (aq b (j * 9+3)) (iv z3)).setCell (aq b (j * 9+4)) (iv z4)).setCell (aq b (j * 9+5)) (iv z5)).setCell (aq b (j * 9+6)) (iv z6)).setCell (aq b (j * 9+7)) (iv z7)).setCell (aq b (j * 9+8)) (iv z8)).heap[k]?=W.heap[k]?))
 (HP:Hid (jc2 w own P1 P2 112 #[pt x 24,.agg #[iv z1,iv 0],iv j] (.tuple #[])))
 (HR:Hid (jc2 w own P2 P3 143 #[pt x 24,.agg #[iv num,iv 0]] (.tuple #[])))
 (HL:Hid (∀ loc W,ja9 P3 w own loc W->∃ (b cap:Nat),x<W.heap.size/\n<=cap/\W.cell? (aq x 26)=some (.slice (some (aq b 0)) n cap)/\W.frozen? (aq x 26)=false/\ja9 P4 w own loc (W.setCell (aq x 26) (.slice (some (aq b 0)) m cap))))
 (HX1:Hid (∀ loc W,ja9 P1 w own loc W->x<W.heap.size)) (HX2:Hid (∀ loc W,ja9 P2 w own loc W->x<W.heap.size))
 (HS:Hid (jc2 w own P4 P5 163 #[pt x 23] (.tuple #[]))) :
 Calls Tryz.prog 138 #[pt x 23,iv num] w fun e w'=>e=.returned (.tuple #[])/\jar P5 w w' own:=by
 have he:wrap64 ((n:Int) - 1)=(m:Int):=by unfold wrap64;omega
 have d0:decide ((j:Int)<0)=false:=by simp
 have d1:decide ((m:Int)<(j:Int))=false:=by simp;omega
 have b0:(0:Int)<=(m:Int):=by omega
 have b1:(m:Int)<(n:Int):=by omega
 have b2:(0:Int)<=(j:Int):=by omega
 have b3:(j:Int)<(n:Int):=by omega
 replace hnm:Hid _:=hnm
 replace hw:Hid _:=hw
 go_enter Tryz.func138,Tryz.ntmps138
 go_wp2_with fail
 have kb:Hid ((w.alloc (.cells #[iv num,iv 0] 178)).heap[w.heap.size]?=some (.cells #[iv num,iv 0] 178 (0,0))):=heap_alloc_new _ _
 have hT0:Hid (ja9 P0 w own (fun k=>k=w.heap.size) (w.alloc (.cells #[iv num,iv 0] 178))):=jaj K0 h ((Below.refl _ _).alloc (Nat.le_refl _) _) (by rintro k rfl;exact ⟨Nat.le_refl _,by simp⟩)
 generalize w.alloc (.cells #[iv num,iv 0] 178)=W0 at kb hT0 ⊢
 obtain ⟨y0,y1⟩:=jaa kb.out
 have hz:w.heap.size<W0.heap.size:=(blt kb.out)
 have hxW:x<W0.heap.size:=by
  obtain ⟨b,cap,v0,v1,v2,v3,v4,v5,v6,v7,v8,hx,hb,hl,m0,m1,m2,m3,m4,m5,m6,m7,m8,e0,e1,e2,e3,e4,e5,e6,e7,e8,f0,f1,f2,f3,f4,f5,f6,f7,f8,hs3,hs4⟩:=HC.out _ _ hT0.out
  exact hx
 go_region_held3 (fun w'=>w'.cell? (aq w.heap.size 0)=some (iv num)/\w'.cell? (aq w.heap.size 1)=some (iv 0)) (simp [go_sem, *])
  (first
    | (go_at_call 95;refine (HG.out _ _ (ja4 K0 hT0.out bL)).mono ?_;rintro e W1 ⟨rfl,hT1,hk⟩
       replace hT1:Hid _:=hT1
       have kb1:Hid (W1.heap[w.heap.size]?=some (.cells #[iv num,iv 0] 178 (0,0))):=(hk w.heap.size rfl).trans kb.out
       obtain ⟨q0,q1⟩:=jaa kb1.out
       have hz1:w.heap.size<W1.heap.size:=(blt kb1.out)
       clear hk))
 clear y0 y1 hT0 kb HG hz hxW
 obtain ⟨b,cap,v0,v1,v2,v3,v4,v5,v6,v7,v8,hx,hb,hl,m0,m1,m2,m3,m4,m5,m6,m7,m8,e0,e1,e2,e3,e4,e5,e6,e7,e8,f0,f1,f2,f3,f4,f5,f6,f7,f8,hs3,hs4⟩:=HC.out _ _ hT1.out
 clear e0 f0 e1 f1 e2 f2 e3 f3 e4 f4 e5 f5 e6 f6 e7 f7 e8 f8 hs3 hs4
 go_wp2_with fail
 have lb:Hid ((W1.alloc (.cells #[iv z0,iv z1,iv z2,iv z3,iv z4,iv z5,iv z6,iv z7,iv z8] 188)).heap[W1.heap.size]?=some (.cells #[iv z0,iv z1,iv z2,iv z3,iv z4,iv z5,iv z6,iv z7,iv z8] 188 (0,0))):=heap_alloc_new _ _
 have kb2:Hid ((W1.alloc (.cells #[iv z0,iv z1,iv z2,iv z3,iv z4,iv z5,iv z6,iv z7,iv z8] 188)).heap[w.heap.size]?=some (.cells #[iv num,iv 0] 178 (0,0))):=(Below.heap_alloc _ _ _ hz1).trans kb1.out
 have hT2:Hid (ja9 P0 w own (fun k=>k=w.heap.size\/k=W1.heap.size) (W1.alloc (.cells #[iv z0,iv z1,iv z2,iv z3,iv z4,iv z5,iv z6,iv z7,iv z8] 188))):=jaf K0 hT1.out _
 clear hx hb hl m0 m1 m2 m3 m4 m5 m6 m7 m8 q0 q1 hT1 kb1 hz1
 generalize W1.alloc (.cells #[iv z0,iv z1,iv z2,iv z3,iv z4,iv z5,iv z6,iv z7,iv z8] 188)=W2 at lb kb2 hT2 ⊢
 generalize W1.heap.size=l at lb hT2 ⊢
 obtain ⟨b,cap,v0,v1,v2,v3,v4,v5,v6,v7,v8,hx,hb,hl,m0,m1,m2,m3,m4,m5,m6,m7,m8,e0,e1,e2,e3,e4,e5,e6,e7,e8,f0,f1,f2,f3,f4,f5,f6,f7,f8,hs3,hs4⟩:=HC.out _ _ hT2.out
 obtain ⟨s0,s1,s2,s3,s4,s5,s6,s7,s8⟩:=jbk lb.out
 have hlz:l<W2.heap.size:=(blt lb.out)
 replace hs3:Hid _:=hs3
 replace hs4:Hid _:=hs4
 clear m0 m1 m2 m3 m4 m5 m6 m7 m8 HC
 go_region
 all_goals
  have hT3:=hs3.out
  have lb3:Hid _:=(hs4.out l (.inr rfl)).trans lb.out
  have kb3:Hid _:=(hs4.out w.heap.size (.inl rfl)).trans kb2.out
  clear hs3 hs4 hx hb hl e0 f0 s0 e1 f1 s1 e2 f2 s2 e3 f3 s3 e4 f4 s4 e5 f5 s5 e6 f6 s6 e7 f7 s7 e8 f8 s8 hT2 lb kb2 hlz
  generalize (((((((((W2.setCell (aq b (j * 9)) (iv z0)).setCell (aq b (j * 9+1)) (iv z1)).setCell (aq b (j * 9+2)) (iv z2)).setCell (aq b (j * 9+3)) (iv z3)).setCell (aq b (j * 9+4)) (iv z4)).setCell (aq b (j * 9+5)) (iv z5)).setCell (aq b (j * 9+6)) (iv z6)).setCell (aq b (j * 9+7)) (iv z7)).setCell (aq b (j * 9+8)) (iv z8))=W3 at hT3 lb3 kb3 ⊢
  replace hT3:Hid (ja9 P1 w own (fun k=>k=w.heap.size\/k=l) W3):=hT3
  have u0:W3.cell? (aq l 1)=some (iv z1):=by rw [Joins.cell_of_block lb3.out];rfl
  have hx3:x<W3.heap.size:=HX1.out _ _ hT3.out
  have hlz:l<W3.heap.size:=(blt lb3.out)
  go_wp2_with fail
  go_region_held3 (fun w'=>w'.cell? (aq l 1)=some (iv z1)) (simp [go_sem, *])
   (first
     | (go_at_call 112;refine (HP.out _ _ (ja4 K1 hT3.out bL)).mono ?_;rintro e W4 ⟨rfl,hT4,hk⟩
        replace hT4:Hid _:=hT4
        have kb4:Hid (W4.heap[w.heap.size]?=some (.cells #[iv num,iv 0] 178 (0,0))):=(hk w.heap.size (.inl rfl)).trans kb3.out
        have lb4:Hid (W4.heap[l]?=_):=(hk l (.inr rfl)).trans lb3.out
        have q0:W4.cell? (aq l 1)=some (iv z1):=by rw [Joins.cell_of_block lb4.out];rfl
        clear hk))
  clear u0 hx3 hlz hT3 lb3 kb3 q0 lb4 HP
  obtain ⟨y0,y1⟩:=jaa kb4.out
  have hx4:x<W4.heap.size:=HX2.out _ _ hT4.out
  have hz4:w.heap.size<W4.heap.size:=(blt kb4.out)
  go_wp2_with fail
  go_region_held3 (fun w'=>w'.cell? (aq w.heap.size 0)=some (iv num)/\w'.cell? (aq w.heap.size 1)=some (iv 0)) (simp [go_sem, *])
   (first
     | (go_at_call 143;refine (HR.out _ _ (ja4 K2 hT4.out bL)).mono ?_;rintro e W5 ⟨rfl,hT5,hk⟩
        replace hT5:Hid _:=hT5
        obtain ⟨q0,q1⟩:=jaa ((hk w.heap.size (.inl rfl)).trans kb4.out)
        clear hk))
  clear y0 y1 q0 q1 hx4 hz4 hT4 kb4 HR
  obtain ⟨b5,c5,hx5,hc5,hl5,hf5,hs5⟩:=HL.out _ _ hT5.out
  have b4:(m:Int)<=(c5:Int):=by have:=hnm.out;omega
  replace hs5:Hid _:=hs5
  clear hT5
  go_wp2_with (go_at_call 163;refine (HS.out _ _ (ja4 K4 hs5.out bL)).mono ?_;rintro e W6 ⟨rfl,hT6,hk⟩)
  first|go_end0|refine bodyPost_ret (results_none rfl _ _ _) rfl ?_
  exact ⟨rfl,jb7 hT6⟩
section
def pv (x:Nat) (V:PV) (W:World) (o:Nat->Prop):Prop:=psm W x o V
theorem jla (x:Nat) (V:PV):Keeps (pv x V):=⟨fun h=>jes h,fun h hz hk=>jez h hz hk⟩
def pvb (x i:Nat) (V:PV) (W:World) (o:Nat->Prop):Prop:=psm W x o V/\∃ a n c,W.cell? (aq x i)=some (.slice (some a) n c)
theorem jzm {W:World} {x:Nat} {own:Nat->Prop} {V:PV} (h:psm W x own V):own x:=by
 obtain ⟨g,h⟩:=h
 exact h.ownx
theorem qd8 (x i:Nat) (V:PV):Keeps (pvb x i V):=⟨fun h=>jes h.1,fun h hz hk=>⟨jez h.1 hz hk,by
 obtain ⟨hp,a,n,c,e⟩:=h
 exact ⟨a,n,c,(World.cell?_of_block (a:=(aq x i)) (hk x (jzm hp))).trans e⟩⟩⟩
theorem jj6 {b:Nat} {T:TypeId}:∀ (vs:List Value) (o:Nat) (W:World) (C:Array Value),W.heap[b]?=some (.cells C T (0,0))->∃ C':Array Value,(ji1 W b o vs).heap[b]?=some (.cells C' T (0,0))/\C'.toList=jca C.toList o vs
 | [],_,_,C,h=>⟨C,h,rfl⟩
 | v :: vs,o,W,C,h=>by
   obtain ⟨C',h1,h2⟩:=jj6 vs (o+1) (W.setCell (aq b o) v) (C.setIfInBounds o v) (Joins.block_setCell h v)
   exact ⟨C',h1,by rw [h2,Array.toList_setIfInBounds];rfl⟩
theorem jh9 {b:Nat}:∀ (vs:List Value) (o:Nat) (W:World),Same (fun k=>k=b) W (ji1 W b o vs)
 | [],_,W=>Same.of_below (Below.refl _ _)
 | v :: vs,o,W=>Same.trans (jc8 (own:=fun k=>k=b) (Same.of_below (Below.refl _ _)) b o v rfl) (jh9 vs (o+1) _) (fun k _ e=>by rcases e with e|e<;>exact e)
theorem jge {α:Type} {f:α->List Value} {s:Nat} (hf:∀ a,(f a).length=s):∀ (l:List α) (m:Nat),(l.flatMap f).take (m * s)=(l.take m).flatMap f
 | [],m=>by simp
 | a :: l,0=>by simp
 | a :: l,m+1=>by
   rw [List.flatMap_cons,List.take_succ_cons,List.flatMap_cons,← jge hf l m,List.take_append,hf,List.take_of_length_le (by rw [hf,Nat.succ_mul];omega),show (m+1) * s - s=m * s by rw [Nat.succ_mul];omega]
theorem jnh (a:Option Addr) (n m c:Nat):Value.ownBlock (.slice a n c)=Value.ownBlock (.slice a m c):=by cases a<;>rfl
section
variable {W:World} {x:Nat} {own:Nat->Prop} {V:PV} {g:PG}
theorem PMem.ostore {b j:Nat} {Cb:Array Value} (h:PMem W x own V g) (hb:g.oo=some (aq b 0)) (hl:j<V.ol.length) (hC:W.heap[b]?=some (.cells Cb 184 (0,0))) (o:POrd):jaz W (ji1 W b (j * 6) o.vals) x own { V with ol:=V.ol.set j o }:=by
 obtain ⟨C',a1,ac⟩:=jj6 o.vals (j * 6) W Cb hC
 have a2:=jh9 (b:=b) o.vals (j * 6) W
 generalize ji1 W b (j * 6) o.vals=w' at a1 a2 ⊢
 have hbo:Value.ownBlock (.slice g.oo V.ol.length g.oc)=some b:=by rw [hb];rfl
 have hs':Same (g.xs V x) W w':=jce a2 (fun k e=>.inr (.inl (by rw [hbo,show k=b from e])))
 have hbx:x≠b:=fun e=>jb3 h.orow h.blk (by decide) (by rw [hbo,e])
 have hlen:(V.ol.set j o).length=V.ol.length:=by simp
 refine h.turn hs' (V':={ V with ol:=V.ol.set j o }) (g':=g) ?_ rfl ⟨rfl,rfl,rfl⟩ ⟨rfl,rfl,rfl,rfl⟩ ⟨rfl,rfl,rfl,rfl⟩ ⟨h.stay hs' h.ot.1,h.ot.2,fun _ e=>.inl e⟩ ⟨h.stay hs' h.qt.1,h.qt.2,fun _ e=>.inl e⟩ ⟨h.stay hs' h.qz.1,h.qz.2,fun _ e=>.inl e⟩ ⟨h.stay hs' h.lu.1,h.lu.2,fun _ e=>.inl e⟩ ⟨h.stay hs' h.att.1,h.att.2,fun _ e=>.inl e⟩ ?_ ?_
 ·have:jb9 { V with ol:=V.ol.set j o } g=jb9 V g:=by unfold jb9;simp only [hlen]
  rw [this]
  exact (a2.block x h.xw hbx).trans h.blk
 ·show w'.ownsRow 0 184 6 (.slice g.oo (V.ol.set j o).length g.oc) (V.ol.set j o).length (jdf (V.ol.set j o))/\∀ k,Value.ownBlock (.slice g.oo (V.ol.set j o).length g.oc)=some k->_
  rw [hlen]
  refine ⟨⟨by rw [jiy,hlen],.inr ?_⟩,fun k e=>.inl e⟩
  rcases h.orow.2 with ⟨_,h0⟩|⟨b',cap,cur,hv,q1,q2,q3,q4,q5,q6⟩
  ·omega
  ·simp only [Value.slice.injEq] at hv
   obtain ⟨e1,_,e2⟩:=hv
   have eb:b'=b:=by rw [hb] at e1;simp at e1;exact e1.symm
   subst eb
   rw [hC] at q2
   simp only [Option.some.injEq,Obj.cells.injEq,and_true] at q2
   subst q2
   refine ⟨b',cap,C',by rw [hb,e2],q1,a1,q3,q4,?_,?_⟩
   ·have:=congrArg List.length ac
    rw [jh4,Array.length_toList,Array.length_toList] at this
    rw [this];exact q5
   ·rw [ac,jeu,q6,jn4 _ _ _ hl]
 ·refine ⟨jad h.arow (fun k e=>a2.block k (World.ownsRow.lt h.arow k e).2 (fun c=>?_)),fun k e=>.inl e⟩
  exact jb3 h.arow hC (by decide) (by rw [e,show k=b from c])
theorem PMem.ocut {m:Nat} (h:PMem W x own V g) (hn:V.ol.length=m+1):jaz W (W.setCell (aq x 13) (.slice g.oo m g.oc)) x own { V with ol:=V.ol.take m }:=by
 have hlen:(V.ol.take m).length=m:=by simp;omega
 have hs0:Same (fun k=>k=x) W (W.setCell (aq x 13) (.slice g.oo m g.oc)):=jc8 (Same.of_below (Below.refl _ _)) x _ _ rfl
 have hs':Same (g.xs V x) W (W.setCell (aq x 13) (.slice g.oo m g.oc)):=jce hs0 (fun k e=>.inl e)
 refine h.turn hs' (V':={ V with ol:=V.ol.take m }) (g':=g) ?_ rfl ⟨rfl,rfl,rfl⟩ ⟨rfl,rfl,rfl,rfl⟩ ⟨rfl,rfl,rfl,rfl⟩ ⟨h.stay hs' h.ot.1,h.ot.2,fun _ e=>.inl e⟩ ⟨h.stay hs' h.qt.1,h.qt.2,fun _ e=>.inl e⟩ ⟨h.stay hs' h.qz.1,h.qz.2,fun _ e=>.inl e⟩ ⟨h.stay hs' h.lu.1,h.lu.2,fun _ e=>.inl e⟩ ⟨h.stay hs' h.att.1,h.att.2,fun _ e=>.inl e⟩ ?_ ?_
 ·rw [Joins.block_setCell h.blk]
  unfold jb9
  simp only [hlen]
  rfl
 ·show (W.setCell (aq x 13) (.slice g.oo m g.oc)).ownsRow 0 184 6 (.slice g.oo (V.ol.take m).length g.oc) (V.ol.take m).length (jdf (V.ol.take m))/\∀ k,Value.ownBlock (.slice g.oo (V.ol.take m).length g.oc)=some k->_
  rw [hlen]
  refine ⟨⟨by rw [jiy,hlen],.inr ?_⟩,fun k e=>.inl ((jnh _ _ _ _).trans e)⟩
  rcases h.orow.2 with ⟨_,h0⟩|⟨b,cap,cur,hv,q1,q2,q3,q4,q5,q6⟩
  ·omega
  ·simp only [Value.slice.injEq] at hv
   obtain ⟨e1,_,e2⟩:=hv
   have hbx:b≠x:=fun e=>jb3 h.orow h.blk (by decide) (by rw [e1,← e];rfl)
   refine ⟨b,cap,cur,by rw [e1,e2],q1,(Below.heap_setCell _ (aq x 13) _ _ hbx).trans q2,by omega,q4,q5,?_⟩
   rw [show m * 6=min (m * 6) (V.ol.length * 6) by rw [hn];omega,← List.take_take,q6]
   exact jge (f:=POrd.vals) (s:=6) (fun _=>rfl) V.ol m
 ·refine ⟨jad h.arow (fun k e=>Below.heap_setCell _ (aq x 13) _ _ (fun c=>jb3 h.arow h.blk (by decide) (by rw [e,show k=x from c]))),fun k e=>.inl e⟩
theorem jxs (h:pvb x 13 V W own) (hz:V.ol.length<=4294967296) :
 Calls Tryz.prog 176 #[pt x 11] W fun e w'=>e=.returned (.tuple #[])/\jar (fun W o=>∃ rm,psm W x o { V with orm:=rm }) W w' own:=by
 obtain ⟨⟨g,h⟩,a,na,ca,ha⟩:=h
 rw [h.cell 13 (.slice g.oo V.ol.length g.oc) rfl] at ha
 simp only [Option.some.injEq,Value.slice.injEq] at ha
 rcases h.orow.2 with ⟨hv,_⟩|⟨b,cap,cur,hv,_⟩
 ·simp only [Value.slice.injEq] at hv
  rw [hv.1] at ha
  cases ha.1
 ·simp only [Value.slice.injEq] at hv
  have hb:=hv.1
  have h1:∀ u∈jdf V.ol,u.oneCell'=true:=by
   intro u hu
   obtain ⟨o,_,hu⟩:=List.mem_flatMap.1 hu
   simp only [POrd.vals,List.mem_cons,List.not_mem_nil,or_false] at hu
   rcases hu with rfl|rfl|rfl|rfl|rfl|rfl<;>rfl
  refine (jwo x 11 b V.ol.length g.oc (jb9 V g) 117 V.orm (jdf V.ol) W h.blk (by rw [← hb];rfl) rfl (by rw [← hb];exact h.orow) h1 (by omega)).mono ?_
  rintro e w' ⟨rfl,b',c',rm,a1,a2,a3,a4⟩
  have hs':Same (g.xs V x) W w':=jce a3 (fun k e=>.inl e)
  have:jaz W w' x own { V with orm:=rm }:=by
   refine h.turn hs' (V':={ V with orm:=rm }) (g':={ g with oo:=some (aq b' 0),oc:=c' }) a1 rfl ⟨rfl,rfl,rfl⟩ ⟨rfl,rfl,rfl,rfl⟩ ⟨rfl,rfl,rfl,rfl⟩ ⟨h.stay hs' h.ot.1,h.ot.2,fun _ e=>.inl e⟩ ⟨h.stay hs' h.qt.1,h.qt.2,fun _ e=>.inl e⟩ ⟨h.stay hs' h.qz.1,h.qz.2,fun _ e=>.inl e⟩ ⟨h.stay hs' h.lu.1,h.lu.2,fun _ e=>.inl e⟩ ⟨h.stay hs' h.att.1,h.att.2,fun _ e=>.inl e⟩ ?_ ?_
   ·refine ⟨a2,fun k e=>?_⟩
    have e4:b'=k:=by simpa [Value.ownBlock] using e
    rw [← e4]
    exact a4.imp (fun e=>by rw [hb,e];rfl) id
   ·refine ⟨jad h.arow (fun k e=>a3.block k (World.ownsRow.lt h.arow k e).2 (fun c=>jb3 h.arow h.blk (by decide) (by rw [e,show k=x from c]))),fun k e=>.inl e⟩
  obtain ⟨o2,b1,b2,b3⟩:=this
  exact ⟨rfl,o2,⟨rm,b1⟩,b2,b3⟩
theorem jyi {k1 u v:Int} (h:psm W x own V) (hs:srt V.ot) (hn:jb0 (k1,0) V.ot=some u) :
 Calls Tryz.prog 112 #[pt x 11,.agg #[iv k1,iv 0],iv v] W fun e w'=>e=.returned (.tuple #[])/\jaz W w' x own { V with ot:=jbd (k1,0) v V.ot }:=by
 obtain ⟨g,h⟩:=h
 refine (jrh x 11 (jb9 V g) 117 (by decide) g.ot V.ot.length k1 0 v u W h.blk rfl rfl h.ot.1 (by rw [h.ot.2];exact hs) (by rw [h.ot.2];exact hn)).mono ?_
 rintro e w' ⟨rfl,t',a1,a2,a3,a4,a5⟩
 rw [h.ot.2] at a3
 have e1:(V.ot.length:Int)=((jbd (k1,0) v V.ot).length:Int):=by rw [jej hs hn]
 rw [e1] at a1
 exact ⟨rfl,h.turnX a4 (V':={ V with ot:=jbd (k1,0) v V.ot }) (g':={ g with ot:=t' }) a1 rfl ⟨rfl,rfl,rfl⟩ ⟨rfl,rfl,rfl,rfl⟩ ⟨rfl,rfl,rfl,rfl⟩ ⟨a2,a3,a5⟩ ⟨h.stayX a4 h.qt.1,h.qt.2,fun _ e=>.inl e⟩ ⟨h.stayX a4 h.qz.1,h.qz.2,fun _ e=>.inl e⟩ ⟨h.stayX a4 h.lu.1,h.lu.2,fun _ e=>.inl e⟩ ⟨h.stayX a4 h.att.1,h.att.2,fun _ e=>.inl e⟩ ⟨rfl,rfl,rfl⟩ ⟨rfl,rfl,rfl⟩⟩
theorem jt7 {k1 u:Int} (h:psm W x own V) (hs:srt V.ot) (hn:jb0 (k1,0) V.ot=some u) (hz:V.ot.length<=4294967296) :
 Calls Tryz.prog 143 #[pt x 11,.agg #[iv k1,iv 0]] W fun e w'=>e=.returned (.tuple #[])/\jaz W w' x own { V with ot:=jcp (k1,0) V.ot }:=by
 obtain ⟨g,h⟩:=h
 have l1:=jjj hs hn
 refine (jds x 11 (jb9 V g) 117 (by decide) g.ot V.ot.length k1 0 u W h.blk rfl rfl h.ot.1 (by rw [h.ot.2];exact hs) (by rw [h.ot.2];exact hn) ⟨by omega,by omega⟩).mono ?_
 rintro e w' ⟨rfl,t',a1,a2,a3,a4,a5⟩
 rw [h.ot.2] at a3
 have e1:(V.ot.length:Int) - 1=((jcp (k1,0) V.ot).length:Int):=by omega
 rw [e1] at a1
 exact ⟨rfl,h.turnX a4 (V':={ V with ot:=jcp (k1,0) V.ot }) (g':={ g with ot:=t' }) a1 rfl ⟨rfl,rfl,rfl⟩ ⟨rfl,rfl,rfl,rfl⟩ ⟨rfl,rfl,rfl,rfl⟩ ⟨a2,a3,a5⟩ ⟨h.stayX a4 h.qt.1,h.qt.2,fun _ e=>.inl e⟩ ⟨h.stayX a4 h.qz.1,h.qz.2,fun _ e=>.inl e⟩ ⟨h.stayX a4 h.lu.1,h.lu.2,fun _ e=>.inl e⟩ ⟨h.stayX a4 h.att.1,h.att.2,fun _ e=>.inl e⟩ ⟨rfl,rfl,rfl⟩ ⟨rfl,rfl,rfl⟩⟩
theorem jv4 {j:Nat} {a z:POrd} (h:psm W x own V) (hL:Listed POrd.num V.ot V.ol) (hz:V.ol.length<=4294967296) (hzt:V.ot.length=V.ol.length) (hj:V.ol[j]?=some a) (hzz:V.ol[V.ol.length - 1]?=some z) :
 Calls Tryz.prog 160 #[pt x 11,iv a.num] W fun e w'=>e=.returned (.tuple #[])/\∃ rm,jaz W w' x own { V with ot:=jcp (a.num,0) (jbd (z.num,0) j V.ot),ol:=je4 V.ol j z,orm:=rm }:=by
 have hjl:=(List.getElem?_eq_some_iff.1 hj).1
 have hw:∀ k,own k->k<W.heap.size:=jes h
 obtain ⟨m,hm⟩:∃ m,V.ol.length=m+1:=⟨V.ol.length - 1,by omega⟩
 rw [hm,Nat.add_sub_cancel] at hzz
 have gj:=jdx hL hj
 have gz:=jdx hL hzz
 have s1:srt (jbd (z.num,0) j V.ot):=jfo _ _ hL.srt
 obtain ⟨u,gu⟩:∃ u,jb0 (a.num,0) (jbd (z.num,0) j V.ot)=some u:=by
  by_cases e:((a.num,0):Int × Int)=(z.num,0)
  ·exact ⟨_,(jg4 s1).2 (jfp.2 (.inl (by rw [e])))⟩
  ·exact ⟨_,(jg4 s1).2 (jfp.2 (.inr ⟨jfw gj,e⟩))⟩
 have l1:(jbd (z.num,0) j V.ot).length=V.ot.length:=jej hL.srt gz
 refine (joq x V.ol.length m j a.num z.num z.cust z.units z.st z.cents z.upto W own hw hm (by omega) (by omega)
  (pv x V) (pv x { V with ol:=V.ol.set j z }) (pv x { V with ol:=V.ol.set j z,ot:=jbd (z.num,0) j V.ot }) (pv x { V with ol:=V.ol.set j z,ot:=jcp (a.num,0) (jbd (z.num,0) j V.ot) }) (pvb x 13 { V with ol:=(V.ol.set j z).take m,ot:=jcp (a.num,0) (jbd (z.num,0) j V.ot) }) (fun W o=>∃ rm,psm W x o { V with ol:=(V.ol.set j z).take m,ot:=jcp (a.num,0) (jbd (z.num,0) j V.ot),orm:=rm })
  (jla _ _) (jla _ _) (jla _ _) (qd8 _ _ _) h (fun loc W' hT=>jf8 (jla _ _) hw (fun W o hp=>?_) W' hT) (fun loc W' hT=>?_) (fun loc W' hT=>ja6 (P:=pv x { V with ol:=V.ol.set j z }) hw (fun W o hp=>jyi (V:={ V with ol:=V.ol.set j z }) hp hL.srt gz) W' hT) (fun loc W' hT=>ja6 (P:=pv x { V with ol:=V.ol.set j z,ot:=jbd (z.num,0) j V.ot }) hw (fun W o hp=>jt7 (V:={ V with ol:=V.ol.set j z,ot:=jbd (z.num,0) j V.ot }) hp s1 gu (by show (jbd (z.num,0) j V.ot).length<=_;omega)) W' hT) (fun loc W' hT=>?_) (fun loc W' hT=>?_) (fun loc W' hT=>?_) (fun loc W' hT=>ja6 (P:=pvb x 13 { V with ol:=(V.ol.set j z).take m,ot:=jcp (a.num,0) (jbd (z.num,0) j V.ot) }) hw (fun W o hp=>jxs (V:={ V with ol:=(V.ol.set j z).take m,ot:=jcp (a.num,0) (jbd (z.num,0) j V.ot) }) hp (by show ((V.ol.set j z).take m).length<=_;simp;omega)) W' hT)).mono ?_
 ·obtain ⟨g,hp⟩:=hp
  have:=jcs x 11 g.ot a.num 0 W (hp.cell 11 _ rfl) hp.ot.1 (by rw [hp.ot.2];exact hL.srt)
  rw [hp.ot.2,gj] at this
  exact this
 ·obtain ⟨o1,⟨g,hp⟩,b2,b3,b4⟩:=id hT
  obtain ⟨b,Cb,hb,_,hC,c0,c1,c2,c3,c4,c5⟩:=hp.ocells hzz
  obtain ⟨b',Cb',hb',_,hC',d0,d1,d2,d3,d4,d5⟩:=hp.ocells hj
  have eb:b'=b:=by rw [hb] at hb';simp at hb';exact hb'.symm
  subst eb
  have hp0:=hp
  obtain ⟨t1,t2⟩:=jid (P':=pv x { V with ol:=V.ol.set j z }) (W':=ji1 W' b' (j * 6) z.vals) hw hT (fun o hp=>by
   obtain ⟨g',hp⟩:=hp
   obtain ⟨b2,Cb2,hb2,_,hC2,e0,e1,e2,e3,e4,e5⟩:=hp.ocells hzz
   have q1:=(hp.cell 13 (.slice g'.oo V.ol.length g'.oc) rfl).symm.trans (hp0.cell 13 (.slice g.oo V.ol.length g.oc) rfl)
   simp only [Option.some.injEq,Value.slice.injEq] at q1
   have eb:b2=b':=by rw [hb2,hb] at q1;simpa using q1.1
   subst eb
   exact hp.ostore hb2 hjl hC2 z)
  exact ⟨b',g.oc,_,_,_,_,_,_,hp.xw,(blt hC),by rw [← hb];exact hp.cell 13 _ rfl,c0,c1,c2,c3,c4,c5,d0,d1,d2,d3,d4,d5,ja0 hC _,ja0 hC _,ja0 hC _,ja0 hC _,ja0 hC _,ja0 hC _,t1,t2⟩
 ·obtain ⟨o1,⟨g,hp⟩,b2,b3,b4⟩:=id hT
  have hlen:(V.ol.set j z).length=m+1:=by simp;exact hm
  rcases hp.orow.2 with ⟨_,h0⟩|⟨b,cap,cur,hv,q1,q2,q3,q4⟩
  ·have h0:(V.ol.set j z).length=0:=h0
   omega
  ·simp only [Value.slice.injEq] at hv
   have hc:W'.cell? (aq x 13)=some (.slice (some (aq b 0)) V.ol.length g.oc):=by
    rw [hp.cell 13 (.slice g.oo (V.ol.set j z).length g.oc) rfl,hv.1,List.length_set]
   have q3':V.ol.length<=g.oc:=by
    have:(V.ol.set j z).length<=cap:=q3
    rw [List.length_set] at this
    rw [hv.2.2];exact this
   refine ⟨b,g.oc,hp.xw,q3',hc,ja0 hp.blk _,(jid (P:=pv x { V with ol:=V.ol.set j z,ot:=jcp (a.num,0) (jbd (z.num,0) j V.ot) }) hw hT (fun o hp2=>?_)).1⟩
   obtain ⟨g2,hp2⟩:=hp2
   have e3:=(hp2.cell 13 (.slice g2.oo (V.ol.set j z).length g2.oc) rfl).symm.trans (hp.cell 13 (.slice g.oo (V.ol.set j z).length g.oc) rfl)
   simp only [Option.some.injEq,Value.slice.injEq] at e3
   have:=hp2.ocut (m:=m) hlen
   rw [e3.1,e3.2.2,hv.1] at this
   obtain ⟨o2,r1,r2,r3⟩:=this
   exact ⟨o2,⟨r1,_,m,g.oc,by rw [Joins.cell_of_block (Joins.block_setCell hp.blk _)];rfl⟩,r2,r3⟩
 ·obtain ⟨o1,⟨g,hp⟩,_⟩:=hT
  exact hp.xw
 ·obtain ⟨o1,⟨g,hp⟩,_⟩:=hT
  exact hp.xw
 ·rintro e w' ⟨rfl,o2,⟨rm,r1⟩,r2,r3⟩
  refine ⟨rfl,rm,o2,?_,r2,r3⟩
  unfold je4
  rw [hm,Nat.add_sub_cancel]
  exact r1
theorem jty (ol:List PAns) (j:Nat) (o:PAns) (h:j<ol.length):jca (jd2 ol) (j * 9) o.vals=jd2 (ol.set j o):=jhc (f:=PAns.vals) (s:=9) (fun _=>rfl) ol j o h
theorem PMem.acellsT {j:Nat} {o:PAns} (h:PMem W x own V g) (hj:V.al[j]?=some o):∃ b Cb,g.ao=some (aq b 0)/\j<V.al.length/\W.heap[b]?=some (.cells Cb 188 (0,0))/\W.cell? (aq b (j * 9))=some (iv o.k)/\W.cell? (aq b (j * 9+1))=some (iv o.t)/\W.cell? (aq b (j * 9+2))=some (iv o.c)/\W.cell? (aq b (j * 9+3))=some (iv o.u)/\W.cell? (aq b (j * 9+4))=some (iv o.o)/\W.cell? (aq b (j * 9+5))=some (iv o.rk)/\W.cell? (aq b (j * 9+6))=some (iv o.ro)/\W.cell? (aq b (j * 9+7))=some (iv o.rc)/\W.cell? (aq b (j * 9+8))=some (iv o.ru):=by
 have hl:=(List.getElem?_eq_some_iff.1 hj).1
 have hd:V.al.getD j pans0=o:=by simp [List.getD,hj]
 have ho:=h.arow
 rcases ho.2 with ⟨_,h0⟩|⟨b,cap,cur,hv,_,hh,_⟩
 ·omega
 ·have hv':=hv
  simp only [Value.slice.injEq] at hv'
  obtain ⟨e1,_,e2⟩:=hv'
  rw [hv] at ho
  have c:∀ k,k<9->∀ u,o.vals[k]?=some u->W.cell? (aq b (j * 9+k))=some u:=fun k hk u hu=>by
   have:=ho.cells (g:=b) rfl _ _ ((jkl hl k hk).trans (by rw [hd];exact hu))
   rwa [Addr.add_lit,Nat.zero_add] at this
  exact ⟨b,cur,e1,hl,hh,c 0 (by omega) _ rfl,c 1 (by omega) _ rfl,c 2 (by omega) _ rfl,c 3 (by omega) _ rfl,c 4 (by omega) _ rfl,c 5 (by omega) _ rfl,c 6 (by omega) _ rfl,c 7 (by omega) _ rfl,c 8 (by omega) _ rfl⟩
theorem PMem.astore {b j:Nat} {Cb:Array Value} (h:PMem W x own V g) (hb:g.ao=some (aq b 0)) (hl:j<V.al.length) (hC:W.heap[b]?=some (.cells Cb 188 (0,0))) (o:PAns):jaz W (ji1 W b (j * 9) o.vals) x own { V with al:=V.al.set j o }:=by
 obtain ⟨C',a1,ac⟩:=jj6 o.vals (j * 9) W Cb hC
 have a2:=jh9 (b:=b) o.vals (j * 9) W
 generalize ji1 W b (j * 9) o.vals=w' at a1 a2 ⊢
 have hbo:Value.ownBlock (.slice g.ao V.al.length g.ac)=some b:=by rw [hb];rfl
 have hs':Same (g.xs V x) W w':=jce a2 (fun k e=>.inr (.inr (by rw [hbo,show k=b from e])))
 have hbx:x≠b:=fun e=>jb3 h.arow h.blk (by decide) (by rw [hbo,e])
 have hlen:(V.al.set j o).length=V.al.length:=by simp
 refine h.turn hs' (V':={ V with al:=V.al.set j o }) (g':=g) ?_ rfl ⟨rfl,rfl,rfl⟩ ⟨rfl,rfl,rfl,rfl⟩ ⟨rfl,rfl,rfl,rfl⟩ ⟨h.stay hs' h.ot.1,h.ot.2,fun _ e=>.inl e⟩ ⟨h.stay hs' h.qt.1,h.qt.2,fun _ e=>.inl e⟩ ⟨h.stay hs' h.qz.1,h.qz.2,fun _ e=>.inl e⟩ ⟨h.stay hs' h.lu.1,h.lu.2,fun _ e=>.inl e⟩ ⟨h.stay hs' h.att.1,h.att.2,fun _ e=>.inl e⟩ ?_ ?_
 ·have:jb9 { V with al:=V.al.set j o } g=jb9 V g:=by unfold jb9;simp only [hlen]
  rw [this]
  exact (a2.block x h.xw hbx).trans h.blk
 ·refine ⟨jad h.orow (fun k e=>a2.block k (World.ownsRow.lt h.orow k e).2 (fun c=>?_)),fun k e=>.inl e⟩
  exact jb3 h.orow hC (by decide) (by rw [e,show k=b from c])
 ·show w'.ownsRow 0 188 9 (.slice g.ao (V.al.set j o).length g.ac) (V.al.set j o).length (jd2 (V.al.set j o))/\∀ k,Value.ownBlock (.slice g.ao (V.al.set j o).length g.ac)=some k->_
  rw [hlen]
  refine ⟨⟨by rw [jmi,hlen],.inr ?_⟩,fun k e=>.inl e⟩
  rcases h.arow.2 with ⟨_,h0⟩|⟨b',cap,cur,hv,q1,q2,q3,q4,q5,q6⟩
  ·omega
  ·simp only [Value.slice.injEq] at hv
   obtain ⟨e1,_,e2⟩:=hv
   have eb:b'=b:=by rw [hb] at e1;simp at e1;exact e1.symm
   subst eb
   rw [hC] at q2
   simp only [Option.some.injEq,Obj.cells.injEq,and_true] at q2
   subst q2
   refine ⟨b',cap,C',by rw [hb,e2],q1,a1,q3,q4,?_,?_⟩
   ·have:=congrArg List.length ac
    rw [jh4,Array.length_toList,Array.length_toList] at this
    rw [this];exact q5
   ·rw [ac,jeu,q6,jty _ _ _ hl]
theorem PMem.acut {m:Nat} (h:PMem W x own V g) (hn:V.al.length=m+1):jaz W (W.setCell (aq x 26) (.slice g.ao m g.ac)) x own { V with al:=V.al.take m }:=by
 have hlen:(V.al.take m).length=m:=by simp;omega
 have hs0:Same (fun k=>k=x) W (W.setCell (aq x 26) (.slice g.ao m g.ac)):=jc8 (Same.of_below (Below.refl _ _)) x _ _ rfl
 have hs':Same (g.xs V x) W (W.setCell (aq x 26) (.slice g.ao m g.ac)):=jce hs0 (fun k e=>.inl e)
 refine h.turn hs' (V':={ V with al:=V.al.take m }) (g':=g) ?_ rfl ⟨rfl,rfl,rfl⟩ ⟨rfl,rfl,rfl,rfl⟩ ⟨rfl,rfl,rfl,rfl⟩ ⟨h.stay hs' h.ot.1,h.ot.2,fun _ e=>.inl e⟩ ⟨h.stay hs' h.qt.1,h.qt.2,fun _ e=>.inl e⟩ ⟨h.stay hs' h.qz.1,h.qz.2,fun _ e=>.inl e⟩ ⟨h.stay hs' h.lu.1,h.lu.2,fun _ e=>.inl e⟩ ⟨h.stay hs' h.att.1,h.att.2,fun _ e=>.inl e⟩ ?_ ?_
 ·rw [Joins.block_setCell h.blk]
  unfold jb9
  simp only [hlen]
  rfl
 ·refine ⟨jad h.orow (fun k e=>Below.heap_setCell _ (aq x 26) _ _ (fun c=>jb3 h.orow h.blk (by decide) (by rw [e,show k=x from c]))),fun k e=>.inl e⟩
 ·show (W.setCell (aq x 26) (.slice g.ao m g.ac)).ownsRow 0 188 9 (.slice g.ao (V.al.take m).length g.ac) (V.al.take m).length (jd2 (V.al.take m))/\∀ k,Value.ownBlock (.slice g.ao (V.al.take m).length g.ac)=some k->_
  rw [hlen]
  refine ⟨⟨by rw [jmi,hlen],.inr ?_⟩,fun k e=>.inl ((jnh _ _ _ _).trans e)⟩
  rcases h.arow.2 with ⟨_,h0⟩|⟨b,cap,cur,hv,q1,q2,q3,q4,q5,q6⟩
  ·omega
  ·simp only [Value.slice.injEq] at hv
   obtain ⟨e1,_,e2⟩:=hv
   have hbx:b≠x:=fun e=>jb3 h.arow h.blk (by decide) (by rw [e1,← e];rfl)
   refine ⟨b,cap,cur,by rw [e1,e2],q1,(Below.heap_setCell _ (aq x 26) _ _ hbx).trans q2,by omega,q4,q5,?_⟩
   rw [show m * 9=min (m * 9) (V.al.length * 9) by rw [hn];omega,← List.take_take,q6]
   exact jge (f:=PAns.vals) (s:=9) (fun _=>rfl) V.al m
theorem jy3 (h:pvb x 26 V W own) (hz:V.al.length<=4294967296) :
 Calls Tryz.prog 163 #[pt x 23] W fun e w'=>e=.returned (.tuple #[])/\jar (fun W o=>∃ rm,psm W x o { V with arm:=rm }) W w' own:=by
 obtain ⟨⟨g,h⟩,a,na,ca,ha⟩:=h
 rw [h.cell 26 (.slice g.ao V.al.length g.ac) rfl] at ha
 simp only [Option.some.injEq,Value.slice.injEq] at ha
 rcases h.arow.2 with ⟨hv,_⟩|⟨b,cap,cur,hv,_⟩
 ·simp only [Value.slice.injEq] at hv
  rw [hv.1] at ha
  cases ha.1
 ·simp only [Value.slice.injEq] at hv
  have hb:=hv.1
  have h1:∀ u∈jd2 V.al,u.oneCell'=true:=by
   intro u hu
   obtain ⟨o,_,hu⟩:=List.mem_flatMap.1 hu
   simp only [PAns.vals,List.mem_cons,List.not_mem_nil,or_false] at hu
   rcases hu with rfl|rfl|rfl|rfl|rfl|rfl|rfl|rfl|rfl<;>rfl
  refine (jxb x 23 b V.al.length g.ac (jb9 V g) 117 V.arm (jd2 V.al) W h.blk (by rw [← hb];rfl) rfl (by rw [← hb];exact h.arow) h1 (by omega)).mono ?_
  rintro e w' ⟨rfl,b',c',rm,a1,a2,a3,a4⟩
  have hs':Same (g.xs V x) W w':=jce a3 (fun k e=>.inl e)
  have:jaz W w' x own { V with arm:=rm }:=by
   refine h.turn hs' (V':={ V with arm:=rm }) (g':={ g with ao:=some (aq b' 0),ac:=c' }) a1 rfl ⟨rfl,rfl,rfl⟩ ⟨rfl,rfl,rfl,rfl⟩ ⟨rfl,rfl,rfl,rfl⟩ ⟨h.stay hs' h.ot.1,h.ot.2,fun _ e=>.inl e⟩ ⟨h.stay hs' h.qt.1,h.qt.2,fun _ e=>.inl e⟩ ⟨h.stay hs' h.qz.1,h.qz.2,fun _ e=>.inl e⟩ ⟨h.stay hs' h.lu.1,h.lu.2,fun _ e=>.inl e⟩ ⟨h.stay hs' h.att.1,h.att.2,fun _ e=>.inl e⟩ ?_ ?_
   ·refine ⟨jad h.orow (fun k e=>a3.block k (World.ownsRow.lt h.orow k e).2 (fun c=>jb3 h.orow h.blk (by decide) (by rw [e,show k=x from c]))),fun k e=>.inl e⟩
   ·refine ⟨a2,fun k e=>?_⟩
    have e4:b'=k:=by simpa [Value.ownBlock] using e
    rw [← e4]
    exact a4.imp (fun e=>by rw [hb,e];rfl) id
  obtain ⟨o2,b1,b2,b3⟩:=this
  exact ⟨rfl,o2,⟨rm,b1⟩,b2,b3⟩
theorem jzw {k1 u v:Int} (h:psm W x own V) (hs:srt V.att) (hn:jb0 (k1,0) V.att=some u) :
 Calls Tryz.prog 112 #[pt x 24,.agg #[iv k1,iv 0],iv v] W fun e w'=>e=.returned (.tuple #[])/\jaz W w' x own { V with att:=jbd (k1,0) v V.att }:=by
 obtain ⟨g,h⟩:=h
 refine (jrh x 24 (jb9 V g) 117 (by decide) g.att V.att.length k1 0 v u W h.blk rfl rfl h.att.1 (by rw [h.att.2];exact hs) (by rw [h.att.2];exact hn)).mono ?_
 rintro e w' ⟨rfl,t',a1,a2,a3,a4,a5⟩
 rw [h.att.2] at a3
 have e1:(V.att.length:Int)=((jbd (k1,0) v V.att).length:Int):=by rw [jej hs hn]
 rw [e1] at a1
 exact ⟨rfl,h.turnX a4 (V':={ V with att:=jbd (k1,0) v V.att }) (g':={ g with att:=t' }) a1 rfl ⟨rfl,rfl,rfl⟩ ⟨rfl,rfl,rfl,rfl⟩ ⟨rfl,rfl,rfl,rfl⟩ ⟨h.stayX a4 h.ot.1,h.ot.2,fun _ e=>.inl e⟩ ⟨h.stayX a4 h.qt.1,h.qt.2,fun _ e=>.inl e⟩ ⟨h.stayX a4 h.qz.1,h.qz.2,fun _ e=>.inl e⟩ ⟨h.stayX a4 h.lu.1,h.lu.2,fun _ e=>.inl e⟩ ⟨a2,a3,a5⟩ ⟨rfl,rfl,rfl⟩ ⟨rfl,rfl,rfl⟩⟩
theorem jtm {k1 u:Int} (h:psm W x own V) (hs:srt V.att) (hn:jb0 (k1,0) V.att=some u) (hz:V.att.length<=4294967296) :
 Calls Tryz.prog 143 #[pt x 24,.agg #[iv k1,iv 0]] W fun e w'=>e=.returned (.tuple #[])/\jaz W w' x own { V with att:=jcp (k1,0) V.att }:=by
 obtain ⟨g,h⟩:=h
 have l1:=jjj hs hn
 refine (jds x 24 (jb9 V g) 117 (by decide) g.att V.att.length k1 0 u W h.blk rfl rfl h.att.1 (by rw [h.att.2];exact hs) (by rw [h.att.2];exact hn) ⟨by omega,by omega⟩).mono ?_
 rintro e w' ⟨rfl,t',a1,a2,a3,a4,a5⟩
 rw [h.att.2] at a3
 have e1:(V.att.length:Int) - 1=((jcp (k1,0) V.att).length:Int):=by omega
 rw [e1] at a1
 exact ⟨rfl,h.turnX a4 (V':={ V with att:=jcp (k1,0) V.att }) (g':={ g with att:=t' }) a1 rfl ⟨rfl,rfl,rfl⟩ ⟨rfl,rfl,rfl,rfl⟩ ⟨rfl,rfl,rfl,rfl⟩ ⟨h.stayX a4 h.ot.1,h.ot.2,fun _ e=>.inl e⟩ ⟨h.stayX a4 h.qt.1,h.qt.2,fun _ e=>.inl e⟩ ⟨h.stayX a4 h.qz.1,h.qz.2,fun _ e=>.inl e⟩ ⟨h.stayX a4 h.lu.1,h.lu.2,fun _ e=>.inl e⟩ ⟨a2,a3,a5⟩ ⟨rfl,rfl,rfl⟩ ⟨rfl,rfl,rfl⟩⟩
theorem jxv {j:Nat} {a z:PAns} (h:psm W x own V) (hL:Listed PAns.t V.att V.al) (hz:V.al.length<=4294967296) (hzt:V.att.length=V.al.length) (hj:V.al[j]?=some a) (hzz:V.al[V.al.length - 1]?=some z) :
 Calls Tryz.prog 138 #[pt x 23,iv a.t] W fun e w'=>e=.returned (.tuple #[])/\∃ rm,jaz W w' x own { V with att:=jcp (a.t,0) (jbd (z.t,0) j V.att),al:=je4 V.al j z,arm:=rm }:=by
 have hjl:=(List.getElem?_eq_some_iff.1 hj).1
 have hw:∀ k,own k->k<W.heap.size:=jes h
 obtain ⟨m,hm⟩:∃ m,V.al.length=m+1:=⟨V.al.length - 1,by omega⟩
 rw [hm,Nat.add_sub_cancel] at hzz
 have gj:=jdx hL hj
 have gz:=jdx hL hzz
 have s1:srt (jbd (z.t,0) j V.att):=jfo _ _ hL.srt
 obtain ⟨u,gu⟩:∃ u,jb0 (a.t,0) (jbd (z.t,0) j V.att)=some u:=by
  by_cases e:((a.t,0):Int × Int)=(z.t,0)
  ·exact ⟨_,(jg4 s1).2 (jfp.2 (.inl (by rw [e])))⟩
  ·exact ⟨_,(jg4 s1).2 (jfp.2 (.inr ⟨jfw gj,e⟩))⟩
 have l1:(jbd (z.t,0) j V.att).length=V.att.length:=jej hL.srt gz
 refine (jpl x V.al.length m j a.t z.k z.t z.c z.u z.o z.rk z.ro z.rc z.ru W own hw hm (by omega) (by omega)
  (pv x V) (pv x { V with al:=V.al.set j z }) (pv x { V with al:=V.al.set j z,att:=jbd (z.t,0) j V.att }) (pv x { V with al:=V.al.set j z,att:=jcp (a.t,0) (jbd (z.t,0) j V.att) }) (pvb x 26 { V with al:=(V.al.set j z).take m,att:=jcp (a.t,0) (jbd (z.t,0) j V.att) }) (fun W o=>∃ rm,psm W x o { V with al:=(V.al.set j z).take m,att:=jcp (a.t,0) (jbd (z.t,0) j V.att),arm:=rm })
  (jla _ _) (jla _ _) (jla _ _) (qd8 _ _ _) h (fun loc W' hT=>jf8 (jla _ _) hw (fun W o hp=>?_) W' hT) (fun loc W' hT=>?_) (fun loc W' hT=>ja6 (P:=pv x { V with al:=V.al.set j z }) hw (fun W o hp=>jzw (V:={ V with al:=V.al.set j z }) hp hL.srt gz) W' hT) (fun loc W' hT=>ja6 (P:=pv x { V with al:=V.al.set j z,att:=jbd (z.t,0) j V.att }) hw (fun W o hp=>jtm (V:={ V with al:=V.al.set j z,att:=jbd (z.t,0) j V.att }) hp s1 gu (by show (jbd (z.t,0) j V.att).length<=_;omega)) W' hT) (fun loc W' hT=>?_) (fun loc W' hT=>?_) (fun loc W' hT=>?_) (fun loc W' hT=>ja6 (P:=pvb x 26 { V with al:=(V.al.set j z).take m,att:=jcp (a.t,0) (jbd (z.t,0) j V.att) }) hw (fun W o hp=>jy3 (V:={ V with al:=(V.al.set j z).take m,att:=jcp (a.t,0) (jbd (z.t,0) j V.att) }) hp (by show ((V.al.set j z).take m).length<=_;simp;omega)) W' hT)).mono ?_
 ·obtain ⟨g,hp⟩:=hp
  have:=jcs x 24 g.att a.t 0 W (hp.cell 24 _ rfl) hp.att.1 (by rw [hp.att.2];exact hL.srt)
  rw [hp.att.2,gj] at this
  exact this
 ·obtain ⟨o1,⟨g,hp⟩,b2,b3,b4⟩:=id hT
  obtain ⟨b,Cb,hb,_,hC,c0,c1,c2,c3,c4,c5,c6,c7,c8⟩:=hp.acellsT hzz
  obtain ⟨b',Cb',hb',_,hC',d0,d1,d2,d3,d4,d5,d6,d7,d8⟩:=hp.acellsT hj
  have eb:b'=b:=by rw [hb] at hb';simp at hb';exact hb'.symm
  subst eb
  have hp0:=hp
  obtain ⟨t1,t2⟩:=jid (P':=pv x { V with al:=V.al.set j z }) (W':=ji1 W' b' (j * 9) z.vals) hw hT (fun o hp=>by
   obtain ⟨g',hp⟩:=hp
   obtain ⟨b2,Cb2,hb2,_,hC2,e0,e1,e2,e3,e4,e5,e6,e7,e8⟩:=hp.acellsT hzz
   have q1:=(hp.cell 26 (.slice g'.ao V.al.length g'.ac) rfl).symm.trans (hp0.cell 26 (.slice g.ao V.al.length g.ac) rfl)
   simp only [Option.some.injEq,Value.slice.injEq] at q1
   have eb:b2=b':=by rw [hb2,hb] at q1;simpa using q1.1
   subst eb
   exact hp.astore hb2 hjl hC2 z)
  exact ⟨b',g.ac,_,_,_,_,_,_,_,_,_,hp.xw,(blt hC),by rw [← hb];exact hp.cell 26 _ rfl,c0,c1,c2,c3,c4,c5,c6,c7,c8,d0,d1,d2,d3,d4,d5,d6,d7,d8,ja0 hC _,ja0 hC _,ja0 hC _,ja0 hC _,ja0 hC _,ja0 hC _,ja0 hC _,ja0 hC _,ja0 hC _,t1,t2⟩
 ·obtain ⟨o1,⟨g,hp⟩,b2,b3,b4⟩:=id hT
  have hlen:(V.al.set j z).length=m+1:=by simp;exact hm
  rcases hp.arow.2 with ⟨_,h0⟩|⟨b,cap,cur,hv,q1,q2,q3,q4⟩
  ·have h0:(V.al.set j z).length=0:=h0
   omega
  ·simp only [Value.slice.injEq] at hv
   have hc:W'.cell? (aq x 26)=some (.slice (some (aq b 0)) V.al.length g.ac):=by
    rw [hp.cell 26 (.slice g.ao (V.al.set j z).length g.ac) rfl,hv.1,List.length_set]
   have q3':V.al.length<=g.ac:=by
    have:(V.al.set j z).length<=cap:=q3
    rw [List.length_set] at this
    rw [hv.2.2];exact this
   refine ⟨b,g.ac,hp.xw,q3',hc,ja0 hp.blk _,(jid (P:=pv x { V with al:=V.al.set j z,att:=jcp (a.t,0) (jbd (z.t,0) j V.att) }) hw hT (fun o hp2=>?_)).1⟩
   obtain ⟨g2,hp2⟩:=hp2
   have e3:=(hp2.cell 26 (.slice g2.ao (V.al.set j z).length g2.ac) rfl).symm.trans (hp.cell 26 (.slice g.ao (V.al.set j z).length g.ac) rfl)
   simp only [Option.some.injEq,Value.slice.injEq] at e3
   have:=hp2.acut (m:=m) hlen
   rw [e3.1,e3.2.2,hv.1] at this
   obtain ⟨o2,r1,r2,r3⟩:=this
   exact ⟨o2,⟨r1,_,m,g.ac,by rw [Joins.cell_of_block (Joins.block_setCell hp.blk _)];rfl⟩,r2,r3⟩
 ·obtain ⟨o1,⟨g,hp⟩,_⟩:=hT
  exact hp.xw
 ·obtain ⟨o1,⟨g,hp⟩,_⟩:=hT
  exact hp.xw
 ·rintro e w' ⟨rfl,o2,⟨rm,r1⟩,r2,r3⟩
  refine ⟨rfl,rm,o2,?_,r2,r3⟩
  unfold je4
  rw [hm,Nat.add_sub_cancel]
  exact r1
end
end
section
def jzp (P Q:World->(Nat->Prop)->Prop) (W:World) (o:Nat->Prop):Prop:=∃ o1 o2,P W o1/\Q W o2/\(∀ k,o1 k->¬ o2 k)/\∀ k,o k↔o1 k\/o2 k
section
variable {P Q P' Q':World->(Nat->Prop)->Prop}
theorem qdi (KP:Keeps P) (KQ:Keeps Q):Keeps (jzp P Q):=by
 refine ⟨fun {W o} h k hk=>?_,fun {W W' o} h hz hk=>?_⟩
 ·obtain ⟨o1,o2,a1,a2,a3,a4⟩:=h
  rcases (a4 k).1 hk with e|e
  ·exact KP.lt a1 k e
  ·exact KQ.lt a2 k e
 ·obtain ⟨o1,o2,a1,a2,a3,a4⟩:=h
  exact ⟨o1,o2,KP.keep a1 hz (fun k e=>hk k ((a4 k).2 (.inl e))),KQ.keep a2 hz (fun k e=>hk k ((a4 k).2 (.inr e))),a3,a4⟩
theorem qa5 (KQ:Keeps Q) {W W':World} {o1 o2 o:Nat->Prop} (a2:Q W o2) (a3:∀ k,o1 k->¬ o2 k) (a4:∀ k,o k↔o1 k\/o2 k) (h:jar P' W W' o1):jar (jzp P' Q) W W' o:=by
 obtain ⟨o1',b1,b2,b3⟩:=h
 refine ⟨fun k=>o1' k\/o2 k,⟨o1',o2,b1,KQ.keep a2 b2.size (fun k e=>b2.block k (KQ.lt a2 k e) (fun c=>a3 k c e)),fun k e c=>?_,fun _=>Iff.rfl⟩,⟨b2.os,b2.tape,b2.output,b2.size,fun k hk hn=>b2.block k hk (fun e=>hn ((a4 k).2 (.inl e)))⟩,fun k e=>?_⟩
 ·rcases b3 k e with d|d
  ·exact a3 k d c
  ·have:=KQ.lt a2 k c;omega
 ·rcases e with e|e
  ·exact (b3 k e).imp (fun d=>(a4 k).2 (.inl d)) id
  ·exact .inl ((a4 k).2 (.inr e))
theorem jox {W:World} {o:Nat->Prop} (h:jzp P Q W o):jzp Q P W o:=by
 obtain ⟨o1,o2,a1,a2,a3,a4⟩:=h
 exact ⟨o2,o1,a2,a1,fun k e c=>a3 k c e,fun k=>(a4 k).trans Or.comm⟩
theorem jp7 (KQ:Keeps Q) {f:FuncId} {args:Array Value} {v:Value} (h:∀ W o,P W o->Calls Tryz.prog f args W fun e w'=>e=.returned v/\jar P' W w' o) (W:World) (o:Nat->Prop) (hp:jzp P Q W o) :
 Calls Tryz.prog f args W fun e w'=>e=.returned v/\jar (jzp P' Q) W w' o:=by
 obtain ⟨o1,o2,a1,a2,a3,a4⟩:=hp
 refine (h W o1 a1).mono ?_
 rintro e w' ⟨rfl,hq⟩
 exact ⟨rfl,qa5 KQ a2 a3 a4 hq⟩
theorem jsv (KP:Keeps P) {f:FuncId} {args:Array Value} {v:Value} (h:∀ W o,Q W o->Calls Tryz.prog f args W fun e w'=>e=.returned v/\jar Q' W w' o) (W:World) (o:Nat->Prop) (hp:jzp P Q W o) :
 Calls Tryz.prog f args W fun e w'=>e=.returned v/\jar (jzp P Q') W w' o:=by
 refine (jp7 KP h W o (jox hp)).mono ?_
 rintro e w' ⟨rfl,hq⟩
 exact ⟨rfl,jc4 hq (fun _ _ h=>jox h)⟩
end
end
theorem jzr (k t c u o pk po pc pu:Int) (w:World) (hB:isB k (jdr k t) c (jdl k u) (jdc k o)=true) (hf:juw k (jdc k o) pk po pc pu) :
 Calls Tryz.prog 35 #[.agg #[iv k,iv t,iv c,iv u,iv o],.agg #[iv pk,iv po,iv pc,iv pu]] w fun e w'=>e=.returned (.bool true)/\Below w.heap.size w w':=by
 have HIS:∀ W,Calls Tryz.prog 38 #[.agg #[iv k,iv (jdr k t),iv c,iv (jdl k u),iv (jdc k o)]] W fun e w'=>e=.returned (.bool true)/\Below W.heap.size W w':=fun W=>by
  have:=qad k (jdr k t) c (jdl k u) (jdc k o) W
  rw [hB] at this
  exact this
 rcases hf with ⟨rfl,hf⟩|⟨rfl,hf⟩|⟨rfl,hf⟩|⟨rfl,hf⟩
 ·exact qd7 t c u o _ _ _ pk po pc pu w (fun W=>jhv 1 t c u o W) HIS hf
 ·exact qd9 t c u o _ _ _ pk po pc pu w (fun W=>jhv 2 t c u o W) HIS hf
 ·exact qcw t c u o _ _ _ pk po pc pu w (fun W=>jhv 3 t c u o W) HIS hf
 ·exact qco t c u o _ _ _ pk po pc pu w (fun W=>jhv 4 t c u o W) HIS hf
theorem qbo (k t c u o:Int) (w:World) (hB:isB k (jdr k t) c (jdl k u) (jdc k o)=false) :
 Calls Tryz.prog 35 #[.agg #[iv k,iv t,iv c,iv u,iv o],.agg #[iv 1,iv 0,iv 0,iv 0]] w fun e w'=>e=.returned (.bool true)/\Below w.heap.size w w' :=
 jyu k t c u o _ _ _ w (fun W=>jhv k t c u o W) (fun W=>by
  have:=qad k (jdr k t) c (jdl k u) (jdc k o) W
  rw [hB] at this
  exact this)
end Go.Proofs.YtfhncfghblkgeaaGreat
