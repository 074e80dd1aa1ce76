import Derived.Test.YtfhncfghblkgeabGreatL42
import Derived.Test.YtfhncfghblkgeabGreatL43
set_option maxRecDepth 100000
set_option maxHeartbeats 2000000
namespace Go.Proofs.YtfhncfghblkgeabGreat
open Go.RowKit
theorem pU {P:World->(Nat->Prop)->Prop} {w W:World} {own loc:Nat->Prop} (K:Keeps P) (h:qX P w own loc W) (hw:∀ k,own k->k<w.heap.size) {b:Nat} (hb:loc b) (v0 v1 v2 v3 v4 v5:Value):qX P w own loc ((((((W.sc b 0 v0).sc b 1 v1).sc b 2 v2).sc b 3 v3).sc b 4 v4).sc b 5 v5) :=
 xY K (xY K (xY K (xY K (xY K (xY K h hw hb v0) hw hb v1) hw hb v2) hw hb v3) hw hb v4) hw hb v5
theorem Sx (x:Nat) (own:Nat->Prop) (P0 P1 P2:World->(Nat->Prop)->Prop) (K0:Keeps P0) (K1:Keeps P1) (K2:Keeps P2) (k t c u o num pr up:Int) (w:World) (hw:∀ k,own k->k<w.heap.size) (h:P0 w own)
 (HN:Hid (jX w own P0 P1 151 #[pt x 0,.agg #[iv k,iv t,iv c,iv u,iv o]] (.agg #[iv num,iv c,iv u,iv 0,iv 0,iv 0])))
 (H0:Hid (jX w own P1 P2 136 #[pt x 0,.agg #[iv num,iv c,iv u,iv 0,iv 0,iv 0]] (.agg #[iv num,iv c,iv u,iv 13,iv pr,iv up]))) :
 Ca 127 #[pt x 0,.agg #[iv k,iv t,iv c,iv u,iv o]] w fun e w'=>e=.returned (.agg #[iv 2,iv num,iv pr,iv up])/\zQ P2 w w' own:=by
 replace hw:Hid _:=hw
 go_enter Tryz.func127,Tryz.ntmps127
 have hT0:Hid (qX P0 w own (fun j=>j=w.heap.size\/j=w.heap.size+1) ((w.alloc (.cells #[iv k,iv t,iv c,iv u,iv o] 39)).alloc (.cells #[iv 0,iv 0,iv 0,iv 0] 33))):=yH K0 h (((uM _ _).alloc (uA _) _).alloc vS _) (fun j e=>by rcases e with e|e<;>(subst e;simp;try omega))
 have rb0:=zq2 w #[iv k,iv t,iv c,iv u,iv o] 39 #[iv 0,iv 0,iv 0,iv 0] 33
 clear h
 go_wp2_with fail
 generalize (w.alloc (.cells #[iv k,iv t,iv c,iv u,iv o] 39)).alloc (.cells #[iv 0,iv 0,iv 0,iv 0] 33)=W0 at hT0 rb0 ⊢
 refine (HN.out _ _ hT0.out).mono ?_
 rintro e W1 ⟨rfl,hT1,hk⟩
 have rb1:Hid (W1.heap[w.heap.size+1]?=some (.cells #[iv 0,iv 0,iv 0,iv 0] 33)):=(hk _ (.inr rfl)).trans rb0.out
 have lv1:w.heap.size+1<W1.heap.size:=(blt rb1.out)
 have hT2:Hid (qX P1 w own (fun j=>(j=w.heap.size\/j=w.heap.size+1)\/j=W1.heap.size) (W1.alloc (.cells #[iv num,iv c,iv u,iv 0,iv 0,iv 0] 142))):=xI K1 hT1 _
 have ob2:Hid ((W1.alloc (.cells #[iv num,iv c,iv u,iv 0,iv 0,iv 0] 142)).heap[W1.heap.size]?=some (.cells #[iv num,iv c,iv u,iv 0,iv 0,iv 0] 142)):=uF W1 _
 have rb2:Hid ((W1.alloc (.cells #[iv num,iv c,iv u,iv 0,iv 0,iv 0] 142)).heap[w.heap.size+1]?=some (.cells #[iv 0,iv 0,iv 0,iv 0] 33)):=(uE _ _ _ lv1).trans rb1.out
 clear hk hT0 hT1 rb0 rb1 lv1
 go_wp2_with fail
 refine (H0.out _ _ hT2.out).mono ?_
 rintro e W2 ⟨rfl,hT3,hk⟩
 have ob3:=(hk _ (.inr rfl)).trans ob2.out
 have rb3:Hid (W2.heap[w.heap.size+1]?=some (.cells #[iv 0,iv 0,iv 0,iv 0] 33)):=(hk _ (.inl (.inr rfl))).trans rb2.out
 have lo:W1.heap.size<W2.heap.size:=(blt ob3)
 have lv:w.heap.size+1<W2.heap.size:=(blt rb3.out)
 have lne:w.heap.size+1≠W1.heap.size:=by
  intro e
  have:=(hk (w.heap.size+1) (.inl (.inr rfl))).trans rb2.out
  rw [e,ob3] at this
  simp at this
 have HE:Hid (∀ a0 a1 a2 a3 a4 a5 v0 v1 v2 v3,zQ P2 w (((((((((((W2.sc W1.heap.size 0 a0).sc W1.heap.size 1 a1).sc W1.heap.size 2 a2).sc W1.heap.size 3 a3).sc W1.heap.size 4 a4).sc W1.heap.size 5 a5).sc (w.heap.size+1) 0 v0).sc (w.heap.size+1) 1 v1).sc (w.heap.size+1) 2 v2).sc (w.heap.size+1) 3 v3)) own):=fun a0 a1 a2 a3 a4 a5 v0 v1 v2 v3=>zE (zX K2 (pU K2 hT3 hw.out (.inr rfl) a0 a1 a2 a3 a4 a5) hw.out (.inl (.inr rfl)) v0 v1 v2 v3)
 obtain ⟨r0,r1,r2,r3⟩:=qC rb3.out
 obtain ⟨s0,s1,s2,s3,s4,s5⟩:=qB ob3
 have g0:=qA rb3.out 0
 have g1:=qA rb3.out 1
 have g2:=qA rb3.out 2
 have g3:=qA rb3.out 3
 have f0:=qA ob3 0
 have f1:=qA ob3 1
 have f2:=qA ob3 2
 have f3:=qA ob3 3
 have f4:=qA ob3 4
 have f5:=qA ob3 5
 clear hk hT3 hT2 ob2 rb2 ob3
 go_wp2
 refine uK (v:=.agg #[iv 2,iv num,iv pr,iv up]) (by simp [results,Tryz.results127,go_sem,r0,r1,r2,r3]) rfl ⟨rfl,?_⟩
 exact HE.out _ _ _ _ _ _ _ _ _ _
theorem Nk (x:Nat) (own:Nat->Prop) (P0 P1 P2:World->(Nat->Prop)->Prop) (K0:Keeps P0) (K1:Keeps P1) (K2:Keeps P2) (k t c u o num up:Int) (w:World) (hw:∀ k,own k->k<w.heap.size) (h:P0 w own)
 (HN:Hid (jX w own P0 P1 151 #[pt x 0,.agg #[iv k,iv t,iv c,iv u,iv o]] (.agg #[iv num,iv c,iv u,iv 0,iv 0,iv 0])))
 (H0:Hid (jX w own P1 P2 129 #[pt x 0,.agg #[iv num,iv c,iv u,iv 0,iv 0,iv 0],iv 12] (.agg #[iv num,iv c,iv u,iv 12,iv 0,iv up]))) :
 Ca 128 #[pt x 0,.agg #[iv k,iv t,iv c,iv u,iv o]] w fun e w'=>e=.returned (.agg #[iv 3,iv num,iv 0,iv up])/\zQ P2 w w' own:=by
 replace hw:Hid _:=hw
 go_enter Tryz.func128,Tryz.ntmps128
 have hT0:Hid (qX P0 w own (fun j=>j=w.heap.size\/j=w.heap.size+1) ((w.alloc (.cells #[iv k,iv t,iv c,iv u,iv o] 39)).alloc (.cells #[iv 0,iv 0,iv 0,iv 0] 33))):=yH K0 h (((uM _ _).alloc (uA _) _).alloc vS _) (fun j e=>by rcases e with e|e<;>(subst e;simp;try omega))
 have rb0:=zq2 w #[iv k,iv t,iv c,iv u,iv o] 39 #[iv 0,iv 0,iv 0,iv 0] 33
 clear h
 go_wp2_with fail
 generalize (w.alloc (.cells #[iv k,iv t,iv c,iv u,iv o] 39)).alloc (.cells #[iv 0,iv 0,iv 0,iv 0] 33)=W0 at hT0 rb0 ⊢
 refine (HN.out _ _ hT0.out).mono ?_
 rintro e W1 ⟨rfl,hT1,hk⟩
 have rb1:Hid (W1.heap[w.heap.size+1]?=some (.cells #[iv 0,iv 0,iv 0,iv 0] 33)):=(hk _ (.inr rfl)).trans rb0.out
 have lv1:w.heap.size+1<W1.heap.size:=(blt rb1.out)
 have hT2:Hid (qX P1 w own (fun j=>(j=w.heap.size\/j=w.heap.size+1)\/j=W1.heap.size) (W1.alloc (.cells #[iv num,iv c,iv u,iv 0,iv 0,iv 0] 142))):=xI K1 hT1 _
 have ob2:Hid ((W1.alloc (.cells #[iv num,iv c,iv u,iv 0,iv 0,iv 0] 142)).heap[W1.heap.size]?=some (.cells #[iv num,iv c,iv u,iv 0,iv 0,iv 0] 142)):=uF W1 _
 have rb2:Hid ((W1.alloc (.cells #[iv num,iv c,iv u,iv 0,iv 0,iv 0] 142)).heap[w.heap.size+1]?=some (.cells #[iv 0,iv 0,iv 0,iv 0] 33)):=(uE _ _ _ lv1).trans rb1.out
 clear hk hT0 hT1 rb0 rb1 lv1
 go_wp2_with fail
 refine (H0.out _ _ hT2.out).mono ?_
 rintro e W2 ⟨rfl,hT3,hk⟩
 have ob3:=(hk _ (.inr rfl)).trans ob2.out
 have rb3:Hid (W2.heap[w.heap.size+1]?=some (.cells #[iv 0,iv 0,iv 0,iv 0] 33)):=(hk _ (.inl (.inr rfl))).trans rb2.out
 have lo:W1.heap.size<W2.heap.size:=(blt ob3)
 have lv:w.heap.size+1<W2.heap.size:=(blt rb3.out)
 have lne:w.heap.size+1≠W1.heap.size:=by
  intro e
  have:=(hk (w.heap.size+1) (.inl (.inr rfl))).trans rb2.out
  rw [e,ob3] at this
  simp at this
 have HE:Hid (∀ a0 a1 a2 a3 a4 a5 v0 v1 v2 v3,zQ P2 w (((((((((((W2.sc W1.heap.size 0 a0).sc W1.heap.size 1 a1).sc W1.heap.size 2 a2).sc W1.heap.size 3 a3).sc W1.heap.size 4 a4).sc W1.heap.size 5 a5).sc (w.heap.size+1) 0 v0).sc (w.heap.size+1) 1 v1).sc (w.heap.size+1) 2 v2).sc (w.heap.size+1) 3 v3)) own):=fun a0 a1 a2 a3 a4 a5 v0 v1 v2 v3=>zE (zX K2 (pU K2 hT3 hw.out (.inr rfl) a0 a1 a2 a3 a4 a5) hw.out (.inl (.inr rfl)) v0 v1 v2 v3)
 obtain ⟨r0,r1,r2,r3⟩:=qC rb3.out
 obtain ⟨s0,s1,s2,s3,s4,s5⟩:=qB ob3
 have g0:=qA rb3.out 0
 have g1:=qA rb3.out 1
 have g2:=qA rb3.out 2
 have g3:=qA rb3.out 3
 have f0:=qA ob3 0
 have f1:=qA ob3 1
 have f2:=qA ob3 2
 have f3:=qA ob3 3
 have f4:=qA ob3 4
 have f5:=qA ob3 5
 clear hk hT3 hT2 ob2 rb2 ob3
 go_wp2
 refine uK (v:=.agg #[iv 3,iv num,iv 0,iv up]) (by simp [results,Tryz.results128,go_sem,r0,r1,r2,r3]) rfl ⟨rfl,?_⟩
 exact HE.out _ _ _ _ _ _ _ _ _ _
theorem ZA (x:Nat) (own:Nat->Prop) (P0 P1:World->(Nat->Prop)->Prop) (K0:Keeps P0) (K1:Keeps P1) (t c u o a0 a1 a2 a3:Int) (w:World) (hw:∀ k,own k->k<w.heap.size) (h:P0 w own)
 (H0:Hid (jX w own P0 P1 96 #[pt x 0,.agg #[iv 1,iv t,iv c,iv u,iv o]] (.agg #[iv a0,iv a1,iv a2,iv a3]))) :
 Ca 68 #[pt x 0,.agg #[iv 1,iv t,iv c,iv u,iv o]] w fun e w'=>e=.returned (.agg #[iv a0,iv a1,iv a2,iv a3])/\zQ P1 w w' own:=by
 replace hw:Hid _:=hw
 go_enter Tryz.func68,Tryz.ntmps68
 have hT0:Hid (qX P0 w own (fun j=>j=w.heap.size\/j=w.heap.size+1) ((w.alloc (.cells #[iv 1,iv t,iv c,iv u,iv o] 39)).alloc (.cells #[iv 0,iv 0,iv 0,iv 0] 33))):=yH K0 h (((uM _ _).alloc (uA _) _).alloc vS _) (fun j e=>by rcases e with e|e<;>(subst e;simp;try omega))
 have rb0:=zq2 w #[iv 1,iv t,iv c,iv u,iv o] 39 #[iv 0,iv 0,iv 0,iv 0] 33
 clear h
 go_wp2_with fail
 generalize (w.alloc (.cells #[iv 1,iv t,iv c,iv u,iv o] 39)).alloc (.cells #[iv 0,iv 0,iv 0,iv 0] 33)=W0 at hT0 rb0 ⊢
 refine (H0.out _ _ hT0.out).mono ?_
 rintro e W1 ⟨rfl,hT1,hk⟩
 have rb1:Hid (W1.heap[w.heap.size+1]?=some (.cells #[iv 0,iv 0,iv 0,iv 0] 33)):=(hk _ (.inr rfl)).trans rb0.out
 have lv:w.heap.size+1<W1.heap.size:=(blt rb1.out)
 have HE:Hid (∀ v0 v1 v2 v3,zQ P1 w ((((W1.sc (w.heap.size+1) 0 v0).sc (w.heap.size+1) 1 v1).sc (w.heap.size+1) 2 v2).sc (w.heap.size+1) 3 v3) own):=fun v0 v1 v2 v3=>zE (zX K1 hT1 hw.out (.inr rfl) v0 v1 v2 v3)
 obtain ⟨r0,r1,r2,r3⟩:=qC rb1.out
 have g0:=qA rb1.out 0
 have g1:=qA rb1.out 1
 have g2:=qA rb1.out 2
 have g3:=qA rb1.out 3
 clear hk hT0 hT1 rb0
 go_wp2
 refine uK (v:=.agg #[iv a0,iv a1,iv a2,iv a3]) (by simp [results,Tryz.results68,go_sem,r0,r1,r2,r3]) rfl ⟨rfl,?_⟩
 exact HE.out _ _ _ _
theorem Hw (x:Nat) (own:Nat->Prop) (P0 P1:World->(Nat->Prop)->Prop) (K0:Keeps P0) (K1:Keeps P1) (t c u o a0 a1 a2 a3:Int) (w:World) (hw:∀ k,own k->k<w.heap.size) (h:P0 w own)
 (H0:Hid (jX w own P0 P1 97 #[pt x 0,.agg #[iv 2,iv t,iv c,iv u,iv o]] (.agg #[iv a0,iv a1,iv a2,iv a3]))) :
 Ca 68 #[pt x 0,.agg #[iv 2,iv t,iv c,iv u,iv o]] w fun e w'=>e=.returned (.agg #[iv a0,iv a1,iv a2,iv a3])/\zQ P1 w w' own:=by
 replace hw:Hid _:=hw
 go_enter Tryz.func68,Tryz.ntmps68
 have hT0:Hid (qX P0 w own (fun j=>j=w.heap.size\/j=w.heap.size+1) ((w.alloc (.cells #[iv 2,iv t,iv c,iv u,iv o] 39)).alloc (.cells #[iv 0,iv 0,iv 0,iv 0] 33))):=yH K0 h (((uM _ _).alloc (uA _) _).alloc vS _) (fun j e=>by rcases e with e|e<;>(subst e;simp;try omega))
 have rb0:=zq2 w #[iv 2,iv t,iv c,iv u,iv o] 39 #[iv 0,iv 0,iv 0,iv 0] 33
 clear h
 go_wp2_with fail
 generalize (w.alloc (.cells #[iv 2,iv t,iv c,iv u,iv o] 39)).alloc (.cells #[iv 0,iv 0,iv 0,iv 0] 33)=W0 at hT0 rb0 ⊢
 refine (H0.out _ _ hT0.out).mono ?_
 rintro e W1 ⟨rfl,hT1,hk⟩
 have rb1:Hid (W1.heap[w.heap.size+1]?=some (.cells #[iv 0,iv 0,iv 0,iv 0] 33)):=(hk _ (.inr rfl)).trans rb0.out
 have lv:w.heap.size+1<W1.heap.size:=(blt rb1.out)
 have HE:Hid (∀ v0 v1 v2 v3,zQ P1 w ((((W1.sc (w.heap.size+1) 0 v0).sc (w.heap.size+1) 1 v1).sc (w.heap.size+1) 2 v2).sc (w.heap.size+1) 3 v3) own):=fun v0 v1 v2 v3=>zE (zX K1 hT1 hw.out (.inr rfl) v0 v1 v2 v3)
 obtain ⟨r0,r1,r2,r3⟩:=qC rb1.out
 have g0:=qA rb1.out 0
 have g1:=qA rb1.out 1
 have g2:=qA rb1.out 2
 have g3:=qA rb1.out 3
 clear hk hT0 hT1 rb0
 go_wp2
 refine uK (v:=.agg #[iv a0,iv a1,iv a2,iv a3]) (by simp [results,Tryz.results68,go_sem,r0,r1,r2,r3]) rfl ⟨rfl,?_⟩
 exact HE.out _ _ _ _
theorem Rr (x:Nat) (own:Nat->Prop) (P0 P1:World->(Nat->Prop)->Prop) (K0:Keeps P0) (K1:Keeps P1) (k t c u o a0 a1 a2 a3:Int) (w:World) (q1:(k==1)=false) (q2:(k==2)=false) (hw:∀ k,own k->k<w.heap.size) (h:P0 w own)
 (H0:Hid (jX w own P0 P1 98 #[pt x 0,.agg #[iv k,iv t,iv c,iv u,iv o]] (.agg #[iv a0,iv a1,iv a2,iv a3]))) :
 Ca 68 #[pt x 0,.agg #[iv k,iv t,iv c,iv u,iv o]] w fun e w'=>e=.returned (.agg #[iv a0,iv a1,iv a2,iv a3])/\zQ P1 w w' own:=by
 replace hw:Hid _:=hw
 go_enter Tryz.func68,Tryz.ntmps68
 have hT0:Hid (qX P0 w own (fun j=>j=w.heap.size\/j=w.heap.size+1) ((w.alloc (.cells #[iv k,iv t,iv c,iv u,iv o] 39)).alloc (.cells #[iv 0,iv 0,iv 0,iv 0] 33))):=yH K0 h (((uM _ _).alloc (uA _) _).alloc vS _) (fun j e=>by rcases e with e|e<;>(subst e;simp;try omega))
 have rb0:=zq2 w #[iv k,iv t,iv c,iv u,iv o] 39 #[iv 0,iv 0,iv 0,iv 0] 33
 clear h
 go_wp2_with fail
 generalize (w.alloc (.cells #[iv k,iv t,iv c,iv u,iv o] 39)).alloc (.cells #[iv 0,iv 0,iv 0,iv 0] 33)=W0 at hT0 rb0 ⊢
 refine (H0.out _ _ hT0.out).mono ?_
 rintro e W1 ⟨rfl,hT1,hk⟩
 have rb1:Hid (W1.heap[w.heap.size+1]?=some (.cells #[iv 0,iv 0,iv 0,iv 0] 33)):=(hk _ (.inr rfl)).trans rb0.out
 have lv:w.heap.size+1<W1.heap.size:=(blt rb1.out)
 have HE:Hid (∀ v0 v1 v2 v3,zQ P1 w ((((W1.sc (w.heap.size+1) 0 v0).sc (w.heap.size+1) 1 v1).sc (w.heap.size+1) 2 v2).sc (w.heap.size+1) 3 v3) own):=fun v0 v1 v2 v3=>zE (zX K1 hT1 hw.out (.inr rfl) v0 v1 v2 v3)
 obtain ⟨r0,r1,r2,r3⟩:=qC rb1.out
 have g0:=qA rb1.out 0
 have g1:=qA rb1.out 1
 have g2:=qA rb1.out 2
 have g3:=qA rb1.out 3
 clear hk hT0 hT1 rb0
 go_wp2
 refine uK (v:=.agg #[iv a0,iv a1,iv a2,iv a3]) (by simp [results,Tryz.results68,go_sem,r0,r1,r2,r3]) rfl ⟨rfl,?_⟩
 exact HE.out _ _ _ _
section
section
variable {w:World} {x:Nat} {own:Nat->Prop} {S:Sal} {last:Nat} {an:Int}
theorem saleK.put {S:Sal} (h:saleK S) {i:Nat} {o:Ord} (hI:salI (S.put i o)):saleK (S.put i o):=⟨hI,by show (S.os.set i o).length<=_;simpa using h.len,h.lease,h.wait,h.keep⟩
theorem Ai (h:QA an x S last w own) (hK:saleK S) :
 Ca 38 #[pt x 0] w fun e w'=>e=.returned (iv S.free)/\Below w.heap.size w w':=by
 obtain ⟨V,hm,hr,_⟩:=h
 have hB:=hr.bounds hK.I hK.len
 have:=Wx hm hB.stock hB.sold hB.held
 rw [hr.C,hr.sold,hr.held] at this
 exact this
theorem Pq (h:QA an x S last w own) (hK:saleK S) :
 Ca 126 #[pt x 0] w fun e w'=>e=.returned (iv S.left)/\Below w.heap.size w w':=by
 obtain ⟨V,hm,hr,_⟩:=h
 have hB:=hr.bounds hK.I hK.len
 have:=YZ hm hB.stock hB.sold
 rw [hr.C,hr.sold] at this
 exact this
theorem Rw (h:QA an x S last w own) :
 Ca 162 #[pt x 0] w fun e w'=>e=.returned (iv S.price)/\Below w.heap.size w w':=by
 obtain ⟨V,hm,hr,_⟩:=h
 have:=Sq hm
 rw [hr.C,hr.sold] at this
 exact this
theorem Bc (h:QA an x S last w own) {i:Nat} (hi:S.knows i) :
 Ca 95 #[pt x 11,iv ((i:Int)+1)] w fun e w'=>e=.returned (.tuple #[(zO S.C i (S.os.getD i qD)).val,.bool true])/\Below w.heap.size w w':=by
 obtain ⟨V,hm,hr,_⟩:=h
 obtain ⟨j,h1,h2⟩:=hr.known hi
 exact wP hm hr.ls.srt h2 h1
theorem sO (h:QA an x S last w own) {num:Int} (hi:∀ i,S.knows i->num≠(i:Int)+1) :
 Ca 95 #[pt x 11,iv num] w fun e w'=>e=.returned (.tuple #[pord0.val,.bool false])/\Below w.heap.size w w':=by
 obtain ⟨V,hm,hr,_⟩:=h
 exact Ax hm hr.ls.srt (hr.strange hi)
theorem sH (S:Sal) {i:Nat} (hi:i<S.os.length) (hs:(S.os.getD i qD).state≠14):(S.put i { S.os.getD i qD with state:=13 }).price=S.price:=by
 unfold Sal.price
 show xG S.C.prices (qF (S.os.set i _) 14 0) _=_
 rw [xF hi,pG,pG,uP hs,uP (show ¬ (13:Int)=14 by decide)]
 rw [show qF S.os 14 0 - 0+0=qF S.os 14 0 by omega]
 rfl
theorem YD (h:QA an x S last w own) (hK:saleK S) {i:Nat} (hi:S.knows i) (hs:(S.os.getD i qD).state=12) :
 Ca 136 #[pt x 0,(zO S.C i (S.os.getD i qD)).val] w fun e w'=>e=.returned (POrd.val ⟨(i:Int)+1,(S.os.getD i qD).cust,(S.os.getD i qD).units,13,S.price,S.now+S.C.lease⟩)/\zQ (QA an x (S.holds i) last) w w' own:=by
 have hw:=(yQ an x S last).lt h
 refine Po x own (QA an x S last) (QA an x (S.holds i) last) (yQ _ _ _ _) (yQ _ _ _ _) _ _ _ _ _ _ S.price (S.now+S.C.lease) w hw h (fun W hW=>fT (yQ _ _ _ _) hw (fun W o hp=>Rw hp) W hW) (fun W hW=>oF hw (fun W o hp=>?_) W hW)
 have e:S.holds i=S.put i { S.os.getD i qD with state:=13,cents:=S.price,upto:=S.now+S.C.lease }:=by
  unfold Sal.holds
  rw [sH S hi.1 (by rw [hs];decide)]
 rw [e]
 exact Pm hp hK hi ⟨(i:Int)+1,(S.os.getD i qD).cust,(S.os.getD i qD).units,(S.os.getD i qD).state,S.price,(S.os.getD i qD).untl S.C⟩ rfl rfl rfl rfl 13 vO _ rfl rfl rfl rfl (by unfold Ord.untl yC;rw [uQ (.inr rfl),uQ rfl])
def Sal.firstW (S:Sal):Option POrd:=match qK S.os with
 | []=>none
 | q :: _=>some (zO S.C q (S.os.getD q qD))
theorem Wr (h:QA an x S last w own) :
 Ca 135 #[pt x 0] w fun e w'=>e=.returned (.tuple #[(S.firstW.getD pord0).val,.bool S.firstW.isSome])/\Below w.heap.size w w':=by
 have K:=yQ an x S last
 have hb:∀ W,Below w.heap.size w W->QA an x S last W own:=fun W hW=>K.keep h hW.size (fun k e=>hW.block k (K.lt h k e))
 cases hq:qK S.os with
 | nil =>
   have e:S.firstW=none:=by unfold Sal.firstW;rw [hq]
   rw [e]
   refine Ae x 0 w (fun W hW=>?_)
   obtain ⟨V,⟨g,hm⟩,hr,_⟩:=hb W hW
   have:=sJ x 15 g.qt W (hm.cell 15 _ rfl) hm.qt.1
   rw [dM,hm.qt.2,(eZ hr.turns).2 hq] at this
   exact this
 | cons q qs =>
   have e:S.firstW=some (zO S.C q (S.os.getD q qD)):=by unfold Sal.firstW;rw [hq]
   obtain ⟨_,h1,h2⟩:=jY hq qD vO
   have hk:S.knows q:=⟨h1,.inl (.inl h2)⟩
   rw [e]
   refine Du x ((q:Int)+1) _ _ _ _ _ _ w (fun W hW=>?_) (fun W hW=>Bc (hb W hW) hk)
   obtain ⟨V,⟨g,hm⟩,hr,_⟩:=hb W hW
   have:=sJ x 15 g.qt W (hm.cell 15 _ rfl) hm.qt.1
   have hn:V.qt≠[]:=fun c=>by
    have:=(eZ hr.turns).1 c
    rw [hq] at this
    cases this
   rw [dM,hm.qt.2,Xy hr.turns hq,decide_eq_true hn] at this
   exact this
theorem hH (h:QA an x S last w own) (hK:saleK S) :
 Ca 104 #[pt x 0] w fun e w'=>e=.returned (.tuple #[])/\zQ (QA an x S.promote last) w w' own:=by
 have hsome:∀ (S:Sal) p,S.firstW=some p->∃ q qs,qK S.os=q :: qs/\p=zO S.C q (S.os.getD q qD)/\q<S.os.length/\(S.os.getD q qD).state=12:=by
  intro S p e
  unfold Sal.firstW at e
  cases hq:qK S.os with
  | nil=>rw [hq] at e;cases e
  | cons q qs =>
    rw [hq] at e
    simp only [Option.some.injEq] at e
    obtain ⟨_,h1,h2⟩:=jY hq qD vO
    exact ⟨q,qs,rfl,e.symm,h1,h2⟩
 refine Jl x (fun S=>QA an x S last) (fun S=>yQ an x S last) saleK Sal.firstW Sal.free (fun S=>S.holds ((qK S.os).headD 0)) Sal.promote (fun S=>(qK S.os).length) (fun S=>POrd.val ⟨((((qK S.os).headD 0:Nat):Int))+1,(S.os.getD ((qK S.os).headD 0) qD).cust,(S.os.getD ((qK S.os).headD 0) qD).units,13,S.price,S.now+S.C.lease⟩) (fun S p=>p.units<=S.free) (fun _ _=>Iff.rfl) (fun S _ W o hp=>Wr hp) (fun S hK W o hp=>Ai hp hK) (fun S p hK e hle W o hp=>?_) (fun S p hK e hle=>?_) (fun S hK hle=>?_) S w own hK h
 ·obtain ⟨q,qs,hq,rfl,h1,h2⟩:=hsome S p e
  simp only [hq,List.headD_cons]
  exact YD hp hK ⟨h1,.inl (.inl h2)⟩ h2
 ·obtain ⟨q,qs,hq,rfl,h1,h2⟩:=hsome S p e
  have hf:¬ S.free<(S.os.getD q qD).units:=by
   have:(S.os.getD q qD).units<=S.free:=hle
   omega
  simp only [hq,List.headD_cons]
  have hpr:0<=S.price/\S.price<=1073741824:=kO hK.I.prices _ _ (uA _)
  have ho:=hK.I.ords _ (zG h1)
  refine ⟨hK.put (rZ hK.I h1 h2 hf _ rfl rfl rfl ⟨?_,ho.2⟩),?_,(sL hq hf).symm⟩
  ·rw [sH S h1 (by rw [h2];decide)];exact hpr
  ·rw [dE hq];simp
 ·cases hq:qK S.os with
  | nil=>exact nX hq
  | cons q qs =>
    refine gZ hq ?_
    have:=hle (zO S.C q (S.os.getD q qD)) (by unfold Sal.firstW;rw [hq])
    have:¬ (S.os.getD q qD).units<=S.free:=this
    omega
theorem bQ {Z Z':List Ent} {os:List Ord} (h:zS Z os) (h':zS Z' os):Z=Z':=Ov h.1 h'.1 (fun e=>(h.2 e).trans (h'.2 e).symm)
def Wj:List Ent->Option Nat
 | []=>none
 | e :: _=>some (e.1.2 - 1).toNat
open Classical in
noncomputable def Sal.greatI (S:Sal):Option Nat:=if h:∃ Z,zS Z S.os then Wj (Classical.choose h) else none
noncomputable def Sal.greatW (S:Sal):Option POrd:=S.greatI.map (fun q=>zO S.C q (S.os.getD q qD))
theorem Xt {Z:List Ent} (h:zS Z S.os):S.greatI=Wj Z:=by
 unfold Sal.greatI
 have hx:∃ Z,zS Z S.os:=⟨Z,h⟩
 rw [dif_pos hx,bQ (Classical.choose_spec hx) h]
theorem aU {Z:List Ent} (h:zS Z S.os):(qK S.os=[]/\Z=[]/\S.greatI=none)\/∃ i,S.greatI=some i/\Z≠[]/\i<S.os.length/\(S.os.getD i qD).state=12/\Z.headD ((0,0),0)=((-(S.os.getD i qD).units,(i:Int)+1),0)/\∀ j,j<S.os.length->(S.os.getD j qD).state=12->(S.os.getD j qD).units<=(S.os.getD i qD).units:=by
 by_cases hz:Z=[]
 ·exact .inl ⟨(iD h).1 hz,hz,by rw [Xt h,hz];rfl⟩
 ·obtain ⟨i,a,b,c,d⟩:=Xm h hz
  refine .inr ⟨i,?_,hz,a,b,c,d⟩
  rw [Xt h]
  cases Z with
  | nil=>exact absurd rfl hz
  | cons e l =>
    have c':e=((-(S.os.getD i qD).units,(i:Int)+1),0):=c
    rw [c']
    simp [Wj]
theorem Wh (h:QA an x S last w own) :
 Ca 157 #[pt x 0] w fun e w'=>e=.returned (.tuple #[(S.greatW.getD pord0).val,.bool S.greatW.isSome])/\Below w.heap.size w w':=by
 have K:=yQ an x S last
 have hb:∀ W,Below w.heap.size w W->QA an x S last W own:=fun W hW=>K.keep h hW.size (fun k e=>hW.block k (K.lt h k e))
 obtain ⟨V0,_,hr0,_⟩:=h
 rcases aU hr0.sizes with ⟨hq,hz,hg⟩|⟨i,hg,hz,h1,h2,h3,_⟩
 ·have e:S.greatW=none:=by unfold Sal.greatW;rw [hg];rfl
  rw [e]
  refine Tn x 0 w (fun W hW=>?_)
  obtain ⟨V,⟨g,hm⟩,hr,_⟩:=hb W hW
  have:=tT x 15 g.qz W (hm.cell 17 _ rfl) hm.qz.1
  rw [dM,hm.qz.2,(iD hr.sizes).2 hq] at this
  exact this
 ·have e:S.greatW=some (zO S.C i (S.os.getD i qD)):=by unfold Sal.greatW;rw [hg];rfl
  have hk:S.knows i:=⟨h1,.inl (.inl h2)⟩
  rw [e]
  refine Hz x ((i:Int)+1) _ _ _ _ _ _ w (fun W hW=>?_) (fun W hW=>Bc (hb W hW) hk)
  obtain ⟨V,⟨g,hm⟩,hr,_⟩:=hb W hW
  have:=tT x 15 g.qz W (hm.cell 17 _ rfl) hm.qz.1
  have hv:V.qz=V0.qz:=bQ hr.sizes hr0.sizes
  rw [dM,hm.qz.2,hv,h3,decide_eq_true hz] at this
  exact this
theorem Qs (h:QA an x S last w own) (hK:saleK S) {i:Nat} (hi:S.knows i) (st:Int) (hst:st≠12/\st≠13) :
 Ca 129 #[pt x 0,(zO S.C i (S.os.getD i qD)).val,iv st] w fun e w'=>e=.returned (POrd.val ⟨(i:Int)+1,(S.os.getD i qD).cust,(S.os.getD i qD).units,st,(S.os.getD i qD).cents,S.now+S.C.keep⟩)/\zQ (QA an x (S.ends i st) last) w w' own:=by
 have hsp:yC S.C st=S.C.keep:=by unfold yC;rw [uP hst.2,uP hst.1]
 have:=Pm h hK hi (zO S.C i (S.os.getD i qD)) rfl rfl rfl rfl st hst.1 { S.os.getD i qD with state:=st,ended:=S.now } rfl rfl rfl rfl (by rw [hsp];exact aZ (fun c=>c.elim hst.1 hst.2))
 rw [hsp] at this
 exact this
theorem saleK.ends {S:Sal} (h:saleK S) {i:Nat} (hi:i<S.os.length) (st:Int) (hst:st=14\/(st≠12/\st≠13/\st≠14)) (h14:st=14->(S.os.getD i qD).state=13):saleK (S.ends i st):=h.put (rN h.I hi st hst h14)
theorem Wf (h:QA an x S last w own) (hK:saleK S) :
 Ca 130 #[pt x 0] w fun e w'=>e=.returned (.tuple #[])/\zQ (QA an x S.drained last) w w' own:=by
 obtain ⟨V0,_,hr0,_⟩:=id h
 have hz0:∃ Z,zS Z S.os:=⟨_,hr0.sizes⟩
 clear hr0
 have hsome:∀ (S:Sal) p,(∃ Z,zS Z S.os)->S.greatW=some p->∃ q,S.greatI=some q/\p=zO S.C q (S.os.getD q qD)/\q<S.os.length/\(S.os.getD q qD).state=12/\∀ j,j<S.os.length->(S.os.getD j qD).state=12->(S.os.getD j qD).units<=(S.os.getD q qD).units:=by
  rintro S p ⟨Z,hZ⟩ e
  rcases aU hZ with ⟨_,_,hg⟩|⟨i,hg,_,h1,h2,_,h4⟩
  ·unfold Sal.greatW at e;rw [hg] at e;cases e
  ·unfold Sal.greatW at e
   rw [hg] at e
   simp only [Option.map_some,Option.some.injEq] at e
   exact ⟨i,hg,e.symm,h1,h2,h4⟩
 refine Fr x (fun S=>QA an x S last) (fun S=>yQ an x S last) (fun S=>saleK S/\∃ Z,zS Z S.os) Sal.greatW Sal.left (fun S=>S.ends (S.greatI.getD 0) 18) Sal.drained (fun S=>(qK S.os).length) (fun S=>POrd.val ⟨((S.greatI.getD 0:Nat):Int)+1,(S.os.getD (S.greatI.getD 0) qD).cust,(S.os.getD (S.greatI.getD 0) qD).units,18,(S.os.getD (S.greatI.getD 0) qD).cents,S.now+S.C.keep⟩) (fun S p=>S.left<p.units) (fun _ _=>Iff.rfl) (fun S _ W o hp=>Wh hp) (fun S hK W o hp=>Pq hp hK.1) (fun S p hK e hle W o hp=>?_) (fun S p hK e hle=>?_) (fun S hK hle=>?_) S w own ⟨hK,hz0⟩ h
 ·obtain ⟨q,hg,rfl,h1,h2,_⟩:=hsome S p hK.2 e
  simp only [hg,Option.getD_some]
  exact Qs hp hK.1 ⟨h1,.inl (.inl h2)⟩ 18 vO
 ·obtain ⟨q,hg,rfl,h1,h2,_⟩:=hsome S p hK.2 e
  have hlt:S.left<(S.os.getD q qD).units:=hle
  simp only [hg,Option.getD_some]
  obtain ⟨Z,hZ⟩:=hK.2
  refine ⟨⟨hK.1.ends h1 18 (.inr vO) (fun c=>absurd c vO),_,Jn hZ h1 _ (show (18:Int)≠12 by decide)⟩,?_,cI h1 h2 hlt⟩
  show (qK (S.os.set q _)).length<_
  rw [iX _ h1 (show (18:Int)≠12 by decide)]
  refine List.length_filter_lt_length_iff_exists.2 ⟨q,(zH S.os _ q).2 ⟨h1,h2⟩,by simp⟩
 ·obtain ⟨Z,hZ⟩:=hK.2
  refine cJ (fun o ho hs=>?_)
  obtain ⟨j,hj,rfl⟩:=kF ho
  rcases aU hZ with ⟨hq,_,_⟩|⟨i,hg,_,h1,h2,_,h4⟩
  ·have:=(zH S.os _ j).2 ⟨hj,hs⟩
   have hq':qZ S.os S.os.length=[]:=hq
   rw [hq'] at this
   cases this
  ·have:=h4 j hj hs
   have h5:=hle (zO S.C i (S.os.getD i qD)) (by unfold Sal.greatW;rw [hg];rfl)
   have h6:¬ S.left<(S.os.getD i qD).units:=h5
   omega
end
end
section
section
variable {w:World} {x:Nat} {own:Nat->Prop} {S:Sal} {last:Nat} {an:Int}
theorem yV {W:World} (h:QA an x S last w own) (hW:Below w.heap.size w W):QA an x S last W own:=(yQ an x S last).keep h hW.size (fun k e=>hW.block k ((yQ an x S last).lt h k e))
theorem fQ {os:List Ord} {c o:Int} {i:Nat} (ho:1<=o) (h:oM os c o=some i):i<os.length/\(os.getD i qD).cust=c/\o=(i:Int)+1:=by
 unfold oM at h
 split at h
 ·next hc =>
  simp only [Option.some.injEq] at h
  subst h
  exact ⟨uO,hc.2,uO⟩
 ·cases h
theorem Gf {os:List Ord} {c:Int} {i:Nat} (hi:i<os.length) (h:oM os c ((i:Int)+1)=none):(os.getD i qD).cust≠c:=by
 intro e
 unfold oM at h
 rw [uQ] at h
 ·cases h
 ·refine ⟨uO,?_⟩
  rw [show ((i:Int)+1 - 1).toNat=i by omega]
  exact e
theorem Rq (r:Req) (ho:1<=r.order) :
 (∃ i,oM S.os r.cust r.order=some i/\S.knows i/\r.order=(i:Int)+1/\∀ W o,QA an x S last W o->Ca 66 #[pt x 0,r.val] W fun e w'=>e=.returned (.tuple #[(zO S.C i (S.os.getD i qD)).val,.bool true])/\Below W.heap.size W w') ∨
 ((∀ i,oM S.os r.cust r.order=some i->¬ S.knows i)/\∀ W o,QA an x S last W o->Ca 66 #[pt x 0,r.val] W fun e w'=>e=.returned (.tuple #[pord0.val,.bool false])/\Below W.heap.size W w'):=by
 by_cases hk:∃ i,S.knows i/\r.order=(i:Int)+1
 ·obtain ⟨i,hi,he⟩:=hk
  cases hf:oM S.os r.cust r.order with
  | some j =>
    obtain ⟨_,h2,h3⟩:=fQ ho hf
    have e:j=i:=uO
    subst e
    refine .inl ⟨j,rfl,hi,he,fun W o hp=>?_⟩
    have e:(zO S.C j (S.os.getD j qD)).val=.agg #[iv ((j:Int)+1),iv r.cust,iv (S.os.getD j qD).units,iv (S.os.getD j qD).state,iv (S.os.getD j qD).cents,iv ((S.os.getD j qD).untl S.C)]:=by rw [← h2];rfl
    rw [e]
    refine Bu x r.kind r.token r.cust r.units r.order _ _ _ _ _ W (fun W' hW'=>?_)
    have:=Bc (yV hp hW') hi
    rw [e] at this
    rw [he]
    exact this
  | none =>
    refine .inr ⟨fun i e=>(by cases e),fun W o hp=>?_⟩
    refine Fo x r.kind r.token r.cust r.units r.order ((i:Int)+1) (S.os.getD i qD).cust (S.os.getD i qD).units (S.os.getD i qD).state (S.os.getD i qD).cents ((S.os.getD i qD).untl S.C) W (Gf hi.1 (he▸hf)) (fun W' hW'=>?_)
    have:=Bc (yV hp hW') hi
    rw [he]
    exact this
 ·refine .inr ⟨fun i e c=>hk ⟨i,c,(fQ ho e).2.2⟩,fun W o hp=>?_⟩
  exact Sz x r.kind r.token r.cust r.units r.order W (fun W' hW'=>sO (yV hp hW') (fun i hi e=>hk ⟨i,hi,e⟩))
theorem YS (h:QA an x S last w own) (hK:saleK S) (r:Req) (ho:1<=r.order) :
 Ca 43 #[pt x 0,r.val] w fun e w'=>e=.returned (S.poll r).val/\Below w.heap.size w w':=by
 rcases Rq (x:=x) (last:=last) (S:=S) (an:=an) r ho with ⟨i,hf,hi,he,H⟩|⟨hn,H⟩
 ·have H':∀ W,Below w.heap.size w W->Ca 66 #[pt x 0,r.val] W fun e w'=>e=.returned (.tuple #[(zO S.C i (S.os.getD i qD)).val,.bool true])/\Below W.heap.size W w':=fun W hW=>H W own (yV h hW)
  have hu:=hK.I.units _ (zG hi.1)
  have hc:=(hK.I.ords _ (zG hi.1)).1
  have hp:S.poll r=if (S.os.getD i qD).state=12 then ⟨12,r.order,0,(S.os.getD i qD).upto⟩
   else if (S.os.getD i qD).state=13 then ⟨13,r.order,(S.os.getD i qD).cents,(S.os.getD i qD).upto⟩
   else if S.C.keep<=S.now - (S.os.getD i qD).ended then { ZF with kind:=19 }
   else if (S.os.getD i qD).state=14 then ⟨14,r.order,(S.os.getD i qD).units * (S.os.getD i qD).cents,0⟩
   else ⟨(S.os.getD i qD).state,r.order,0,0⟩:=by unfold Sal.poll;rw [hf]
  rw [hp,he]
  unfold zO at H'
  by_cases h12:(S.os.getD i qD).state=12
  ·rw [uQ h12]
   rw [h12,kI (.inl h12)] at H'
   exact Aj x r.kind r.token r.cust r.units r.order _ _ _ _ _ w H'
  ·rw [uP h12]
   by_cases h13:(S.os.getD i qD).state=13
   ·rw [uQ h13]
    rw [h13,kI (.inr h13)] at H'
    exact Bd x r.kind r.token r.cust r.units r.order _ _ _ _ _ w H'
   ·have hna:¬ (S.os.getD i qD).alive:=fun c=>c.elim h12 h13
    have hlt:=hi.2.resolve_left hna
    rw [aZ hna] at hlt
    rw [uP h13,uP uO]
    by_cases h14:(S.os.getD i qD).state=14
    ·rw [uQ h14]
     rw [h14] at H'
     have hm0:0<=(S.os.getD i qD).units * (S.os.getD i qD).cents:=Int.mul_nonneg uO hc.1
     have hm1:(S.os.getD i qD).units * (S.os.getD i qD).cents<=4294967296 * 1073741824:=Int.mul_le_mul hu.2 hc.2 hc.1 uO
     exact Tw x r.kind r.token r.cust r.units r.order _ _ _ _ _ _ w (yA uO uO) H'
    ·rw [uP h14]
     exact Gm x r.kind r.token r.cust r.units r.order _ _ _ _ _ _ w (by simpa using h12) (by simpa using h13) (by simpa using h14) H'
 ·have hp:S.poll r={ ZF with kind:=19 }:=by
   unfold Sal.poll
   cases hf:oM S.os r.cust r.order with
   | none=>rfl
   | some i =>
     have hk:=hn i hf
     obtain ⟨h1,_,_⟩:=fQ ho hf
     have hna:¬ (S.os.getD i qD).alive:=fun c=>hk ⟨h1,.inl c⟩
     have hlt:¬ S.now<(S.os.getD i qD).untl S.C:=fun c=>hk ⟨h1,.inr c⟩
     rw [aZ hna] at hlt
     simp only
     rw [uP (fun c=>hna (.inl c)),uP (fun c=>hna (.inr c)),uQ uO]
  rw [hp]
  exact Az x r.kind r.token r.cust r.units r.order w (fun W hW=>H W own (yV h hW))
theorem bR {k:Nat}:∀ (n:Nat) (S:Sal),(S.os.getD k qD).state≠12->(yJ n S).os.getD k qD=S.os.getD k qD
 | 0,_,_=>rfl
 | n+1,S,h=>by
   unfold yJ
   split
   ·rfl
   ·next q qs hq =>
    split
    ·rfl
    ·obtain ⟨_,hl,hs⟩:=jY hq qD vO
     have hne:k≠q:=fun e=>h (e▸hs)
     have hg:(S.holds q).os.getD k qD=S.os.getD k qD:=by
      show (S.os.set q _).getD k qD=_
      rw [zK _ hl,uP hne]
     rw [bR n _ (by rw [hg];exact h),hg]
theorem Vh {k:Nat} (S:Sal) (h:(S.os.getD k qD).state≠12):S.promote.os.getD k qD=S.os.getD k qD:=bR _ S h
theorem Vw {k:Nat} (S:Sal) (h:(S.os.getD k qD).state≠12):S.drained.os.getD k qD=S.os.getD k qD:=by
 show (S.os.map (QL S.left S.now)).getD k qD=_
 by_cases hk:k<S.os.length
 ·have e1:S.os[k]?=some (S.os.getD k qD):=by simp [List.getD,uD hk]
  have e2:(S.os.map (QL S.left S.now)).getD k qD=QL S.left S.now (S.os.getD k qD):=by
   simp only [List.getD,List.getElem?_map]
   rw [show S.os[k]?=some (S.os[k]?.getD qD) from e1]
   rfl
  rw [e2]
  unfold QL
  rw [uP (fun c=>h c.1)]
 ·simp [List.getD,List.getElem?_eq_none (Nat.le_of_not_lt hk)]
theorem saleK.drained {S:Sal} (h:saleK S):saleK S.drained:=by
 have:=tK (n:=S.os.length) (qK S.os) S h.I rfl (fun q hq=>(dD S.os _ q hq))
 rw [xL] at this
 exact ⟨this.1,by rw [this.2];exact h.len,h.lease,h.wait,h.keep⟩
theorem saleK.promote {S:Sal} (h:saleK S):saleK S.promote:=by
 obtain ⟨a,_,_⟩:=oH S
 exact ⟨nH S h.I,by rw [jL];exact h.len,by rw [a];exact h.lease,by rw [a];exact h.wait,by rw [a];exact h.keep⟩
theorem Rg (h:QA an x S last w own) (hK:saleK S) (r:Req) (ho:1<=r.order) :
 Ca 97 #[pt x 0,r.val] w fun e w'=>e=.returned (S.confirm r).1.val/\zQ (QA an x (S.confirm r).2 last) w w' own:=by
 have K:=yQ an x S last
 have hw:=K.lt h
 have stay:S.confirm r=(⟨9,0,0,0⟩,S)->∀ (e:Ending) (w':World),e=.returned (.agg #[iv 9,iv 0,iv 0,iv 0])/\Below w.heap.size w w'->e=.returned (S.confirm r).1.val/\zQ (QA an x (S.confirm r).2 last) w w' own:=by
  rintro hc e w' ⟨rfl,hb⟩
  rw [hc]
  exact ⟨rfl,yY K h hb⟩
 rcases Rq (x:=x) (last:=last) (S:=S) (an:=an) r ho with ⟨i,hf,hi,he,H⟩|⟨hn,H⟩
 ·by_cases h13:(S.os.getD i qD).state=13
  ·have hu:=hK.I.units _ (zG hi.1)
   have hc:=(hK.I.ords _ (zG hi.1)).1
   have hm0:0<=(S.os.getD i qD).units * (S.os.getD i qD).cents:=Int.mul_nonneg uO hc.1
   have hm1:(S.os.getD i qD).units * (S.os.getD i qD).cents<=4294967296 * 1073741824:=Int.mul_le_mul hu.2 hc.2 hc.1 uO
   have K1:=hK.ends hi.1 14 (.inl rfl) (fun _=>h13)
   have hend:((S.ends i 14).drained.promote.os.getD i qD)={ S.os.getD i qD with state:=14,ended:=S.now }:=by
    have e1:(S.ends i 14).os.getD i qD={ S.os.getD i qD with state:=14,ended:=S.now }:=by
     show (S.os.set i _).getD i qD=_
     rw [zK _ hi.1,uQ rfl]
    have e2:=Vw (k:=i) (S.ends i 14) (by rw [e1];exact (show (14:Int)≠12 by decide))
    rw [Vh _ (by rw [e2,e1];exact (show (14:Int)≠12 by decide)),e2,e1]
   have hcf:S.confirm r=(⟨7,(i:Int)+1,(S.os.getD i qD).units * (S.os.getD i qD).cents,0⟩,(S.ends i 14).drained.promote):=by
    unfold Sal.confirm
    rw [hf]
    simp only
    rw [uP (fun c=>c h13),xL,hend,he]
   rw [hcf]
   have ep:zO S.C i (S.os.getD i qD)=⟨(i:Int)+1,(S.os.getD i qD).cust,(S.os.getD i qD).units,13,(S.os.getD i qD).cents,(S.os.getD i qD).untl S.C⟩:=by rw [← h13];rfl
   refine Uj x own (QA an x S last) (QA an x (S.ends i 14) last) (QA an x (S.ends i 14).drained last) (QA an x (S.ends i 14).drained.promote last) K (yQ _ _ _ _) r.kind r.token r.cust r.units r.order ((i:Int)+1) (S.os.getD i qD).cust (S.os.getD i qD).units (S.os.getD i qD).cents ((S.os.getD i qD).untl S.C) (S.now+S.C.keep) _ w (yA uO uO) hw h (fun loc W hW=>?_) (fun loc W hW=>?_) (fun loc W hW=>qS hw (fun W o hp=>Wf hp K1) W hW) (fun loc W hW=>qS hw (fun W o hp=>hH hp K1.drained) W hW)
   ·refine fV K hw (fun W o hp=>?_) W hW
    have:=H W o hp
    rw [ep] at this
    exact this
   ·refine qS hw (fun W o hp=>?_) W hW
    have:=Qs hp hK hi 14 vO
    rw [ep] at this
    exact this
  ·have hcf:S.confirm r=(⟨9,0,0,0⟩,S):=by
    unfold Sal.confirm
    rw [hf]
    simp only
    rw [uQ h13]
   exact (Qj x r.kind r.token r.cust r.units r.order _ _ _ _ _ _ w (bne_iff_ne.2 h13) (fun W hW=>H W own (yV h hW))).mono (stay hcf)
 ·have hcf:S.confirm r=(⟨9,0,0,0⟩,S):=by
   unfold Sal.confirm
   cases hf:oM S.os r.cust r.order with
   | none=>rfl
   | some i =>
     obtain ⟨h1,_,_⟩:=fQ ho hf
     simp only
     rw [uQ (fun c=>hn i hf ⟨h1,.inl (.inr c)⟩)]
  exact (Qw x r.kind r.token r.cust r.units r.order w (fun W hW=>H W own (yV h hW))).mono (stay hcf)
theorem Iv (h:QA an x S last w own) (hK:saleK S) (r:Req) (ho:1<=r.order) :
 Ca 98 #[pt x 0,r.val] w fun e w'=>e=.returned (S.cancel r).1.val/\zQ (QA an x (S.cancel r).2 last) w w' own:=by
 have K:=yQ an x S last
 have hw:=K.lt h
 have stay:S.cancel r=(⟨9,0,0,0⟩,S)->∀ (e:Ending) (w':World),e=.returned (.agg #[iv 9,iv 0,iv 0,iv 0])/\Below w.heap.size w w'->e=.returned (S.cancel r).1.val/\zQ (QA an x (S.cancel r).2 last) w w' own:=by
  rintro hc e w' ⟨rfl,hb⟩
  rw [hc]
  exact ⟨rfl,yY K h hb⟩
 rcases Rq (x:=x) (last:=last) (S:=S) (an:=an) r ho with ⟨i,hf,hi,he,H⟩|⟨hn,H⟩
 ·by_cases hal:(S.os.getD i qD).state≠13/\(S.os.getD i qD).state≠12
  ·have hcf:S.cancel r=(⟨9,0,0,0⟩,S):=by
    unfold Sal.cancel
    rw [hf]
    simp only
    rw [uQ hal]
   exact (Vl x r.kind r.token r.cust r.units r.order _ _ _ _ _ _ w (bne_iff_ne.2 hal.1) (bne_iff_ne.2 hal.2) (fun W hW=>H W own (yV h hW))).mono (stay hcf)
  ·have K1:=hK.ends hi.1 16 (.inr vO) (fun c=>absurd c vO)
   have hcf:S.cancel r=(⟨8,(i:Int)+1,0,0⟩,(S.ends i 16).promote):=by
    unfold Sal.cancel
    rw [hf]
    simp only
    rw [uP hal,he]
   rw [hcf]
   by_cases h13:(S.os.getD i qD).state=13
   ·have ep:zO S.C i (S.os.getD i qD)=⟨(i:Int)+1,(S.os.getD i qD).cust,(S.os.getD i qD).units,13,(S.os.getD i qD).cents,(S.os.getD i qD).untl S.C⟩:=by rw [← h13];rfl
    refine Kx x own (QA an x S last) (QA an x (S.ends i 16) last) (QA an x (S.ends i 16).promote last) K (yQ _ _ _ _) r.kind r.token r.cust r.units r.order ((i:Int)+1) (S.os.getD i qD).cust (S.os.getD i qD).units (S.os.getD i qD).cents ((S.os.getD i qD).untl S.C) (S.now+S.C.keep) w hw h (fun loc W hW=>?_) (fun loc W hW=>?_) (fun loc W hW=>qS hw (fun W o hp=>hH hp K1) W hW)
    ·refine fV K hw (fun W o hp=>?_) W hW
     have:=H W o hp
     rw [ep] at this
     exact this
    ·refine qS hw (fun W o hp=>?_) W hW
     have:=Qs hp hK hi 16 vO
     rw [ep] at this
     exact this
   ·have h12:(S.os.getD i qD).state=12:=Classical.byContradiction (fun c=>hal ⟨h13,c⟩)
    have ep:zO S.C i (S.os.getD i qD)=⟨(i:Int)+1,(S.os.getD i qD).cust,(S.os.getD i qD).units,12,(S.os.getD i qD).cents,(S.os.getD i qD).untl S.C⟩:=by rw [← h12];rfl
    refine Ug x own (QA an x S last) (QA an x (S.ends i 16) last) (QA an x (S.ends i 16).promote last) K (yQ _ _ _ _) r.kind r.token r.cust r.units r.order ((i:Int)+1) (S.os.getD i qD).cust (S.os.getD i qD).units (S.os.getD i qD).cents ((S.os.getD i qD).untl S.C) (S.now+S.C.keep) w hw h (fun loc W hW=>?_) (fun loc W hW=>?_) (fun loc W hW=>qS hw (fun W o hp=>hH hp K1) W hW)
    ·refine fV K hw (fun W o hp=>?_) W hW
     have:=H W o hp
     rw [ep] at this
     exact this
    ·refine qS hw (fun W o hp=>?_) W hW
     have:=Qs hp hK hi 16 vO
     rw [ep] at this
     exact this
 ·have hcf:S.cancel r=(⟨9,0,0,0⟩,S):=by
   unfold Sal.cancel
   cases hf:oM S.os r.cust r.order with
   | none=>rfl
   | some i =>
     obtain ⟨h1,_,_⟩:=fQ ho hf
     simp only
     rw [uQ ⟨fun c=>hn i hf ⟨h1,.inl (.inr c)⟩,fun c=>hn i hf ⟨h1,.inl (.inl c)⟩⟩]
  exact (Uh x r.kind r.token r.cust r.units r.order w (fun W hW=>H W own (yV h hW))).mono (stay hcf)
end
end
section
section
variable {w:World} {x:Nat} {own:Nat->Prop} {S:Sal} {last:Nat} {an:Int}
theorem sU (h:QA an x S last w own) (hl:last<=4294967296) (r:Req) :
 Ca 151 #[pt x 0,r.val] w fun e w'=>e=.returned (POrd.val ⟨(last:Int)+1,r.cust,r.units,0,0,0⟩)/\zQ (QA an x S (last+1)) w w' own:=by
 obtain ⟨V,hm,hr,ha,han⟩:=h
 have hv:=hr.last
 refine (Lm r.kind r.token r.cust r.units r.order hm (by rw [hv];omega)).mono ?_
 rintro e w' ⟨rfl,hq⟩
 rw [hv] at hq
 refine ⟨by rw [hv],oV hq ⟨hr.C,hr.now,?_,hr.tn,hr.once,hr.tl,hr.kin,hr.live,hr.ls,hr.ol,hr.turns,hr.sizes,hr.held,hr.sold,hr.lu,hr.cust⟩ ha han⟩
 show (last:Int)+1=((last+1:Nat):Int)
 omega
theorem Tl (h:QA an x S (S.os.length+1) w own) (hK:saleK S) (c u:Int) (hc:c≠0) (hu:1<=u/\u<=4294967296) :
 Ca 136 #[pt x 0,POrd.val ⟨(S.os.length:Int)+1,c,u,0,0,0⟩] w fun e w'=>e=.returned (POrd.val ⟨(S.os.length:Int)+1,c,u,13,S.price,S.now+S.C.lease⟩)/\zQ (QA an x (S.more ⟨c,u,13,S.price,S.now+S.C.lease,0⟩) (S.os.length+1)) w w' own:=by
 have hw:=(yQ an x S (S.os.length+1)).lt h
 refine Po x own (QA an x S (S.os.length+1)) (QA an x (S.more ⟨c,u,13,S.price,S.now+S.C.lease,0⟩) (S.os.length+1)) (yQ _ _ _ _) (yQ _ _ _ _) _ _ _ _ _ _ S.price (S.now+S.C.lease) w hw h (fun W hW=>fT (yQ _ _ _ _) hw (fun W o hp=>Rw hp) W hW) (fun W hW=>oF hw (fun W o hp=>?_) W hW)
 exact Jh hp hK ⟨(S.os.length:Int)+1,c,u,0,S.price,0⟩ rfl rfl hc hu 13 (.inr rfl) _ rfl rfl rfl rfl (by unfold Ord.untl yC;rw [uQ (.inr rfl),uQ rfl])
theorem Wl (h:QA an x S S.os.length w own) (hK:saleK S) (r:Req) (hc:r.cust≠0) (hu:1<=r.units/\r.units<=4294967296) :
 Ca 127 #[pt x 0,r.val] w fun e w'=>e=.returned (Rep.val ⟨2,(S.os.length:Int)+1,S.price,S.now+S.C.lease⟩)/\zQ (QA an x (S.more ⟨r.cust,r.units,13,S.price,S.now+S.C.lease,0⟩) (S.os.length+1)) w w' own:=by
 have hw:=(yQ an x S S.os.length).lt h
 exact Sx x own (QA an x S S.os.length) (QA an x S (S.os.length+1)) (QA an x (S.more ⟨r.cust,r.units,13,S.price,S.now+S.C.lease,0⟩) (S.os.length+1)) (yQ _ _ _ _) (yQ _ _ _ _) (yQ _ _ _ _) r.kind r.token r.cust r.units r.order ((S.os.length:Int)+1) S.price (S.now+S.C.lease) w hw h (fun loc W hW=>qS hw (fun W o hp=>sU hp hK.len r) W hW) (fun loc W hW=>qS hw (fun W o hp=>Tl hp hK r.cust r.units hc hu) W hW)
theorem Ro (h:QA an x S S.os.length w own) (hK:saleK S) (r:Req) (hc:r.cust≠0) (hu:1<=r.units/\r.units<=4294967296) :
 Ca 128 #[pt x 0,r.val] w fun e w'=>e=.returned (Rep.val ⟨3,(S.os.length:Int)+1,0,S.now+S.C.wait⟩)/\zQ (QA an x (S.more ⟨r.cust,r.units,12,0,S.now+S.C.wait,0⟩) (S.os.length+1)) w w' own:=by
 have hw:=(yQ an x S S.os.length).lt h
 refine Nk x own (QA an x S S.os.length) (QA an x S (S.os.length+1)) (QA an x (S.more ⟨r.cust,r.units,12,0,S.now+S.C.wait,0⟩) (S.os.length+1)) (yQ _ _ _ _) (yQ _ _ _ _) (yQ _ _ _ _) r.kind r.token r.cust r.units r.order ((S.os.length:Int)+1) (S.now+S.C.wait) w hw h (fun loc W hW=>qS hw (fun W o hp=>sU hp hK.len r) W hW) (fun loc W hW=>qS hw (fun W o hp=>?_) W hW)
 have:=Jh hp hK ⟨(S.os.length:Int)+1,r.cust,r.units,0,0,0⟩ rfl rfl hc hu 12 (.inl rfl) ⟨r.cust,r.units,12,0,S.now+S.C.wait,0⟩ rfl rfl rfl rfl (by unfold Ord.untl yC;rw [uQ (.inl rfl),uP (show ¬ (12:Int)=13 by decide),uQ rfl])
 rw [show yC S.C 12=S.C.wait by unfold yC;rw [uP (show ¬ (12:Int)=13 by decide),uQ rfl]] at this
 exact this
theorem Qd (h:QA an x S last w own) (c:Int) (hc:c≠0) :
 Ca 41 #[pt x 19,iv c] w fun e w'=>e=.returned (.agg #[iv (qF S.os 13 c),iv (qF S.os 14 c),iv (qF S.os 12 c)])/\Below w.heap.size w w':=by
 obtain ⟨V,⟨g,hm⟩,hr,_⟩:=h
 have:=Hv x 19 g.lu c w (hm.cell 21 _ rfl) hm.lu.1 (by rw [hm.lu.2];exact hr.lu.1)
 rw [hm.lu.2,tJ hr.lu hc (.inr (.inl rfl)),tJ hr.lu hc (.inr (.inr rfl)),tJ hr.lu hc (.inl rfl)] at this
 exact this
theorem Re (h:QA an x S last w own) :
 Ca 39 #[pt x 15] w fun e w'=>e=.returned (iv (qK S.os).length)/\Below w.heap.size w w':=by
 obtain ⟨V,⟨g,hm⟩,hr,_⟩:=h
 have:=Mq x 15 V.qt.length w (hm.cell 16 _ rfl)
 rw [Bm hr.turns] at this
 exact this
theorem dG (h:QA an x S last w own):w.cell? (aq x 1)=some (iv S.C.cap)/\w.cell? (aq x 2)=some (iv S.C.queue)/\w.cell? (aq x 9)=some (iv last)/\w.cell? (aq x 8)=some (iv S.now)/\w.cell? (aq x 5)=some (iv S.C.keep)/\w.cell? (aq x 6)=some (iv S.C.tokens)/\w.cell? (aq x 19)=some (iv (qF S.os 13 0))/\w.cell? (aq x 20)=some (iv (qF S.os 14 0)):=by
 obtain ⟨V,⟨g,hm⟩,hr,_⟩:=h
 have e1:=hm.cell 1 (iv V.C.cap) rfl
 have e2:=hm.cell 2 (iv V.C.queue) rfl
 have e9:=hm.cell 9 (iv V.last) rfl
 have e8:=hm.cell 8 (iv V.now) rfl
 have e5:=hm.cell 5 (iv V.C.keep) rfl
 have e6:=hm.cell 6 (iv V.C.tokens) rfl
 have e19:=hm.cell 19 (iv V.held) rfl
 have e20:=hm.cell 20 (iv V.sold) rfl
 rw [hr.C] at e1 e2 e5 e6
 rw [hr.last] at e9
 rw [hr.now] at e8
 rw [hr.held] at e19
 rw [hr.sold] at e20
 exact ⟨e1,e2,e9,e8,e5,e6,e19,e20⟩
theorem ZH (h:QA an x S S.os.length w own) (hK:saleK S) (hq:((qK S.os).length:Int)<=S.C.queue) (r:Req) (hc:r.cust≠0) (hu:1<=r.units/\r.units<=4294967296) :
 Ca 96 #[pt x 0,r.val] w fun e w'=>e=.returned (S.ask r).1.val/\zQ (QA an x (S.ask r).2 (S.ask r).2.os.length) w w' own:=by
 have K:=yQ an x S S.os.length
 have hw:=K.lt h
 obtain ⟨x1,x2,x9,_⟩:=dG h
 have b13:=mP hK.I (st:=13) (c:=r.cust) (.inr (.inl rfl)) (.inl hc)
 have b14:=mP hK.I (st:=14) (c:=r.cust) (.inr (.inr rfl)) (.inl hc)
 have b12:=mP hK.I (st:=12) (c:=r.cust) (.inl rfl) (.inl hc)
 have l13:=dU hK.I 13 r.cust
 have l14:=dU hK.I 14 r.cust
 have l12:=dU hK.I 12 r.cust
 have hqn:((qK S.os).length:Int)=0↔qK S.os=[]:=by
  rw [← List.length_eq_zero_iff];omega
 have H:=Ej x own (QA an x S S.os.length) (QA an x (S.more ⟨r.cust,r.units,13,S.price,S.now+S.C.lease,0⟩) (S.os.length+1)) (QA an x (S.more ⟨r.cust,r.units,12,0,S.now+S.C.wait,0⟩) (S.os.length+1)) K (yQ _ _ _ _) (yQ _ _ _ _)
  (fun v W=>v=(S.ask r).1.val/\zQ (QA an x (S.ask r).2 (S.ask r).2.os.length) w W own)
  r.kind r.token r.cust r.units r.order (qF S.os 13 r.cust) (qF S.os 14 r.cust) (qF S.os 12 r.cust) (qK S.os).length S.left S.free S.C.cap S.os.length S.C.queue 2 ((S.os.length:Int)+1) S.price (S.now+S.C.lease) 3 ((S.os.length:Int)+1) 0 (S.now+S.C.wait) w
  (yA uO uO) (yA uO uO) (yA uO uO) hw h x1 x2 x9
  (S.C.cap<qF S.os 13 r.cust+qF S.os 14 r.cust+qF S.os 12 r.cust+r.units) (S.left<r.units) (4294967296<=S.os.length) (qK S.os=[]/\r.units<=S.free) (((qK S.os).length:Int)=S.C.queue)
  Iff.rfl Iff.rfl (show _↔_ by omega) (show _↔_ by rw [hqn]) (show _↔_ by omega)
  (fun W hW=>Qd (yV h hW) r.cust hc) (fun W hW=>Re (yV h hW)) (fun W hW=>Pq (yV h hW) hK) (fun W hW=>Ai (yV h hW) hK)
  (fun c1 W hW=>by
    have e:S.ask r=(⟨4,0,0,0⟩,S):=by unfold Sal.ask;rw [uQ c1]
    rw [e];exact ⟨rfl,yY K h hW⟩)
  (fun c1 c2 W hW=>by
    have e:S.ask r=(⟨5,0,0,0⟩,S):=by unfold Sal.ask;rw [uP c1,uQ c2]
    rw [e];exact ⟨rfl,yY K h hW⟩)
  (fun c1 c2 c3 W hW=>by
    have e:S.ask r=(⟨6,0,0,0⟩,S):=by unfold Sal.ask;rw [uP c1,uP c2,uQ c3]
    rw [e];exact ⟨rfl,yY K h hW⟩)
  (fun c1 c2 c3 c4=>⟨fun loc W hW=>qS hw (fun W o hp=>Wl hp hK r hc hu) W hW,fun W ha=>by
    obtain ⟨e1,e2⟩:=lY S r.cust r.units
    rw [e2] at e1
    have e:S.ask r=(⟨2,(S.os.length:Int)+1,S.price,S.now+S.C.lease⟩,S.more ⟨r.cust,r.units,13,S.price,S.now+S.C.lease,0⟩):=by
     unfold Sal.ask
     rw [uP c1,uP c2,uP c3,uQ c4,e1]
     congr 2
     show ((S.os++[_]).getD S.os.length qD).cents=_
     rw [yI uO,uQ rfl]
    rw [e]
    refine ⟨rfl,?_⟩
    rw [show (S.more ⟨r.cust,r.units,13,S.price,S.now+S.C.lease,0⟩).os.length=S.os.length+1 by simp [Sal.more]]
    exact ha⟩)
  (fun c1 c2 c3 c4 c5 W hW=>by
    have e:S.ask r=(⟨6,0,0,0⟩,S):=by unfold Sal.ask;rw [uP c1,uP c2,uP c3,uP c4,uQ c5]
    rw [e];exact ⟨rfl,yY K h hW⟩)
  (fun c1 c2 c3 c4 c5=>⟨fun loc W hW=>qS hw (fun W o hp=>Ro hp hK r hc hu) W hW,fun W ha=>by
    have e:S.ask r=(⟨3,(S.os.length:Int)+1,0,S.now+S.C.wait⟩,S.more ⟨r.cust,r.units,12,0,S.now+S.C.wait,0⟩):=by unfold Sal.ask;rw [uP c1,uP c2,uP c3,uP c4,uP c5]
    rw [e]
    refine ⟨rfl,?_⟩
    rw [show (S.more ⟨r.cust,r.units,12,0,S.now+S.C.wait,0⟩).os.length=S.os.length+1 by simp [Sal.more]]
    exact ha⟩)
 refine H.mono ?_
 rintro e w' ⟨v,rfl,rfl,ha⟩
 exact ⟨rfl,ha⟩
theorem Kn (S:Sal) (r:Req):(S.confirm r).2.os.length=S.os.length:=by
 unfold Sal.confirm
 split
 ·rfl
 ·split
  ·rfl
  ·show (Sal.promote _).os.length=_
   rw [jL,aJ,jU]
theorem Do (S:Sal) (r:Req):(S.cancel r).2.os.length=S.os.length:=by
 unfold Sal.cancel
 split
 ·rfl
 ·split
  ·rfl
  ·show (Sal.promote _).os.length=_
   rw [jL,jU]
theorem ZS (h:QA an x S S.os.length w own) (hK:saleK S) (hq:((qK S.os).length:Int)<=S.C.queue) (r:Req) (h1:r.kind=1->r.cust≠0/\1<=r.units/\r.units<=4294967296) (h2:r.kind≠1->1<=r.order) :
 Ca 68 #[pt x 0,r.val] w fun e w'=>e=.returned (S.doS r).1.val/\zQ (QA an x (S.doS r).2 (S.doS r).2.os.length) w w' own:=by
 have K:=yQ an x S S.os.length
 have hw:=K.lt h
 obtain ⟨k,t,c,u,o⟩:=r
 by_cases e1:k=1
 ·subst e1
  have e:S.doS ⟨1,t,c,u,o⟩=S.ask ⟨1,t,c,u,o⟩:=by unfold Sal.doS;rw [uQ rfl]
  rw [e]
  obtain ⟨q1,q2⟩:=h1 rfl
  exact ZA x own (QA an x S S.os.length) _ K (yQ _ _ _ _) t c u o _ _ _ _ w hw h (fun loc W hW=>qS hw (fun W o hp=>ZH hp hK hq _ q1 q2) W hW)
 ·have h2':=h2 e1
  by_cases e2:k=2
  ·subst e2
   have e:S.doS ⟨2,t,c,u,o⟩=S.confirm ⟨2,t,c,u,o⟩:=by unfold Sal.doS;rw [uP (show ¬ (2:Int)=1 by decide),uQ rfl]
   rw [e,Kn]
   exact Hw x own (QA an x S S.os.length) _ K (yQ _ _ _ _) t c u o _ _ _ _ w hw h (fun loc W hW=>qS hw (fun W o hp=>Rg hp hK _ h2') W hW)
  ·have e:S.doS ⟨k,t,c,u,o⟩=S.cancel ⟨k,t,c,u,o⟩:=by unfold Sal.doS;rw [uP e1,uP e2]
   rw [e,Do]
   exact Rr x own (QA an x S S.os.length) _ K (yQ _ _ _ _) k t c u o _ _ _ _ w (by simpa using e1) (by simpa using e2) hw h (fun loc W hW=>qS hw (fun W o hp=>Iv hp hK _ h2') W hW)
end
end
section
structure restP (S:Sal):Prop where
 R:restS S
 qlen:((qK S.os).length:Int)<=S.C.queue
 alen:(S.answers:Int)<=S.C.tokens
theorem Uo {S:Sal} (hl:1<=S.C.lease) (h:∀ o∈S.os,o.alive->S.now<o.upto):∀ o∈S.promote.os,o.alive->S.now<o.upto :=
 mX (Q:=fun o=>o.alive->S.now<o.upto) S (fun o c _ _ _=>by show S.now<S.now+S.C.lease;omega) h
theorem Oc {S:Sal} {i:Nat} {st:Int} (hst:st≠12/\st≠13) (h:∀ o∈S.os,o.alive->S.now<o.upto):∀ o∈(S.ends i st).os,o.alive->S.now<o.upto:=by
 intro o ho ha
 rcases nF (show o∈S.os.set i _ from ho) with rfl|ho
 ·exact absurd ha (fun c=>c.elim hst.1 hst.2)
 ·exact h o ho ha
theorem iQ {S:Sal} (h:∀ o∈S.os,o.alive->S.now<o.upto):∀ o∈S.drained.os,o.alive->S.now<o.upto:=by
 intro o ho ha
 obtain ⟨p,hp,rfl⟩:=List.mem_map.1 (show o∈S.os.map (QL S.left S.now) from ho)
 unfold QL at ha ⊢
 split
 ·next hc=>rw [uQ hc] at ha;exact absurd ha (fun c=>c.elim (show ¬ (18:Int)=12 by decide) (show ¬ (18:Int)=13 by decide))
 ·next hc=>rw [uP hc] at ha;exact h p hp ha
theorem tO:∀ (n:Nat) (S:Sal),(qK (yJ n S).os).length<=(qK S.os).length
 | 0,_=>uA _
 | n+1,S=>by
   unfold yJ
   split
   ·exact uA _
   ·next q qs hq =>
    split
    ·exact uA _
    ·refine uX (tO n _) ?_
     rw [dE hq,hq]
     simp
theorem cC (S:Sal):(qK S.promote.os).length<=(qK S.os).length:=tO _ S
theorem rD {S:Sal} {i:Nat} (hi:i<S.os.length) {st:Int} (hst:st≠12):(qK (S.ends i st).os).length<=(qK S.os).length:=by
 show (qK (S.os.set i _)).length<=_
 rw [iX _ hi hst]
 exact List.length_filter_le _ _
theorem nQ:∀ (qs:List Nat) (S:Sal),(∀ q∈qs,q<S.os.length)->(qK (yM S qs).os).length<=(qK S.os).length
 | [],_,_=>uA _
 | q :: qs,S,h=>by
   have e:yM S (q :: qs)=yM (if S.left<(S.os.getD q qD).units then S.ends q 18 else S) qs:=rfl
   rw [e]
   split
   ·exact uX (nQ qs _ (fun x hx=>by rw [jU];exact h x (List.mem_cons_of_mem _ hx))) (rD (h q List.mem_cons_self) vO)
   ·exact nQ qs _ (fun x hx=>h x (List.mem_cons_of_mem _ hx))
theorem bV (S:Sal):(qK S.drained.os).length<=(qK S.os).length:=by
 rw [← xL]
 exact nQ _ S (fun q hq=>dD S.os _ q hq)
theorem fB {S T:Sal} (h:restP S) (hC:T.C=S.C) (hn:T.now=S.now) (ha:T.ansL=S.ansL) (hf:∀ o∈T.os,o.alive->T.now<o.upto) (hq:(qK T.os).length<=(qK S.os).length):restP T.promote:=by
 obtain ⟨a,b,c⟩:=oH T
 have hR:=h.R
 refine ⟨⟨?_,mT T,?_,?_,?_,?_,?_⟩,?_,?_⟩
 ·rw [b];exact Uo (by rw [hC];exact hR.lease.1) hf
 ·rw [a,hC];exact hR.lease
 ·rw [a,hC];exact hR.wait
 ·rw [a,hC];exact hR.keep
 ·rw [a,hC];exact hR.tokens
 ·rw [a,hC];exact hR.queue
 ·have h1:=cC T
  have h2:=h.qlen
  rw [a,hC]
  omega
 ·have:T.promote.answers=S.answers:=by unfold Sal.answers Sal.remem;rw [c,ha,b,hn,a,hC]
  rw [this,a,hC]
  exact h.alen
theorem Ja {S:Sal} (h:restP S) (r:Req):restP (S.confirm r).2:=by
 unfold Sal.confirm
 split
 ·exact h
 ·next i hf =>
  split
  ·exact h
  ·by_cases hi:i<S.os.length
   ·have hl:=hi
    obtain ⟨d,e,f⟩:=dK (qK (S.ends i 14).os) (S.ends i 14)
    refine fB h d e f ?_ ?_
    ·rw [e,xL]
     exact iQ (S:=S.ends i 14) (Oc vO h.R.fut)
    ·rw [xL]
     exact uX (bV _) (rD hl vO)
   ·have e1:S.ends i 14=S:=by
     unfold Sal.ends Sal.put
     rw [List.set_eq_of_length_le (Nat.le_of_not_lt hi)]
    obtain ⟨d,e,f⟩:=dK (qK (S.ends i 14).os) (S.ends i 14)
    refine fB h d e f ?_ ?_
    ·rw [e,xL,e1]
     exact iQ h.R.fut
    ·rw [xL,e1]
     exact bV _
theorem Vf {S:Sal} (h:restP S) (r:Req):restP (S.cancel r).2:=by
 unfold Sal.cancel
 split
 ·exact h
 ·next i hf =>
  split
  ·exact h
  ·by_cases hi:i<S.os.length
   ·exact fB (T:=S.ends i 16) h rfl rfl rfl (Oc vO h.R.fut) (rD hi vO)
   ·have e1:S.ends i 16=S:=by
     unfold Sal.ends Sal.put
     rw [List.set_eq_of_length_le (Nat.le_of_not_lt hi)]
    rw [e1]
    exact fB (T:=S) h rfl rfl rfl h.R.fut (uA _)
theorem Bv {S:Sal} (h:restP S) (r:Req):restP (S.ask r).2:=by
 have hR:=h.R
 unfold Sal.ask
 split
 ·exact h
 split
 ·exact h
 split
 ·exact h
 split
 ·next hq =>
  obtain ⟨e1,e2⟩:=lY S r.cust r.units
  show restP ((S.more ⟨r.cust,r.units,0,0,0,0⟩).holds S.os.length)
  rw [e1,e2]
  have hqs:qK (S.more ⟨r.cust,r.units,13,S.price,S.now+S.C.lease,0⟩).os=[]:=by
   show qK (S.os++[_])=_
   rw [wH,uP (show ¬ (13:Int)=12 by decide)]
   exact hq.1
  refine ⟨⟨fun o ho ha=>?_,fun q qs c=>(by rw [hqs] at c;cases c),hR.lease,hR.wait,hR.keep,hR.tokens,hR.queue⟩,?_,h.alen⟩
  ·rcases List.mem_append.1 (show o∈S.os++[_] from ho) with ho|ho
   ·exact hR.fut o ho ha
   ·have e:o=⟨r.cust,r.units,13,S.price,S.now+S.C.lease,0⟩:=by simpa using ho
    rw [e]
    show S.now<S.now+S.C.lease
    have:=hR.lease.1
    omega
  ·rw [hqs]
   have:=hR.queue.1
   show ((0:Nat):Int)<=S.C.queue
   omega
 split
 ·exact h
 ·next c1 c2 c3 c4 c5 =>
  have hqs:qK (S.more ⟨r.cust,r.units,12,0,S.now+S.C.wait,0⟩).os=qK S.os++[S.os.length]:=by
   show qK (S.os++[_])=_
   rw [wH,uQ rfl]
  have hfree:(S.more ⟨r.cust,r.units,12,0,S.now+S.C.wait,0⟩).free=S.free:=by
   unfold Sal.free Sal.left
   show S.C.stock - qF (S.os++[_]) 14 0 - qF (S.os++[_]) 13 0=_
   rw [jE,jE,pG,pG,uP (show ¬ (12:Int)=14 by decide),uP (show ¬ (12:Int)=13 by decide)]
   omega
  refine ⟨⟨fun o ho ha=>?_,fun q qs c=>?_,hR.lease,hR.wait,hR.keep,hR.tokens,hR.queue⟩,?_,h.alen⟩
  ·rcases List.mem_append.1 (show o∈S.os++[_] from ho) with ho|ho
   ·exact hR.fut o ho ha
   ·have e:o=⟨r.cust,r.units,12,0,S.now+S.C.wait,0⟩:=by simpa using ho
    rw [e]
    show S.now<S.now+S.C.wait
    have:=hR.wait.1
    omega
  ·rw [hfree]
   rw [hqs] at c
   cases hq:qK S.os with
   | nil =>
     rw [hq] at c
     simp at c
     rw [← c.1]
     show S.free<((S.os++[_]).getD S.os.length qD).units
     rw [yI uO,uQ rfl]
     show S.free<r.units
     have:¬ r.units<=S.free:=fun d=>c4 ⟨hq,d⟩
     omega
   | cons q' qs' =>
     rw [hq] at c
     simp at c
     rw [← c.1]
     obtain ⟨_,hl,_⟩:=jY hq qD vO
     show S.free<((S.os++[_]).getD q' qD).units
     rw [yI uO,uP uO]
     exact hR.stable q' qs' hq
  ·rw [hqs]
   have:=h.qlen
   show (((qK S.os++[S.os.length]).length:Nat):Int)<=S.C.queue
   rw [List.length_append]
   simp
   omega
theorem Bi {S:Sal} (h:restP S) (r:Req):restP (S.doS r).2:=by
 unfold Sal.doS
 split
 ·exact Bv h r
 split
 ·exact Ja h r
 ·exact Vf h r
theorem Py {a b:List Int} (ha:∀ x∈a,0<=x/\x<256) (hb:∀ x∈b,0<=x/\x<256) (h:strOfNums a=strOfNums b):a=b:=by
 refine Yk a b ha hb ?_
 have:=congrArg (fun s:ByteArray=>s.data.toList) h
 simpa [strOfNums] using this
section
variable {an:Int} {atl:List (Int × Int)} {att:List Ent} {al:List PAns} {keep:Int} {ansL:List Ans}
theorem relA.count (h:relA an atl att al keep ansL):al.length=(ansL.filter (fun a=>decide (an<a.at'+keep))).length:=by
 have mem:∀ t,t∈(ansL.filter (fun a=>decide (an<a.at'+keep))).map Ans.token↔∃ j,j<ansL.length/\an<(ansL.getD j zU).at'+keep/\t=(ansL.getD j zU).token:=by
  intro t
  rw [List.mem_map]
  constructor
  ·rintro ⟨a,ha,rfl⟩
   obtain ⟨h1,h2⟩:=List.mem_filter.1 ha
   obtain ⟨j,hj,rfl⟩:=List.getElem_of_mem h1
   have e:ansL.getD j zU=ansL[j]:=by simp [List.getD,uD hj]
   exact ⟨j,hj,by rw [e];simpa using h2,by rw [e]⟩
  ·rintro ⟨j,hj,h2,rfl⟩
   have e:ansL.getD j zU=ansL[j]:=by simp [List.getD,uD hj]
   exact ⟨ansL.getD j zU,List.mem_filter.2 ⟨by rw [e];exact List.getElem_mem hj,by simpa using h2⟩,rfl⟩
 have n2:((ansL.filter (fun a=>decide (an<a.at'+keep))).map Ans.token).Nodup:=by
  have key:∀ (l:List Ans),(∀ i j,i<l.length->j<l.length->an<(l.getD i zU).at'+keep->an<(l.getD j zU).at'+keep->(l.getD i zU).token=(l.getD j zU).token->i=j)->((l.filter (fun a=>decide (an<a.at'+keep))).map Ans.token).Nodup:=by
   intro l
   induction l with
   | nil=>intro _;simp
   | cons a l ih =>
     intro hu
     have ihl:=ih (fun i j hi hj h1 h2 h3=>by
      have:=hu (i+1) (j+1) (by simpa using hi) (by simpa using hj) h1 h2 h3
      omega)
     rw [List.filter_cons]
     split
     ·next ha =>
      rw [List.map_cons,List.nodup_cons]
      refine ⟨fun hm=>?_,ihl⟩
      obtain ⟨b,hb,e⟩:=List.mem_map.1 hm
      obtain ⟨h1,h2⟩:=List.mem_filter.1 hb
      obtain ⟨j,hj,rfl⟩:=List.getElem_of_mem h1
      have e2:l.getD j zU=l[j]:=by simp [List.getD,uD hj]
      have:=hu 0 (j+1) vS (by simpa using hj) (by simpa using ha) (by show an<(l.getD j zU).at'+keep;rw [e2];simpa using h2) (by show a.token=(l.getD j zU).token;rw [e2];exact e.symm)
      omega
     ·exact ihl
  exact key ansL h.uniq
 have l1:=yK (al.map PAns.t) _ h.ls.once (fun t ht=>(mem t).2 (by
  obtain ⟨a,ha,rfl⟩:=List.mem_map.1 ht
  obtain ⟨j,a1,a2,a3⟩:=h.al a ha
  exact ⟨j,a1,a2,a3⟩))
 have l2:=yK _ (al.map PAns.t) n2 (fun t ht=>by
  obtain ⟨j,a1,a2,rfl⟩:=(mem t).1 ht
  obtain ⟨a,ha,e,_⟩:=h.reqs j a1 a2
  exact List.mem_map.2 ⟨a,ha,e⟩)
 simp only [List.length_map] at l1 l2
 omega
theorem relA.add (h:relA an atl att al keep ansL) (a:PAns) (now:Int) (han:an=now) (hk:1<=keep) (hb:QH a.k a.t a.c a.u a.o=true) (hn:∀ j,j<ansL.length->an<(ansL.getD j zU).at'+keep->(ansL.getD j zU).token≠a.t) :
 relA an (vI an atl a.t (now+keep)) (zD (a.t,0) al.length att) (al++[a]) keep (ansL++[⟨strOfNums (qE a.k (qT a.k a.t a.c a.u a.o)),a.t,⟨a.rk,a.ro,a.rc,a.ru⟩,now⟩]):=by
 have hg:∀ j,j<ansL.length+1->(ansL++[(⟨strOfNums (qE a.k (qT a.k a.t a.c a.u a.o)),a.t,⟨a.rk,a.ro,a.rc,a.ru⟩,now⟩:Ans)]).getD j zU=if j=ansL.length then ⟨strOfNums (qE a.k (qT a.k a.t a.c a.u a.o)),a.t,⟨a.rk,a.ro,a.rc,a.ru⟩,now⟩ else ansL.getD j zU:=by
  intro j hj
  simp only [List.getD]
  by_cases e:j=ansL.length
  ·subst e;simp
  ·rw [uP e,List.getElem?_append_left uO]
 generalize hA:(⟨strOfNums (qE a.k (qT a.k a.t a.c a.u a.o)),a.t,⟨a.rk,a.ro,a.rc,a.ru⟩,now⟩:Ans)=A at hg
 have ht:A.token=a.t:=by rw [← hA]
 have hat:A.at'=now:=by rw [← hA]
 have hal:∀ b∈al,b.t≠a.t:=fun b hb' e=>by
  obtain ⟨j,j1,j2,j3⟩:=h.al b hb'
  exact hn j j1 j2 (by rw [← j3,e])
 have hx:¬ 0<=gY atl a.t:=by
  rw [mA]
  rintro ⟨p,hp,e⟩
  obtain ⟨j,j1,j2,rfl⟩:=(h.tl p).1 hp
  exact hn j j1 j2 e
 have hset:vI an atl a.t (now+keep)=atl++[(now+keep,a.t)]:=by
  unfold vI
  rw [uP uO,uP hx]
 refine ⟨rH h.once,eW h.ls hal,fun j hj hm=>?_,fun i j hi hj h1 h2 h3=>?_,fun b hb'=>?_,fun p=>?_⟩
 ·simp only [List.length_append,List.length_singleton] at hj
  rw [hg j hj] at hm ⊢
  by_cases e:j=ansL.length
  ·rw [uQ e]
   exact ⟨a,by simp,by rw [ht],hb,by rw [← hA],by rw [← hA]⟩
  ·rw [uP e] at hm ⊢
   obtain ⟨b,q1,q2⟩:=h.reqs j uO hm
   exact ⟨b,List.mem_append_left _ q1,q2⟩
 ·simp only [List.length_append,List.length_singleton] at hi hj
  rw [hg i hi] at h1 h3
  rw [hg j hj] at h2 h3
  by_cases e1:i=ansL.length<;>by_cases e2:j=ansL.length
  ·omega
  ·rw [uQ e1] at h3;rw [uP e2] at h2 h3
   exact absurd (h3.symm.trans ht) (hn j uO h2)
  ·rw [uP e1] at h1 h3;rw [uQ e2] at h3
   exact absurd (h3.trans ht) (hn i uO h1)
  ·rw [uP e1] at h1 h3;rw [uP e2] at h2 h3
   exact h.uniq i j uO uO h1 h2 h3
 ·rcases List.mem_append.1 hb' with hb'|hb'
  ·obtain ⟨j,j1,j2,j3⟩:=h.al b hb'
   exact ⟨j,by simp;omega,by rw [hg j uO,uP uO];exact j2,by rw [hg j uO,uP uO];exact j3⟩
  ·have e:b=a:=by simpa using hb'
   rw [e]
   exact ⟨ansL.length,by simp,by rw [hg _ uO,uQ rfl,hat];omega,by rw [hg _ uO,uQ rfl,ht]⟩
 ·rw [hset,List.mem_append,h.tl]
  constructor
  ·rintro (⟨j,j1,j2,rfl⟩|hp)
   ·exact ⟨j,by simp;omega,by rw [hg j uO,uP uO];exact j2,by rw [hg j uO,uP uO]⟩
   ·have e:p=(now+keep,a.t):=by simpa using hp
    rw [e]
    exact ⟨ansL.length,by simp,by rw [hg _ uO,uQ rfl,hat];omega,by rw [hg _ uO,uQ rfl,hat,ht]⟩
  ·rintro ⟨j,j1,j2,rfl⟩
   simp only [List.length_append,List.length_singleton] at j1
   rw [hg j j1] at j2 ⊢
   by_cases e:j=ansL.length
   ·rw [uQ e,hat,ht]
    exact .inr vS
   ·rw [uP e] at j2 ⊢
    exact .inl ⟨j,uO,j2,rfl⟩
end
end
