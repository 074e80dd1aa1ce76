import Derived.Test.YtfhncfghblkgeaaGreatL39
import Derived.Test.YtfhncfghblkgeaaGreatL40
set_option maxRecDepth 100000
set_option maxHeartbeats 2000000
namespace Go.Proofs.YtfhncfghblkgeaaGreat
open Go.RowKit
theorem jnx {P:World->(Nat->Prop)->Prop} {w W:World} {own loc:Nat->Prop} (K:Keeps P) (h:jal P w own loc W) (hw:∀ k,own k->k<w.heap.size) {b:Nat} (hb:loc b) (v0 v1 v2 v3 v4 v5:Value):jal P w own loc ((((((W.setCell (aq b 0) v0).setCell (aq b 1) v1).setCell (aq b 2) v2).setCell (aq b 3) v3).setCell (aq b 4) v4).setCell (aq b 5) v5) :=
 jd5 K (jd5 K (jd5 K (jd5 K (jd5 K (jd5 K h hw hb v0) hw hb v1) hw hb v2) hw hb v3) hw hb v4) hw hb v5
theorem qet (x:Nat) (own:Nat->Prop) (P0 P1 P2:World->(Nat->Prop)->Prop) (K0:Keeps P0) (K1:Keeps P1) (K2:Keeps P2) (k t c u o num pr up:Int) (w:World) (hw:∀ k,own k->k<w.heap.size) (h:P0 w own)
 (HN:Hid (jck w own P0 P1 169 #[pt x 0,.agg #[iv k,iv t,iv c,iv u,iv o]] (.agg #[iv num,iv c,iv u,iv 0,iv 0,iv 0])))
 (H0:Hid (jck w own P1 P2 162 #[pt x 0,.agg #[iv num,iv c,iv u,iv 0,iv 0,iv 0]] (.agg #[iv num,iv c,iv u,iv 13,iv pr,iv up]))) :
 Calls Tryz.prog 155 #[pt x 0,.agg #[iv k,iv t,iv c,iv u,iv o]] w fun e w'=>e=.returned (.agg #[iv 2,iv num,iv pr,iv up])/\jbq P2 w w' own:=by
 replace hw:Hid _:=hw
 go_enter Tryz.func155,Tryz.ntmps155
 have hT0:Hid (jal P0 w own (fun j=>j=w.heap.size\/j=w.heap.size+1) ((w.alloc (.cells #[iv k,iv t,iv c,iv u,iv o] 46)).alloc (.cells #[iv 0,iv 0,iv 0,iv 0] 42))):=jat K0 h (((Below.refl _ _).alloc (Nat.le_refl _) _).alloc (by simp) _) (fun j e=>by rcases e with e|e<;>(subst e;simp;try omega))
 have rb0:Hid (((w.alloc (.cells #[iv k,iv t,iv c,iv u,iv o] 46)).alloc (.cells #[iv 0,iv 0,iv 0,iv 0] 42)).heap[w.heap.size+1]?=some (.cells #[iv 0,iv 0,iv 0,iv 0] 42 (0,0))):=by
  have h:=heap_alloc_new (w.alloc (.cells #[iv k,iv t,iv c,iv u,iv o] 46)) (.cells #[iv 0,iv 0,iv 0,iv 0] 42)
  rwa [show (w.alloc (.cells #[iv k,iv t,iv c,iv u,iv o] 46)).heap.size=w.heap.size+1 by simp] at h
 clear h
 go_wp2_with fail
 generalize (w.alloc (.cells #[iv k,iv t,iv c,iv u,iv o] 46)).alloc (.cells #[iv 0,iv 0,iv 0,iv 0] 42)=W0 at hT0 rb0 ⊢
 refine (HN.out _ _ hT0.out).mono ?_
 rintro e W1 ⟨rfl,hT1,hk⟩
 have rb1:Hid (W1.heap[w.heap.size+1]?=some (.cells #[iv 0,iv 0,iv 0,iv 0] 42 (0,0))):=(hk _ (.inr rfl)).trans rb0.out
 have lv1:w.heap.size+1<W1.heap.size:=(blt rb1.out)
 have hT2:Hid (jal P1 w own (fun j=>(j=w.heap.size\/j=w.heap.size+1)\/j=W1.heap.size) (W1.alloc (.cells #[iv num,iv c,iv u,iv 0,iv 0,iv 0] 184))):=jcv K1 hT1 _
 have ob2:Hid ((W1.alloc (.cells #[iv num,iv c,iv u,iv 0,iv 0,iv 0] 184)).heap[W1.heap.size]?=some (.cells #[iv num,iv c,iv u,iv 0,iv 0,iv 0] 184 (0,0))):=heap_alloc_new W1 _
 have rb2:Hid ((W1.alloc (.cells #[iv num,iv c,iv u,iv 0,iv 0,iv 0] 184)).heap[w.heap.size+1]?=some (.cells #[iv 0,iv 0,iv 0,iv 0] 42 (0,0))):=(Below.heap_alloc _ _ _ lv1).trans rb1.out
 clear hk hT0 hT1 rb0 rb1 lv1
 go_wp2_with fail
 refine (H0.out _ _ hT2.out).mono ?_
 rintro e W2 ⟨rfl,hT3,hk⟩
 have ob3:=(hk _ (.inr rfl)).trans ob2.out
 have rb3:Hid (W2.heap[w.heap.size+1]?=some (.cells #[iv 0,iv 0,iv 0,iv 0] 42 (0,0))):=(hk _ (.inl (.inr rfl))).trans rb2.out
 have lo:W1.heap.size<W2.heap.size:=(blt ob3)
 have lv:w.heap.size+1<W2.heap.size:=(blt rb3.out)
 have lne:w.heap.size+1≠W1.heap.size:=by
  intro e
  have:=(hk (w.heap.size+1) (.inl (.inr rfl))).trans rb2.out
  rw [e,ob3] at this
  simp at this
 have HE:Hid (∀ a0 a1 a2 a3 a4 a5 v0 v1 v2 v3,jbq P2 w (((((((((((W2.setCell (aq W1.heap.size 0) a0).setCell (aq W1.heap.size 1) a1).setCell (aq W1.heap.size 2) a2).setCell (aq W1.heap.size 3) a3).setCell (aq W1.heap.size 4) a4).setCell (aq W1.heap.size 5) a5).setCell (aq (w.heap.size+1) 0) v0).setCell (aq (w.heap.size+1) 1) v1).setCell (aq (w.heap.size+1) 2) v2).setCell (aq (w.heap.size+1) 3) v3)) own):=fun a0 a1 a2 a3 a4 a5 v0 v1 v2 v3=>jbe (jbu K2 (jnx K2 hT3 hw.out (.inr rfl) a0 a1 a2 a3 a4 a5) hw.out (.inl (.inr rfl)) v0 v1 v2 v3)
 obtain ⟨r0,r1,r2,r3⟩:=ja2 rb3.out
 obtain ⟨s0,s1,s2,s3,s4,s5⟩:=ja1 ob3
 have g0:=ja0 rb3.out 0
 have g1:=ja0 rb3.out 1
 have g2:=ja0 rb3.out 2
 have g3:=ja0 rb3.out 3
 have f0:=ja0 ob3 0
 have f1:=ja0 ob3 1
 have f2:=ja0 ob3 2
 have f3:=ja0 ob3 3
 have f4:=ja0 ob3 4
 have f5:=ja0 ob3 5
 clear hk hT3 hT2 ob2 rb2 ob3
 go_wp2
 refine bodyPost_ret (v:=.agg #[iv 2,iv num,iv pr,iv up]) (by simp [results,Tryz.results155,go_sem,r0,r1,r2,r3]) rfl ⟨rfl,?_⟩
 exact HE.out _ _ _ _ _ _ _ _ _ _
theorem jyd (x:Nat) (own:Nat->Prop) (P0 P1 P2:World->(Nat->Prop)->Prop) (K0:Keeps P0) (K1:Keeps P1) (K2:Keeps P2) (k t c u o num up:Int) (w:World) (hw:∀ k,own k->k<w.heap.size) (h:P0 w own)
 (HN:Hid (jck w own P0 P1 169 #[pt x 0,.agg #[iv k,iv t,iv c,iv u,iv o]] (.agg #[iv num,iv c,iv u,iv 0,iv 0,iv 0])))
 (H0:Hid (jck w own P1 P2 157 #[pt x 0,.agg #[iv num,iv c,iv u,iv 0,iv 0,iv 0],iv 12] (.agg #[iv num,iv c,iv u,iv 12,iv 0,iv up]))) :
 Calls Tryz.prog 156 #[pt x 0,.agg #[iv k,iv t,iv c,iv u,iv o]] w fun e w'=>e=.returned (.agg #[iv 3,iv num,iv 0,iv up])/\jbq P2 w w' own:=by
 replace hw:Hid _:=hw
 go_enter Tryz.func156,Tryz.ntmps156
 have hT0:Hid (jal P0 w own (fun j=>j=w.heap.size\/j=w.heap.size+1) ((w.alloc (.cells #[iv k,iv t,iv c,iv u,iv o] 46)).alloc (.cells #[iv 0,iv 0,iv 0,iv 0] 42))):=jat K0 h (((Below.refl _ _).alloc (Nat.le_refl _) _).alloc (by simp) _) (fun j e=>by rcases e with e|e<;>(subst e;simp;try omega))
 have rb0:Hid (((w.alloc (.cells #[iv k,iv t,iv c,iv u,iv o] 46)).alloc (.cells #[iv 0,iv 0,iv 0,iv 0] 42)).heap[w.heap.size+1]?=some (.cells #[iv 0,iv 0,iv 0,iv 0] 42 (0,0))):=by
  have h:=heap_alloc_new (w.alloc (.cells #[iv k,iv t,iv c,iv u,iv o] 46)) (.cells #[iv 0,iv 0,iv 0,iv 0] 42)
  rwa [show (w.alloc (.cells #[iv k,iv t,iv c,iv u,iv o] 46)).heap.size=w.heap.size+1 by simp] at h
 clear h
 go_wp2_with fail
 generalize (w.alloc (.cells #[iv k,iv t,iv c,iv u,iv o] 46)).alloc (.cells #[iv 0,iv 0,iv 0,iv 0] 42)=W0 at hT0 rb0 ⊢
 refine (HN.out _ _ hT0.out).mono ?_
 rintro e W1 ⟨rfl,hT1,hk⟩
 have rb1:Hid (W1.heap[w.heap.size+1]?=some (.cells #[iv 0,iv 0,iv 0,iv 0] 42 (0,0))):=(hk _ (.inr rfl)).trans rb0.out
 have lv1:w.heap.size+1<W1.heap.size:=(blt rb1.out)
 have hT2:Hid (jal P1 w own (fun j=>(j=w.heap.size\/j=w.heap.size+1)\/j=W1.heap.size) (W1.alloc (.cells #[iv num,iv c,iv u,iv 0,iv 0,iv 0] 184))):=jcv K1 hT1 _
 have ob2:Hid ((W1.alloc (.cells #[iv num,iv c,iv u,iv 0,iv 0,iv 0] 184)).heap[W1.heap.size]?=some (.cells #[iv num,iv c,iv u,iv 0,iv 0,iv 0] 184 (0,0))):=heap_alloc_new W1 _
 have rb2:Hid ((W1.alloc (.cells #[iv num,iv c,iv u,iv 0,iv 0,iv 0] 184)).heap[w.heap.size+1]?=some (.cells #[iv 0,iv 0,iv 0,iv 0] 42 (0,0))):=(Below.heap_alloc _ _ _ lv1).trans rb1.out
 clear hk hT0 hT1 rb0 rb1 lv1
 go_wp2_with fail
 refine (H0.out _ _ hT2.out).mono ?_
 rintro e W2 ⟨rfl,hT3,hk⟩
 have ob3:=(hk _ (.inr rfl)).trans ob2.out
 have rb3:Hid (W2.heap[w.heap.size+1]?=some (.cells #[iv 0,iv 0,iv 0,iv 0] 42 (0,0))):=(hk _ (.inl (.inr rfl))).trans rb2.out
 have lo:W1.heap.size<W2.heap.size:=(blt ob3)
 have lv:w.heap.size+1<W2.heap.size:=(blt rb3.out)
 have lne:w.heap.size+1≠W1.heap.size:=by
  intro e
  have:=(hk (w.heap.size+1) (.inl (.inr rfl))).trans rb2.out
  rw [e,ob3] at this
  simp at this
 have HE:Hid (∀ a0 a1 a2 a3 a4 a5 v0 v1 v2 v3,jbq P2 w (((((((((((W2.setCell (aq W1.heap.size 0) a0).setCell (aq W1.heap.size 1) a1).setCell (aq W1.heap.size 2) a2).setCell (aq W1.heap.size 3) a3).setCell (aq W1.heap.size 4) a4).setCell (aq W1.heap.size 5) a5).setCell (aq (w.heap.size+1) 0) v0).setCell (aq (w.heap.size+1) 1) v1).setCell (aq (w.heap.size+1) 2) v2).setCell (aq (w.heap.size+1) 3) v3)) own):=fun a0 a1 a2 a3 a4 a5 v0 v1 v2 v3=>jbe (jbu K2 (jnx K2 hT3 hw.out (.inr rfl) a0 a1 a2 a3 a4 a5) hw.out (.inl (.inr rfl)) v0 v1 v2 v3)
 obtain ⟨r0,r1,r2,r3⟩:=ja2 rb3.out
 obtain ⟨s0,s1,s2,s3,s4,s5⟩:=ja1 ob3
 have g0:=ja0 rb3.out 0
 have g1:=ja0 rb3.out 1
 have g2:=ja0 rb3.out 2
 have g3:=ja0 rb3.out 3
 have f0:=ja0 ob3 0
 have f1:=ja0 ob3 1
 have f2:=ja0 ob3 2
 have f3:=ja0 ob3 3
 have f4:=ja0 ob3 4
 have f5:=ja0 ob3 5
 clear hk hT3 hT2 ob2 rb2 ob3
 go_wp2
 refine bodyPost_ret (v:=.agg #[iv 3,iv num,iv 0,iv up]) (by simp [results,Tryz.results156,go_sem,r0,r1,r2,r3]) rfl ⟨rfl,?_⟩
 exact HE.out _ _ _ _ _ _ _ _ _ _
theorem qff (x:Nat) (own:Nat->Prop) (P0 P1:World->(Nat->Prop)->Prop) (K0:Keeps P0) (K1:Keeps P1) (t c u o a0 a1 a2 a3:Int) (w:World) (hw:∀ k,own k->k<w.heap.size) (h:P0 w own)
 (H0:Hid (jck w own P0 P1 132 #[pt x 0,.agg #[iv 1,iv t,iv c,iv u,iv o]] (.agg #[iv a0,iv a1,iv a2,iv a3]))) :
 Calls Tryz.prog 101 #[pt x 0,.agg #[iv 1,iv t,iv c,iv u,iv o]] w fun e w'=>e=.returned (.agg #[iv a0,iv a1,iv a2,iv a3])/\jbq P1 w w' own:=by
 replace hw:Hid _:=hw
 go_enter Tryz.func101,Tryz.ntmps101
 have hT0:Hid (jal P0 w own (fun j=>j=w.heap.size\/j=w.heap.size+1) ((w.alloc (.cells #[iv 1,iv t,iv c,iv u,iv o] 46)).alloc (.cells #[iv 0,iv 0,iv 0,iv 0] 42))):=jat K0 h (((Below.refl _ _).alloc (Nat.le_refl _) _).alloc (by simp) _) (fun j e=>by rcases e with e|e<;>(subst e;simp;try omega))
 have rb0:Hid (((w.alloc (.cells #[iv 1,iv t,iv c,iv u,iv o] 46)).alloc (.cells #[iv 0,iv 0,iv 0,iv 0] 42)).heap[w.heap.size+1]?=some (.cells #[iv 0,iv 0,iv 0,iv 0] 42 (0,0))):=by
  have h:=heap_alloc_new (w.alloc (.cells #[iv 1,iv t,iv c,iv u,iv o] 46)) (.cells #[iv 0,iv 0,iv 0,iv 0] 42)
  rwa [show (w.alloc (.cells #[iv 1,iv t,iv c,iv u,iv o] 46)).heap.size=w.heap.size+1 by simp] at h
 clear h
 go_wp2_with fail
 generalize (w.alloc (.cells #[iv 1,iv t,iv c,iv u,iv o] 46)).alloc (.cells #[iv 0,iv 0,iv 0,iv 0] 42)=W0 at hT0 rb0 ⊢
 refine (H0.out _ _ hT0.out).mono ?_
 rintro e W1 ⟨rfl,hT1,hk⟩
 have rb1:Hid (W1.heap[w.heap.size+1]?=some (.cells #[iv 0,iv 0,iv 0,iv 0] 42 (0,0))):=(hk _ (.inr rfl)).trans rb0.out
 have lv:w.heap.size+1<W1.heap.size:=(blt rb1.out)
 have HE:Hid (∀ v0 v1 v2 v3,jbq P1 w ((((W1.setCell (aq (w.heap.size+1) 0) v0).setCell (aq (w.heap.size+1) 1) v1).setCell (aq (w.heap.size+1) 2) v2).setCell (aq (w.heap.size+1) 3) v3) own):=fun v0 v1 v2 v3=>jbe (jbu K1 hT1 hw.out (.inr rfl) v0 v1 v2 v3)
 obtain ⟨r0,r1,r2,r3⟩:=ja2 rb1.out
 have g0:=ja0 rb1.out 0
 have g1:=ja0 rb1.out 1
 have g2:=ja0 rb1.out 2
 have g3:=ja0 rb1.out 3
 clear hk hT0 hT1 rb0
 go_wp2
 refine bodyPost_ret (v:=.agg #[iv a0,iv a1,iv a2,iv a3]) (by simp [results,Tryz.results101,go_sem,r0,r1,r2,r3]) rfl ⟨rfl,?_⟩
 exact HE.out _ _ _ _
theorem jw0 (x:Nat) (own:Nat->Prop) (P0 P1:World->(Nat->Prop)->Prop) (K0:Keeps P0) (K1:Keeps P1) (t c u o a0 a1 a2 a3:Int) (w:World) (hw:∀ k,own k->k<w.heap.size) (h:P0 w own)
 (H0:Hid (jck w own P0 P1 133 #[pt x 0,.agg #[iv 2,iv t,iv c,iv u,iv o]] (.agg #[iv a0,iv a1,iv a2,iv a3]))) :
 Calls Tryz.prog 101 #[pt x 0,.agg #[iv 2,iv t,iv c,iv u,iv o]] w fun e w'=>e=.returned (.agg #[iv a0,iv a1,iv a2,iv a3])/\jbq P1 w w' own:=by
 replace hw:Hid _:=hw
 go_enter Tryz.func101,Tryz.ntmps101
 have hT0:Hid (jal P0 w own (fun j=>j=w.heap.size\/j=w.heap.size+1) ((w.alloc (.cells #[iv 2,iv t,iv c,iv u,iv o] 46)).alloc (.cells #[iv 0,iv 0,iv 0,iv 0] 42))):=jat K0 h (((Below.refl _ _).alloc (Nat.le_refl _) _).alloc (by simp) _) (fun j e=>by rcases e with e|e<;>(subst e;simp;try omega))
 have rb0:Hid (((w.alloc (.cells #[iv 2,iv t,iv c,iv u,iv o] 46)).alloc (.cells #[iv 0,iv 0,iv 0,iv 0] 42)).heap[w.heap.size+1]?=some (.cells #[iv 0,iv 0,iv 0,iv 0] 42 (0,0))):=by
  have h:=heap_alloc_new (w.alloc (.cells #[iv 2,iv t,iv c,iv u,iv o] 46)) (.cells #[iv 0,iv 0,iv 0,iv 0] 42)
  rwa [show (w.alloc (.cells #[iv 2,iv t,iv c,iv u,iv o] 46)).heap.size=w.heap.size+1 by simp] at h
 clear h
 go_wp2_with fail
 generalize (w.alloc (.cells #[iv 2,iv t,iv c,iv u,iv o] 46)).alloc (.cells #[iv 0,iv 0,iv 0,iv 0] 42)=W0 at hT0 rb0 ⊢
 refine (H0.out _ _ hT0.out).mono ?_
 rintro e W1 ⟨rfl,hT1,hk⟩
 have rb1:Hid (W1.heap[w.heap.size+1]?=some (.cells #[iv 0,iv 0,iv 0,iv 0] 42 (0,0))):=(hk _ (.inr rfl)).trans rb0.out
 have lv:w.heap.size+1<W1.heap.size:=(blt rb1.out)
 have HE:Hid (∀ v0 v1 v2 v3,jbq P1 w ((((W1.setCell (aq (w.heap.size+1) 0) v0).setCell (aq (w.heap.size+1) 1) v1).setCell (aq (w.heap.size+1) 2) v2).setCell (aq (w.heap.size+1) 3) v3) own):=fun v0 v1 v2 v3=>jbe (jbu K1 hT1 hw.out (.inr rfl) v0 v1 v2 v3)
 obtain ⟨r0,r1,r2,r3⟩:=ja2 rb1.out
 have g0:=ja0 rb1.out 0
 have g1:=ja0 rb1.out 1
 have g2:=ja0 rb1.out 2
 have g3:=ja0 rb1.out 3
 clear hk hT0 hT1 rb0
 go_wp2
 refine bodyPost_ret (v:=.agg #[iv a0,iv a1,iv a2,iv a3]) (by simp [results,Tryz.results101,go_sem,r0,r1,r2,r3]) rfl ⟨rfl,?_⟩
 exact HE.out _ _ _ _
theorem qa6 (x:Nat) (own:Nat->Prop) (P0 P1:World->(Nat->Prop)->Prop) (K0:Keeps P0) (K1:Keeps P1) (k t c u o a0 a1 a2 a3:Int) (w:World) (q1:(k==1)=false) (q2:(k==2)=false) (hw:∀ k,own k->k<w.heap.size) (h:P0 w own)
 (H0:Hid (jck w own P0 P1 134 #[pt x 0,.agg #[iv k,iv t,iv c,iv u,iv o]] (.agg #[iv a0,iv a1,iv a2,iv a3]))) :
 Calls Tryz.prog 101 #[pt x 0,.agg #[iv k,iv t,iv c,iv u,iv o]] w fun e w'=>e=.returned (.agg #[iv a0,iv a1,iv a2,iv a3])/\jbq P1 w w' own:=by
 replace hw:Hid _:=hw
 go_enter Tryz.func101,Tryz.ntmps101
 have hT0:Hid (jal P0 w own (fun j=>j=w.heap.size\/j=w.heap.size+1) ((w.alloc (.cells #[iv k,iv t,iv c,iv u,iv o] 46)).alloc (.cells #[iv 0,iv 0,iv 0,iv 0] 42))):=jat K0 h (((Below.refl _ _).alloc (Nat.le_refl _) _).alloc (by simp) _) (fun j e=>by rcases e with e|e<;>(subst e;simp;try omega))
 have rb0:Hid (((w.alloc (.cells #[iv k,iv t,iv c,iv u,iv o] 46)).alloc (.cells #[iv 0,iv 0,iv 0,iv 0] 42)).heap[w.heap.size+1]?=some (.cells #[iv 0,iv 0,iv 0,iv 0] 42 (0,0))):=by
  have h:=heap_alloc_new (w.alloc (.cells #[iv k,iv t,iv c,iv u,iv o] 46)) (.cells #[iv 0,iv 0,iv 0,iv 0] 42)
  rwa [show (w.alloc (.cells #[iv k,iv t,iv c,iv u,iv o] 46)).heap.size=w.heap.size+1 by simp] at h
 clear h
 go_wp2_with fail
 generalize (w.alloc (.cells #[iv k,iv t,iv c,iv u,iv o] 46)).alloc (.cells #[iv 0,iv 0,iv 0,iv 0] 42)=W0 at hT0 rb0 ⊢
 refine (H0.out _ _ hT0.out).mono ?_
 rintro e W1 ⟨rfl,hT1,hk⟩
 have rb1:Hid (W1.heap[w.heap.size+1]?=some (.cells #[iv 0,iv 0,iv 0,iv 0] 42 (0,0))):=(hk _ (.inr rfl)).trans rb0.out
 have lv:w.heap.size+1<W1.heap.size:=(blt rb1.out)
 have HE:Hid (∀ v0 v1 v2 v3,jbq P1 w ((((W1.setCell (aq (w.heap.size+1) 0) v0).setCell (aq (w.heap.size+1) 1) v1).setCell (aq (w.heap.size+1) 2) v2).setCell (aq (w.heap.size+1) 3) v3) own):=fun v0 v1 v2 v3=>jbe (jbu K1 hT1 hw.out (.inr rfl) v0 v1 v2 v3)
 obtain ⟨r0,r1,r2,r3⟩:=ja2 rb1.out
 have g0:=ja0 rb1.out 0
 have g1:=ja0 rb1.out 1
 have g2:=ja0 rb1.out 2
 have g3:=ja0 rb1.out 3
 clear hk hT0 hT1 rb0
 go_wp2
 refine bodyPost_ret (v:=.agg #[iv a0,iv a1,iv a2,iv a3]) (by simp [results,Tryz.results101,go_sem,r0,r1,r2,r3]) rfl ⟨rfl,?_⟩
 exact HE.out _ _ _ _
section
section
variable {w:World} {x:Nat} {own:Nat->Prop} {S:Sal} {last:Nat} {an:Int}
theorem saleK.put {S:Sal} (h:saleK S) {i:Nat} {o:Ord} (hI:salI (S.put i o)):saleK (S.put i o):=⟨hI,by show (S.os.set i o).length<=_;simpa using h.len,h.lease,h.wait,h.keep⟩
theorem jzu (h:psx an x S last w own) (hK:saleK S) :
 Calls Tryz.prog 58 #[pt x 0] w fun e w'=>e=.returned (iv S.free)/\Below w.heap.size w w':=by
 obtain ⟨V,hm,hr,_⟩:=h
 have hB:=hr.bounds hK.I hK.len
 have:=qfx hm hB.stock hB.sold hB.held
 rw [hr.C,hr.sold,hr.held] at this
 exact this
theorem qdh (h:psx an x S last w own) (hK:saleK S) :
 Calls Tryz.prog 154 #[pt x 0] w fun e w'=>e=.returned (iv S.left)/\Below w.heap.size w w':=by
 obtain ⟨V,hm,hr,_⟩:=h
 have hB:=hr.bounds hK.I hK.len
 have:=qfj hm hB.stock hB.sold
 rw [hr.C,hr.sold] at this
 exact this
theorem jzy (h:psx an x S last w own) :
 Calls Tryz.prog 178 #[pt x 0] w fun e w'=>e=.returned (iv S.price)/\Below w.heap.size w w':=by
 obtain ⟨V,hm,hr,_⟩:=h
 have:=qe9 hm
 rw [hr.C,hr.sold] at this
 exact this
theorem jy8 (h:psx an x S last w own) {i:Nat} (hi:S.knows i) :
 Calls Tryz.prog 131 #[pt x 11,iv ((i:Int)+1)] w fun e w'=>e=.returned (.tuple #[(jbo S.C i (S.os.getD i ja3)).val,.bool true])/\Below w.heap.size w w':=by
 obtain ⟨V,hm,hr,_⟩:=h
 obtain ⟨j,h1,h2⟩:=hr.known hi
 exact jol hm hr.ls.srt h2 h1
theorem jni (h:psx an x S last w own) {num:Int} (hi:∀ i,S.knows i->num≠(i:Int)+1) :
 Calls Tryz.prog 131 #[pt x 11,iv num] w fun e w'=>e=.returned (.tuple #[pord0.val,.bool false])/\Below w.heap.size w w':=by
 obtain ⟨V,hm,hr,_⟩:=h
 exact jzk hm hr.ls.srt (hr.strange hi)
theorem jor (S:Sal) {i:Nat} (hi:i<S.os.length) (hs:(S.os.getD i ja3).state≠14):(S.put i { S.os.getD i ja3 with state:=13 }).price=S.price:=by
 unfold Sal.price
 show jcw S.C.prices (ja4 (S.os.set i _) 14 0) _=_
 rw [jct hi,jn8,jn8,if_neg hs,if_neg (show ¬ (13:Int)=14 by decide)]
 rw [show ja4 S.os 14 0 - 0+0=ja4 S.os 14 0 by omega]
 rfl
theorem qfe (h:psx an x S last w own) (hK:saleK S) {i:Nat} (hi:S.knows i) (hs:(S.os.getD i ja3).state=12) :
 Calls Tryz.prog 162 #[pt x 0,(jbo S.C i (S.os.getD i ja3)).val] w fun e w'=>e=.returned (POrd.val ⟨(i:Int)+1,(S.os.getD i ja3).cust,(S.os.getD i ja3).units,13,S.price,S.now+S.C.lease⟩)/\jbq (psx an x (S.holds i) last) w w' own:=by
 have hw:=(jb3 an x S last).lt h
 refine qdg x own (psx an x S last) (psx an x (S.holds i) last) (jb3 _ _ _ _) (jb3 _ _ _ _) _ _ _ _ _ _ S.price (S.now+S.C.lease) w hw h (fun W hW=>jfj (jb3 _ _ _ _) hw (fun W o hp=>jzy hp) W hW) (fun W hW=>jeb hw (fun W o hp=>?_) W hW)
 have e:S.holds i=S.put i { S.os.getD i ja3 with state:=13,cents:=S.price,upto:=S.now+S.C.lease }:=by
  unfold Sal.holds
  rw [jor S hi.1 (by rw [hs];decide)]
 rw [e]
 exact qd8 hp hK hi ⟨(i:Int)+1,(S.os.getD i ja3).cust,(S.os.getD i ja3).units,(S.os.getD i ja3).state,S.price,(S.os.getD i ja3).untl S.C⟩ rfl rfl rfl rfl 13 (by decide) _ rfl rfl rfl rfl (by unfold Ord.untl jaq;rw [if_pos (.inr rfl),if_pos rfl])
def Sal.firstW (S:Sal):Option POrd:=match ja7 S.os with
 | []=>none
 | q :: _=>some (jbo S.C q (S.os.getD q ja3))
theorem qev (h:psx an x S last w own) :
 Calls Tryz.prog 161 #[pt x 0] w fun e w'=>e=.returned (.tuple #[(S.firstW.getD pord0).val,.bool S.firstW.isSome])/\Below w.heap.size w w':=by
 have K:=jb3 an x S last
 have hb:∀ W,Below w.heap.size w W->psx an x S last W own:=fun W hW=>K.keep h hW.size (fun k e=>hW.block k (K.lt h k e))
 cases hq:ja7 S.os with
 | nil =>
   have e:S.firstW=none:=by unfold Sal.firstW;rw [hq]
   rw [e]
   refine qas x 0 w (fun W hW=>?_)
   obtain ⟨V,⟨g,hm⟩,hr,_⟩:=hb W hW
   have:=jnv x 15 g.qt W (hm.cell 15 _ rfl) hm.qt.1
   rw [jf2,hm.qt.2,(jls hr.turns).2 hq] at this
   exact this
 | cons q qs =>
   have e:S.firstW=some (jbo S.C q (S.os.getD q ja3)):=by unfold Sal.firstW;rw [hq]
   obtain ⟨_,h1,h2⟩:=jcl hq ja3 (by decide)
   have hk:S.knows q:=⟨h1,.inl (.inl h2)⟩
   rw [e]
   refine jwy x ((q:Int)+1) _ _ _ _ _ _ w (fun W hW=>?_) (fun W hW=>jy8 (hb W hW) hk)
   obtain ⟨V,⟨g,hm⟩,hr,_⟩:=hb W hW
   have:=jnv x 15 g.qt W (hm.cell 15 _ rfl) hm.qt.1
   have hn:V.qt≠[]:=fun c=>by
    have:=(jls hr.turns).1 c
    rw [hq] at this
    cases this
   rw [jf2,hm.qt.2,jqz hr.turns hq,decide_eq_true hn] at this
   exact this
theorem jgy (h:psx an x S last w own) (hK:saleK S) :
 Calls Tryz.prog 137 #[pt x 0] w fun e w'=>e=.returned (.tuple #[])/\jbq (psx an x S.promote last) w w' own:=by
 have hsome:∀ (S:Sal) p,S.firstW=some p->∃ q qs,ja7 S.os=q :: qs/\p=jbo S.C q (S.os.getD q ja3)/\q<S.os.length/\(S.os.getD q ja3).state=12:=by
  intro S p e
  unfold Sal.firstW at e
  cases hq:ja7 S.os with
  | nil=>rw [hq] at e;cases e
  | cons q qs =>
    rw [hq] at e
    simp only [Option.some.injEq] at e
    obtain ⟨_,h1,h2⟩:=jcl hq ja3 (by decide)
    exact ⟨q,qs,rfl,e.symm,h1,h2⟩
 refine jq8 x (fun S=>psx an x S last) (fun S=>jb3 an x S last) saleK Sal.firstW Sal.free (fun S=>S.holds ((ja7 S.os).headD 0)) Sal.promote (fun S=>(ja7 S.os).length) (fun S=>POrd.val ⟨((((ja7 S.os).headD 0:Nat):Int))+1,(S.os.getD ((ja7 S.os).headD 0) ja3).cust,(S.os.getD ((ja7 S.os).headD 0) ja3).units,13,S.price,S.now+S.C.lease⟩) (fun S p=>p.units<=S.free) (fun _ _=>Iff.rfl) (fun S _ W o hp=>qev hp) (fun S hK W o hp=>jzu hp hK) (fun S p hK e hle W o hp=>?_) (fun S p hK e hle=>?_) (fun S hK hle=>?_) S w own hK h
 ·obtain ⟨q,qs,hq,rfl,h1,h2⟩:=hsome S p e
  simp only [hq,List.headD_cons]
  exact qfe hp hK ⟨h1,.inl (.inl h2)⟩ h2
 ·obtain ⟨q,qs,hq,rfl,h1,h2⟩:=hsome S p e
  have hf:¬ S.free<(S.os.getD q ja3).units:=by
   have:(S.os.getD q ja3).units<=S.free:=hle
   omega
  simp only [hq,List.headD_cons]
  have hpr:0<=S.price/\S.price<=1073741824:=jdl hK.I.prices _ _ (Nat.le_refl _)
  have ho:=hK.I.ords _ (jbf h1)
  refine ⟨hK.put (jj8 hK.I h1 h2 hf _ rfl rfl rfl ⟨?_,ho.2⟩),?_,(jo1 hq hf).symm⟩
  ·rw [jor S h1 (by rw [h2];decide)];exact hpr
  ·rw [jew hq];simp
 ·cases hq:ja7 S.os with
  | nil=>exact jic hq
  | cons q qs =>
    refine jgz hq ?_
    have:=hle (jbo S.C q (S.os.getD q ja3)) (by unfold Sal.firstW;rw [hq])
    have:¬ (S.os.getD q ja3).units<=S.free:=this
    omega
theorem jl2 {Z Z':List Ent} {os:List Ord} (h:jbr Z os) (h':jbr Z' os):Z=Z':=juu h.1 h'.1 (fun e=>(h.2 e).trans (h'.2 e).symm)
def qer:List Ent->Option Nat
 | []=>none
 | e :: _=>some (e.1.2 - 1).toNat
open Classical in
noncomputable def Sal.greatI (S:Sal):Option Nat:=if h:∃ Z,jbr Z S.os then qer (Classical.choose h) else none
noncomputable def Sal.greatW (S:Sal):Option POrd:=S.greatI.map (fun q=>jbo S.C q (S.os.getD q ja3))
theorem jq9 {Z:List Ent} (h:jbr Z S.os):S.greatI=qer Z:=by
 unfold Sal.greatI
 have hx:∃ Z,jbr Z S.os:=⟨Z,h⟩
 rw [dif_pos hx,jl2 (Classical.choose_spec hx) h]
theorem jk7 {Z:List Ent} (h:jbr Z S.os):(ja7 S.os=[]/\Z=[]/\S.greatI=none)\/∃ i,S.greatI=some i/\Z≠[]/\i<S.os.length/\(S.os.getD i ja3).state=12/\Z.headD ((0,0),0)=((-(S.os.getD i ja3).units,(i:Int)+1),0)/\∀ j,j<S.os.length->(S.os.getD j ja3).state=12->(S.os.getD j ja3).units<=(S.os.getD i ja3).units:=by
 by_cases hz:Z=[]
 ·exact .inl ⟨(jmw h).1 hz,hz,by rw [jq9 h,hz];rfl⟩
 ·obtain ⟨i,a,b,c,d⟩:=jqe h hz
  refine .inr ⟨i,?_,hz,a,b,c,d⟩
  rw [jq9 h]
  cases Z with
  | nil=>exact absurd rfl hz
  | cons e l =>
    have c':e=((-(S.os.getD i ja3).units,(i:Int)+1),0):=c
    rw [c']
    simp [qer]
theorem qdx (h:psx an x S last w own) :
 Calls Tryz.prog 175 #[pt x 0] w fun e w'=>e=.returned (.tuple #[(S.greatW.getD pord0).val,.bool S.greatW.isSome])/\Below w.heap.size w w':=by
 have K:=jb3 an x S last
 have hb:∀ W,Below w.heap.size w W->psx an x S last W own:=fun W hW=>K.keep h hW.size (fun k e=>hW.block k (K.lt h k e))
 obtain ⟨V0,_,hr0,_⟩:=h
 rcases jk7 hr0.sizes with ⟨hq,hz,hg⟩|⟨i,hg,hz,h1,h2,h3,_⟩
 ·have e:S.greatW=none:=by unfold Sal.greatW;rw [hg];rfl
  rw [e]
  refine qa1 x 0 w (fun W hW=>?_)
  obtain ⟨V,⟨g,hm⟩,hr,_⟩:=hb W hW
  have:=jj4 x 15 g.qz W (hm.cell 17 _ rfl) hm.qz.1
  rw [jf2,hm.qz.2,(jmw hr.sizes).2 hq] at this
  exact this
 ·have e:S.greatW=some (jbo S.C i (S.os.getD i ja3)):=by unfold Sal.greatW;rw [hg];rfl
  have hk:S.knows i:=⟨h1,.inl (.inl h2)⟩
  rw [e]
  refine jw2 x ((i:Int)+1) _ _ _ _ _ _ w (fun W hW=>?_) (fun W hW=>jy8 (hb W hW) hk)
  obtain ⟨V,⟨g,hm⟩,hr,_⟩:=hb W hW
  have:=jj4 x 15 g.qz W (hm.cell 17 _ rfl) hm.qz.1
  have hv:V.qz=V0.qz:=jl2 hr.sizes hr0.sizes
  rw [jf2,hm.qz.2,hv,h3,decide_eq_true hz] at this
  exact this
theorem jrw (h:psx an x S last w own) (hK:saleK S) {i:Nat} (hi:S.knows i) (st:Int) (hst:st≠12/\st≠13) :
 Calls Tryz.prog 157 #[pt x 0,(jbo S.C i (S.os.getD i ja3)).val,iv st] w fun e w'=>e=.returned (POrd.val ⟨(i:Int)+1,(S.os.getD i ja3).cust,(S.os.getD i ja3).units,st,(S.os.getD i ja3).cents,S.now+S.C.keep⟩)/\jbq (psx an x (S.ends i st) last) w w' own:=by
 have hsp:jaq S.C st=S.C.keep:=by unfold jaq;rw [if_neg hst.2,if_neg hst.1]
 have:=qd8 h hK hi (jbo S.C i (S.os.getD i ja3)) rfl rfl rfl rfl st hst.1 { S.os.getD i ja3 with state:=st,ended:=S.now } rfl rfl rfl rfl (by rw [hsp];exact jke (fun c=>c.elim hst.1 hst.2))
 rw [hsp] at this
 exact this
theorem saleK.ends {S:Sal} (h:saleK S) {i:Nat} (hi:i<S.os.length) (st:Int) (hst:st=14\/(st≠12/\st≠13/\st≠14)) (h14:st=14->(S.os.getD i ja3).state=13):saleK (S.ends i st):=h.put (jil h.I hi st hst h14)
theorem qes (h:psx an x S last w own) (hK:saleK S) :
 Calls Tryz.prog 158 #[pt x 0] w fun e w'=>e=.returned (.tuple #[])/\jbq (psx an x S.drained last) w w' own:=by
 obtain ⟨V0,_,hr0,_⟩:=id h
 have hz0:∃ Z,jbr Z S.os:=⟨_,hr0.sizes⟩
 clear hr0
 have hsome:∀ (S:Sal) p,(∃ Z,jbr Z S.os)->S.greatW=some p->∃ q,S.greatI=some q/\p=jbo S.C q (S.os.getD q ja3)/\q<S.os.length/\(S.os.getD q ja3).state=12/\∀ j,j<S.os.length->(S.os.getD j ja3).state=12->(S.os.getD j ja3).units<=(S.os.getD q ja3).units:=by
  rintro S p ⟨Z,hZ⟩ e
  rcases jk7 hZ with ⟨_,_,hg⟩|⟨i,hg,_,h1,h2,_,h4⟩
  ·unfold Sal.greatW at e;rw [hg] at e;cases e
  ·unfold Sal.greatW at e
   rw [hg] at e
   simp only [Option.map_some,Option.some.injEq] at e
   exact ⟨i,hg,e.symm,h1,h2,h4⟩
 refine jvo x (fun S=>psx an x S last) (fun S=>jb3 an x S last) (fun S=>saleK S/\∃ Z,jbr Z S.os) Sal.greatW Sal.left (fun S=>S.ends (S.greatI.getD 0) 18) Sal.drained (fun S=>(ja7 S.os).length) (fun S=>POrd.val ⟨((S.greatI.getD 0:Nat):Int)+1,(S.os.getD (S.greatI.getD 0) ja3).cust,(S.os.getD (S.greatI.getD 0) ja3).units,18,(S.os.getD (S.greatI.getD 0) ja3).cents,S.now+S.C.keep⟩) (fun S p=>S.left<p.units) (fun _ _=>Iff.rfl) (fun S _ W o hp=>qdx hp) (fun S hK W o hp=>qdh hp hK.1) (fun S p hK e hle W o hp=>?_) (fun S p hK e hle=>?_) (fun S hK hle=>?_) S w own ⟨hK,hz0⟩ h
 ·obtain ⟨q,hg,rfl,h1,h2,_⟩:=hsome S p hK.2 e
  simp only [hg,Option.getD_some]
  exact jrw hp hK.1 ⟨h1,.inl (.inl h2)⟩ 18 (by decide)
 ·obtain ⟨q,hg,rfl,h1,h2,_⟩:=hsome S p hK.2 e
  have hlt:S.left<(S.os.getD q ja3).units:=hle
  simp only [hg,Option.getD_some]
  obtain ⟨Z,hZ⟩:=hK.2
  refine ⟨⟨hK.1.ends h1 18 (.inr (by decide)) (fun c=>absurd c (by decide)),_,jqa hZ h1 _ (show (18:Int)≠12 by decide)⟩,?_,jkt h1 h2 hlt⟩
  show (ja7 (S.os.set q _)).length<_
  rw [jlj _ h1 (show (18:Int)≠12 by decide)]
  refine List.length_filter_lt_length_iff_exists.2 ⟨q,(jbj S.os _ q).2 ⟨h1,h2⟩,by simp⟩
 ·obtain ⟨Z,hZ⟩:=hK.2
  refine jkq (fun o ho hs=>?_)
  obtain ⟨j,hj,rfl⟩:=jda ho
  rcases jk7 hZ with ⟨hq,_,_⟩|⟨i,hg,_,h1,h2,_,h4⟩
  ·have:=(jbj S.os _ j).2 ⟨hj,hs⟩
   have hq':jan S.os S.os.length=[]:=hq
   rw [hq'] at this
   cases this
  ·have:=h4 j hj hs
   have h5:=hle (jbo S.C i (S.os.getD i ja3)) (by unfold Sal.greatW;rw [hg];rfl)
   have h6:¬ S.left<(S.os.getD i ja3).units:=h5
   omega
end
end
section
section
variable {w:World} {x:Nat} {own:Nat->Prop} {S:Sal} {last:Nat} {an:Int}
theorem jb6 {W:World} (h:psx an x S last w own) (hW:Below w.heap.size w W):psx an x S last W own:=(jb3 an x S last).keep h hW.size (fun k e=>hW.block k ((jb3 an x S last).lt h k e))
theorem jfm {os:List Ord} {c o:Int} {i:Nat} (ho:1<=o) (h:jej os c o=some i):i<os.length/\(os.getD i ja3).cust=c/\o=(i:Int)+1:=by
 unfold jej at h
 split at h
 ·next hc =>
  simp only [Option.some.injEq] at h
  subst h
  exact ⟨by omega,hc.2,by omega⟩
 ·cases h
theorem jw8 {os:List Ord} {c:Int} {i:Nat} (hi:i<os.length) (h:jej os c ((i:Int)+1)=none):(os.getD i ja3).cust≠c:=by
 intro e
 unfold jej at h
 rw [if_pos] at h
 ·cases h
 ·refine ⟨by omega,?_⟩
  rw [show ((i:Int)+1 - 1).toNat=i by omega]
  exact e
theorem qan (r:Req) (ho:1<=r.order) :
 (∃ i,jej S.os r.cust r.order=some i/\S.knows i/\r.order=(i:Int)+1/\∀ W o,psx an x S last W o->Calls Tryz.prog 99 #[pt x 0,r.val] W fun e w'=>e=.returned (.tuple #[(jbo S.C i (S.os.getD i ja3)).val,.bool true])/\Below W.heap.size W w') ∨
 ((∀ i,jej S.os r.cust r.order=some i->¬ S.knows i)/\∀ W o,psx an x S last W o->Calls Tryz.prog 99 #[pt x 0,r.val] W fun e w'=>e=.returned (.tuple #[pord0.val,.bool false])/\Below W.heap.size W w'):=by
 by_cases hk:∃ i,S.knows i/\r.order=(i:Int)+1
 ·obtain ⟨i,hi,he⟩:=hk
  cases hf:jej S.os r.cust r.order with
  | some j =>
    obtain ⟨_,h2,h3⟩:=jfm ho hf
    have e:j=i:=by omega
    subst e
    refine .inl ⟨j,rfl,hi,he,fun W o hp=>?_⟩
    have e:(jbo S.C j (S.os.getD j ja3)).val=.agg #[iv ((j:Int)+1),iv r.cust,iv (S.os.getD j ja3).units,iv (S.os.getD j ja3).state,iv (S.os.getD j ja3).cents,iv ((S.os.getD j ja3).untl S.C)]:=by rw [← h2];rfl
    rw [e]
    refine qd6 x r.kind r.token r.cust r.units r.order _ _ _ _ _ W (fun W' hW'=>?_)
    have:=jy8 (jb6 hp hW') hi
    rw [e] at this
    rw [he]
    exact this
  | none =>
    refine .inr ⟨fun i e=>(by cases e),fun W o hp=>?_⟩
    refine jwm x r.kind r.token r.cust r.units r.order ((i:Int)+1) (S.os.getD i ja3).cust (S.os.getD i ja3).units (S.os.getD i ja3).state (S.os.getD i ja3).cents ((S.os.getD i ja3).untl S.C) W (jw8 hi.1 (he▸hf)) (fun W' hW'=>?_)
    have:=jy8 (jb6 hp hW') hi
    rw [he]
    exact this
 ·refine .inr ⟨fun i e c=>hk ⟨i,c,(jfm ho e).2.2⟩,fun W o hp=>?_⟩
  exact qdz x r.kind r.token r.cust r.units r.order W (fun W' hW'=>jni (jb6 hp hW') (fun i hi e=>hk ⟨i,hi,e⟩))
theorem qfq (h:psx an x S last w own) (hK:saleK S) (r:Req) (ho:1<=r.order) :
 Calls Tryz.prog 63 #[pt x 0,r.val] w fun e w'=>e=.returned (S.poll r).val/\Below w.heap.size w w':=by
 rcases qan (x:=x) (last:=last) (S:=S) (an:=an) r ho with ⟨i,hf,hi,he,H⟩|⟨hn,H⟩
 ·have H':∀ W,Below w.heap.size w W->Calls Tryz.prog 99 #[pt x 0,r.val] W fun e w'=>e=.returned (.tuple #[(jbo S.C i (S.os.getD i ja3)).val,.bool true])/\Below W.heap.size W w':=fun W hW=>H W own (jb6 h hW)
  have hu:=hK.I.units _ (jbf hi.1)
  have hc:=(hK.I.ords _ (jbf hi.1)).1
  have hp:S.poll r=if (S.os.getD i ja3).state=12 then ⟨12,r.order,0,(S.os.getD i ja3).upto⟩
   else if (S.os.getD i ja3).state=13 then ⟨13,r.order,(S.os.getD i ja3).cents,(S.os.getD i ja3).upto⟩
   else if S.C.keep<=S.now - (S.os.getD i ja3).ended then { qfy with kind:=19 }
   else if (S.os.getD i ja3).state=14 then ⟨14,r.order,(S.os.getD i ja3).units * (S.os.getD i ja3).cents,0⟩
   else ⟨(S.os.getD i ja3).state,r.order,0,0⟩:=by unfold Sal.poll;rw [hf]
  rw [hp,he]
  unfold jbo at H'
  by_cases h12:(S.os.getD i ja3).state=12
  ·rw [if_pos h12]
   rw [h12,jde (.inl h12)] at H'
   exact jzc x r.kind r.token r.cust r.units r.order _ _ _ _ _ w H'
  ·rw [if_neg h12]
   by_cases h13:(S.os.getD i ja3).state=13
   ·rw [if_pos h13]
    rw [h13,jde (.inr h13)] at H'
    exact qa0 x r.kind r.token r.cust r.units r.order _ _ _ _ _ w H'
   ·have hna:¬ (S.os.getD i ja3).alive:=fun c=>c.elim h12 h13
    have hlt:=hi.2.resolve_left hna
    rw [jke hna] at hlt
    rw [if_neg h13,if_neg (by omega)]
    by_cases h14:(S.os.getD i ja3).state=14
    ·rw [if_pos h14]
     rw [h14] at H'
     have hm0:0<=(S.os.getD i ja3).units * (S.os.getD i ja3).cents:=Int.mul_nonneg (by omega) hc.1
     have hm1:(S.os.getD i ja3).units * (S.os.getD i ja3).cents<=4294967296 * 1073741824:=Int.mul_le_mul hu.2 hc.2 hc.1 (by omega)
     exact jy5 x r.kind r.token r.cust r.units r.order _ _ _ _ _ _ w (jag (by omega) (by omega)) H'
    ·rw [if_neg h14]
     exact jvs x r.kind r.token r.cust r.units r.order _ _ _ _ _ _ w (by simpa using h12) (by simpa using h13) (by simpa using h14) H'
 ·have hp:S.poll r={ qfy with kind:=19 }:=by
   unfold Sal.poll
   cases hf:jej S.os r.cust r.order with
   | none=>rfl
   | some i =>
     have hk:=hn i hf
     obtain ⟨h1,_,_⟩:=jfm ho hf
     have hna:¬ (S.os.getD i ja3).alive:=fun c=>hk ⟨h1,.inl c⟩
     have hlt:¬ S.now<(S.os.getD i ja3).untl S.C:=fun c=>hk ⟨h1,.inr c⟩
     rw [jke hna] at hlt
     simp only
     rw [if_neg (fun c=>hna (.inl c)),if_neg (fun c=>hna (.inr c)),if_pos (by omega)]
  rw [hp]
  exact jya x r.kind r.token r.cust r.units r.order w (fun W hW=>H W own (jb6 h hW))
theorem jkv {k:Nat}:∀ (n:Nat) (S:Sal),(S.os.getD k ja3).state≠12->(jax n S).os.getD k ja3=S.os.getD k ja3
 | 0,_,_=>rfl
 | n+1,S,h=>by
   unfold jax
   split
   ·rfl
   ·next q qs hq =>
    split
    ·rfl
    ·obtain ⟨_,hl,hs⟩:=jcl hq ja3 (by decide)
     have hne:k≠q:=fun e=>h (e▸hs)
     have hg:(S.holds q).os.getD k ja3=S.os.getD k ja3:=by
      show (S.os.set q _).getD k ja3=_
      rw [jbm _ hl,if_neg hne]
     rw [jkv n _ (by rw [hg];exact h),hg]
theorem jsg {k:Nat} (S:Sal) (h:(S.os.getD k ja3).state≠12):S.promote.os.getD k ja3=S.os.getD k ja3:=jkv _ S h
theorem jt1 {k:Nat} (S:Sal) (h:(S.os.getD k ja3).state≠12):S.drained.os.getD k ja3=S.os.getD k ja3:=by
 show (S.os.map (dry S.left S.now)).getD k ja3=_
 by_cases hk:k<S.os.length
 ·have e1:S.os[k]?=some (S.os.getD k ja3):=by simp [List.getD,List.getElem?_eq_getElem hk]
  have e2:(S.os.map (dry S.left S.now)).getD k ja3=dry S.left S.now (S.os.getD k ja3):=by
   simp only [List.getD,List.getElem?_map]
   rw [show S.os[k]?=some (S.os[k]?.getD ja3) from e1]
   rfl
  rw [e2]
  unfold dry
  rw [if_neg (fun c=>h c.1)]
 ·simp [List.getD,List.getElem?_eq_none (Nat.le_of_not_lt hk)]
theorem saleK.drained {S:Sal} (h:saleK S):saleK S.drained:=by
 have:=jix (n:=S.os.length) (ja7 S.os) S h.I rfl (fun q hq=>(jes S.os _ q hq))
 rw [jcx] at this
 exact ⟨this.1,by rw [this.2];exact h.len,h.lease,h.wait,h.keep⟩
theorem saleK.promote {S:Sal} (h:saleK S):saleK S.promote:=by
 obtain ⟨a,_,_⟩:=jec S
 exact ⟨ji4 S h.I,by rw [jc4];exact h.len,by rw [a];exact h.lease,by rw [a];exact h.wait,by rw [a];exact h.keep⟩
theorem qaf (h:psx an x S last w own) (hK:saleK S) (r:Req) (ho:1<=r.order) :
 Calls Tryz.prog 133 #[pt x 0,r.val] w fun e w'=>e=.returned (S.confirm r).1.val/\jbq (psx an x (S.confirm r).2 last) w w' own:=by
 have K:=jb3 an x S last
 have hw:=K.lt h
 have stay:S.confirm r=(⟨9,0,0,0⟩,S)->∀ (e:Ending) (w':World),e=.returned (.agg #[iv 9,iv 0,iv 0,iv 0])/\Below w.heap.size w w'->e=.returned (S.confirm r).1.val/\jbq (psx an x (S.confirm r).2 last) w w' own:=by
  rintro hc e w' ⟨rfl,hb⟩
  rw [hc]
  exact ⟨rfl,jb7 K h hb⟩
 rcases qan (x:=x) (last:=last) (S:=S) (an:=an) r ho with ⟨i,hf,hi,he,H⟩|⟨hn,H⟩
 ·by_cases h13:(S.os.getD i ja3).state=13
  ·have hu:=hK.I.units _ (jbf hi.1)
   have hc:=(hK.I.ords _ (jbf hi.1)).1
   have hm0:0<=(S.os.getD i ja3).units * (S.os.getD i ja3).cents:=Int.mul_nonneg (by omega) hc.1
   have hm1:(S.os.getD i ja3).units * (S.os.getD i ja3).cents<=4294967296 * 1073741824:=Int.mul_le_mul hu.2 hc.2 hc.1 (by omega)
   have K1:=hK.ends hi.1 14 (.inl rfl) (fun _=>h13)
   have hend:((S.ends i 14).drained.promote.os.getD i ja3)={ S.os.getD i ja3 with state:=14,ended:=S.now }:=by
    have e1:(S.ends i 14).os.getD i ja3={ S.os.getD i ja3 with state:=14,ended:=S.now }:=by
     show (S.os.set i _).getD i ja3=_
     rw [jbm _ hi.1,if_pos rfl]
    have e2:=jt1 (k:=i) (S.ends i 14) (by rw [e1];exact (show (14:Int)≠12 by decide))
    rw [jsg _ (by rw [e2,e1];exact (show (14:Int)≠12 by decide)),e2,e1]
   have hcf:S.confirm r=(⟨7,(i:Int)+1,(S.os.getD i ja3).units * (S.os.getD i ja3).cents,0⟩,(S.ends i 14).drained.promote):=by
    unfold Sal.confirm
    rw [hf]
    simp only
    rw [if_neg (fun c=>c h13),jcx,hend,he]
   rw [hcf]
   have ep:jbo S.C i (S.os.getD i ja3)=⟨(i:Int)+1,(S.os.getD i ja3).cust,(S.os.getD i ja3).units,13,(S.os.getD i ja3).cents,(S.os.getD i ja3).untl S.C⟩:=by rw [← h13];rfl
   refine jtq x own (psx an x S last) (psx an x (S.ends i 14) last) (psx an x (S.ends i 14).drained last) (psx an x (S.ends i 14).drained.promote last) K (jb3 _ _ _ _) r.kind r.token r.cust r.units r.order ((i:Int)+1) (S.os.getD i ja3).cust (S.os.getD i ja3).units (S.os.getD i ja3).cents ((S.os.getD i ja3).untl S.C) (S.now+S.C.keep) _ w (jag (by omega) (by omega)) hw h (fun loc W hW=>?_) (fun loc W hW=>?_) (fun loc W hW=>jaf hw (fun W o hp=>qes hp K1) W hW) (fun loc W hW=>jaf hw (fun W o hp=>jgy hp K1.drained) W hW)
   ·refine jfk K hw (fun W o hp=>?_) W hW
    have:=H W o hp
    rw [ep] at this
    exact this
   ·refine jaf hw (fun W o hp=>?_) W hW
    have:=jrw hp hK hi 14 (by decide)
    rw [ep] at this
    exact this
  ·have hcf:S.confirm r=(⟨9,0,0,0⟩,S):=by
    unfold Sal.confirm
    rw [hf]
    simp only
    rw [if_pos h13]
   exact (jqj x r.kind r.token r.cust r.units r.order _ _ _ _ _ _ w (bne_iff_ne.2 h13) (fun W hW=>H W own (jb6 h hW))).mono (stay hcf)
 ·have hcf:S.confirm r=(⟨9,0,0,0⟩,S):=by
   unfold Sal.confirm
   cases hf:jej S.os r.cust r.order with
   | none=>rfl
   | some i =>
     obtain ⟨h1,_,_⟩:=jfm ho hf
     simp only
     rw [if_pos (fun c=>hn i hf ⟨h1,.inl (.inr c)⟩)]
  exact (jr7 x r.kind r.token r.cust r.units r.order w (fun W hW=>H W own (jb6 h hW))).mono (stay hcf)
theorem qbm (h:psx an x S last w own) (hK:saleK S) (r:Req) (ho:1<=r.order) :
 Calls Tryz.prog 134 #[pt x 0,r.val] w fun e w'=>e=.returned (S.cancel r).1.val/\jbq (psx an x (S.cancel r).2 last) w w' own:=by
 have K:=jb3 an x S last
 have hw:=K.lt h
 have stay:S.cancel r=(⟨9,0,0,0⟩,S)->∀ (e:Ending) (w':World),e=.returned (.agg #[iv 9,iv 0,iv 0,iv 0])/\Below w.heap.size w w'->e=.returned (S.cancel r).1.val/\jbq (psx an x (S.cancel r).2 last) w w' own:=by
  rintro hc e w' ⟨rfl,hb⟩
  rw [hc]
  exact ⟨rfl,jb7 K h hb⟩
 rcases qan (x:=x) (last:=last) (S:=S) (an:=an) r ho with ⟨i,hf,hi,he,H⟩|⟨hn,H⟩
 ·by_cases hal:(S.os.getD i ja3).state≠13/\(S.os.getD i ja3).state≠12
  ·have hcf:S.cancel r=(⟨9,0,0,0⟩,S):=by
    unfold Sal.cancel
    rw [hf]
    simp only
    rw [if_pos hal]
   exact (jsw x r.kind r.token r.cust r.units r.order _ _ _ _ _ _ w (bne_iff_ne.2 hal.1) (bne_iff_ne.2 hal.2) (fun W hW=>H W own (jb6 h hW))).mono (stay hcf)
  ·have K1:=hK.ends hi.1 16 (.inr (by decide)) (fun c=>absurd c (by decide))
   have hcf:S.cancel r=(⟨8,(i:Int)+1,0,0⟩,(S.ends i 16).promote):=by
    unfold Sal.cancel
    rw [hf]
    simp only
    rw [if_neg hal,he]
   rw [hcf]
   by_cases h13:(S.os.getD i ja3).state=13
   ·have ep:jbo S.C i (S.os.getD i ja3)=⟨(i:Int)+1,(S.os.getD i ja3).cust,(S.os.getD i ja3).units,13,(S.os.getD i ja3).cents,(S.os.getD i ja3).untl S.C⟩:=by rw [← h13];rfl
    refine jse x own (psx an x S last) (psx an x (S.ends i 16) last) (psx an x (S.ends i 16).promote last) K (jb3 _ _ _ _) r.kind r.token r.cust r.units r.order ((i:Int)+1) (S.os.getD i ja3).cust (S.os.getD i ja3).units (S.os.getD i ja3).cents ((S.os.getD i ja3).untl S.C) (S.now+S.C.keep) w hw h (fun loc W hW=>?_) (fun loc W hW=>?_) (fun loc W hW=>jaf hw (fun W o hp=>jgy hp K1) W hW)
    ·refine jfk K hw (fun W o hp=>?_) W hW
     have:=H W o hp
     rw [ep] at this
     exact this
    ·refine jaf hw (fun W o hp=>?_) W hW
     have:=jrw hp hK hi 16 (by decide)
     rw [ep] at this
     exact this
   ·have h12:(S.os.getD i ja3).state=12:=Classical.byContradiction (fun c=>hal ⟨h13,c⟩)
    have ep:jbo S.C i (S.os.getD i ja3)=⟨(i:Int)+1,(S.os.getD i ja3).cust,(S.os.getD i ja3).units,12,(S.os.getD i ja3).cents,(S.os.getD i ja3).untl S.C⟩:=by rw [← h12];rfl
    refine jtl x own (psx an x S last) (psx an x (S.ends i 16) last) (psx an x (S.ends i 16).promote last) K (jb3 _ _ _ _) r.kind r.token r.cust r.units r.order ((i:Int)+1) (S.os.getD i ja3).cust (S.os.getD i ja3).units (S.os.getD i ja3).cents ((S.os.getD i ja3).untl S.C) (S.now+S.C.keep) w hw h (fun loc W hW=>?_) (fun loc W hW=>?_) (fun loc W hW=>jaf hw (fun W o hp=>jgy hp K1) W hW)
    ·refine jfk K hw (fun W o hp=>?_) W hW
     have:=H W o hp
     rw [ep] at this
     exact this
    ·refine jaf hw (fun W o hp=>?_) W hW
     have:=jrw hp hK hi 16 (by decide)
     rw [ep] at this
     exact this
 ·have hcf:S.cancel r=(⟨9,0,0,0⟩,S):=by
   unfold Sal.cancel
   cases hf:jej S.os r.cust r.order with
   | none=>rfl
   | some i =>
     obtain ⟨h1,_,_⟩:=jfm ho hf
     simp only
     rw [if_pos ⟨fun c=>hn i hf ⟨h1,.inl (.inr c)⟩,fun c=>hn i hf ⟨h1,.inl (.inl c)⟩⟩]
  exact (jsn x r.kind r.token r.cust r.units r.order w (fun W hW=>H W own (jb6 h hW))).mono (stay hcf)
end
end
section
section
variable {w:World} {x:Nat} {own:Nat->Prop} {S:Sal} {last:Nat} {an:Int}
theorem joj (h:psx an x S last w own) (hl:last<=4294967296) (r:Req) :
 Calls Tryz.prog 169 #[pt x 0,r.val] w fun e w'=>e=.returned (POrd.val ⟨(last:Int)+1,r.cust,r.units,0,0,0⟩)/\jbq (psx an x S (last+1)) w w' own:=by
 obtain ⟨V,hm,hr,ha,han⟩:=h
 have hv:=hr.last
 refine (jxd r.kind r.token r.cust r.units r.order hm (by rw [hv];omega)).mono ?_
 rintro e w' ⟨rfl,hq⟩
 rw [hv] at hq
 refine ⟨by rw [hv],jeo hq ⟨hr.C,hr.now,?_,hr.tn,hr.once,hr.tl,hr.kin,hr.live,hr.ls,hr.ol,hr.turns,hr.sizes,hr.held,hr.sold,hr.lu,hr.cust⟩ ha han⟩
 show (last:Int)+1=((last+1:Nat):Int)
 omega
theorem jy1 (h:psx an x S (S.os.length+1) w own) (hK:saleK S) (c u:Int) (hc:c≠0) (hu:1<=u/\u<=4294967296) :
 Calls Tryz.prog 162 #[pt x 0,POrd.val ⟨(S.os.length:Int)+1,c,u,0,0,0⟩] w fun e w'=>e=.returned (POrd.val ⟨(S.os.length:Int)+1,c,u,13,S.price,S.now+S.C.lease⟩)/\jbq (psx an x (S.more ⟨c,u,13,S.price,S.now+S.C.lease,0⟩) (S.os.length+1)) w w' own:=by
 have hw:=(jb3 an x S (S.os.length+1)).lt h
 refine qdg x own (psx an x S (S.os.length+1)) (psx an x (S.more ⟨c,u,13,S.price,S.now+S.C.lease,0⟩) (S.os.length+1)) (jb3 _ _ _ _) (jb3 _ _ _ _) _ _ _ _ _ _ S.price (S.now+S.C.lease) w hw h (fun W hW=>jfj (jb3 _ _ _ _) hw (fun W o hp=>jzy hp) W hW) (fun W hW=>jeb hw (fun W o hp=>?_) W hW)
 exact jq2 hp hK ⟨(S.os.length:Int)+1,c,u,0,S.price,0⟩ rfl rfl hc hu 13 (.inr rfl) _ rfl rfl rfl rfl (by unfold Ord.untl jaq;rw [if_pos (.inr rfl),if_pos rfl])
theorem qds (h:psx an x S S.os.length w own) (hK:saleK S) (r:Req) (hc:r.cust≠0) (hu:1<=r.units/\r.units<=4294967296) :
 Calls Tryz.prog 155 #[pt x 0,r.val] w fun e w'=>e=.returned (Rep.val ⟨2,(S.os.length:Int)+1,S.price,S.now+S.C.lease⟩)/\jbq (psx an x (S.more ⟨r.cust,r.units,13,S.price,S.now+S.C.lease,0⟩) (S.os.length+1)) w w' own:=by
 have hw:=(jb3 an x S S.os.length).lt h
 exact qet x own (psx an x S S.os.length) (psx an x S (S.os.length+1)) (psx an x (S.more ⟨r.cust,r.units,13,S.price,S.now+S.C.lease,0⟩) (S.os.length+1)) (jb3 _ _ _ _) (jb3 _ _ _ _) (jb3 _ _ _ _) r.kind r.token r.cust r.units r.order ((S.os.length:Int)+1) S.price (S.now+S.C.lease) w hw h (fun loc W hW=>jaf hw (fun W o hp=>joj hp hK.len r) W hW) (fun loc W hW=>jaf hw (fun W o hp=>jy1 hp hK r.cust r.units hc hu) W hW)
theorem jy9 (h:psx an x S S.os.length w own) (hK:saleK S) (r:Req) (hc:r.cust≠0) (hu:1<=r.units/\r.units<=4294967296) :
 Calls Tryz.prog 156 #[pt x 0,r.val] w fun e w'=>e=.returned (Rep.val ⟨3,(S.os.length:Int)+1,0,S.now+S.C.wait⟩)/\jbq (psx an x (S.more ⟨r.cust,r.units,12,0,S.now+S.C.wait,0⟩) (S.os.length+1)) w w' own:=by
 have hw:=(jb3 an x S S.os.length).lt h
 refine jyd x own (psx an x S S.os.length) (psx an x S (S.os.length+1)) (psx an x (S.more ⟨r.cust,r.units,12,0,S.now+S.C.wait,0⟩) (S.os.length+1)) (jb3 _ _ _ _) (jb3 _ _ _ _) (jb3 _ _ _ _) r.kind r.token r.cust r.units r.order ((S.os.length:Int)+1) (S.now+S.C.wait) w hw h (fun loc W hW=>jaf hw (fun W o hp=>joj hp hK.len r) W hW) (fun loc W hW=>jaf hw (fun W o hp=>?_) W hW)
 have:=jq2 hp hK ⟨(S.os.length:Int)+1,r.cust,r.units,0,0,0⟩ rfl rfl hc hu 12 (.inl rfl) ⟨r.cust,r.units,12,0,S.now+S.C.wait,0⟩ rfl rfl rfl rfl (by unfold Ord.untl jaq;rw [if_pos (.inl rfl),if_neg (show ¬ (12:Int)=13 by decide),if_pos rfl])
 rw [show jaq S.C 12=S.C.wait by unfold jaq;rw [if_neg (show ¬ (12:Int)=13 by decide),if_pos rfl]] at this
 exact this
theorem jpz (h:psx an x S last w own) (c:Int) (hc:c≠0) :
 Calls Tryz.prog 61 #[pt x 19,iv c] w fun e w'=>e=.returned (.agg #[iv (ja4 S.os 13 c),iv (ja4 S.os 14 c),iv (ja4 S.os 12 c)])/\Below w.heap.size w w':=by
 obtain ⟨V,⟨g,hm⟩,hr,_⟩:=h
 have:=jvf x 19 g.lu c w (hm.cell 21 _ rfl) hm.lu.1 (by rw [hm.lu.2];exact hr.lu.1)
 rw [hm.lu.2,jii hr.lu hc (.inr (.inl rfl)),jii hr.lu hc (.inr (.inr rfl)),jii hr.lu hc (.inl rfl)] at this
 exact this
theorem jym (h:psx an x S last w own) :
 Calls Tryz.prog 59 #[pt x 15] w fun e w'=>e=.returned (iv (ja7 S.os).length)/\Below w.heap.size w w':=by
 obtain ⟨V,⟨g,hm⟩,hr,_⟩:=h
 have:=jyl x 15 V.qt.length w (hm.cell 16 _ rfl)
 rw [jzd hr.turns] at this
 exact this
theorem jeu (h:psx an x S last w own):w.cell? (aq x 1)=some (iv S.C.cap)/\w.cell? (aq x 2)=some (iv S.C.queue)/\w.cell? (aq x 9)=some (iv last)/\w.cell? (aq x 8)=some (iv S.now)/\w.cell? (aq x 5)=some (iv S.C.keep)/\w.cell? (aq x 6)=some (iv S.C.tokens)/\w.cell? (aq x 19)=some (iv (ja4 S.os 13 0))/\w.cell? (aq x 20)=some (iv (ja4 S.os 14 0)):=by
 obtain ⟨V,⟨g,hm⟩,hr,_⟩:=h
 have e1:=hm.cell 1 (iv V.C.cap) rfl
 have e2:=hm.cell 2 (iv V.C.queue) rfl
 have e9:=hm.cell 9 (iv V.last) rfl
 have e8:=hm.cell 8 (iv V.now) rfl
 have e5:=hm.cell 5 (iv V.C.keep) rfl
 have e6:=hm.cell 6 (iv V.C.tokens) rfl
 have e19:=hm.cell 19 (iv V.held) rfl
 have e20:=hm.cell 20 (iv V.sold) rfl
 rw [hr.C] at e1 e2 e5 e6
 rw [hr.last] at e9
 rw [hr.now] at e8
 rw [hr.held] at e19
 rw [hr.sold] at e20
 exact ⟨e1,e2,e9,e8,e5,e6,e19,e20⟩
theorem qga (h:psx an x S S.os.length w own) (hK:saleK S) (hq:((ja7 S.os).length:Int)<=S.C.queue) (r:Req) (hc:r.cust≠0) (hu:1<=r.units/\r.units<=4294967296) :
 Calls Tryz.prog 132 #[pt x 0,r.val] w fun e w'=>e=.returned (S.ask r).1.val/\jbq (psx an x (S.ask r).2 (S.ask r).2.os.length) w w' own:=by
 have K:=jb3 an x S S.os.length
 have hw:=K.lt h
 obtain ⟨x1,x2,x9,_⟩:=jeu h
 have b13:=jh8 hK.I (st:=13) (c:=r.cust) (.inr (.inl rfl)) (.inl hc)
 have b14:=jh8 hK.I (st:=14) (c:=r.cust) (.inr (.inr rfl)) (.inl hc)
 have b12:=jh8 hK.I (st:=12) (c:=r.cust) (.inl rfl) (.inl hc)
 have l13:=jf7 hK.I 13 r.cust
 have l14:=jf7 hK.I 14 r.cust
 have l12:=jf7 hK.I 12 r.cust
 have hqn:((ja7 S.os).length:Int)=0↔ja7 S.os=[]:=by
  rw [← List.length_eq_zero_iff];omega
 have H:=qcb x own (psx an x S S.os.length) (psx an x (S.more ⟨r.cust,r.units,13,S.price,S.now+S.C.lease,0⟩) (S.os.length+1)) (psx an x (S.more ⟨r.cust,r.units,12,0,S.now+S.C.wait,0⟩) (S.os.length+1)) K (jb3 _ _ _ _) (jb3 _ _ _ _)
  (fun v W=>v=(S.ask r).1.val/\jbq (psx an x (S.ask r).2 (S.ask r).2.os.length) w W own)
  r.kind r.token r.cust r.units r.order (ja4 S.os 13 r.cust) (ja4 S.os 14 r.cust) (ja4 S.os 12 r.cust) (ja7 S.os).length S.left S.free S.C.cap S.os.length S.C.queue 2 ((S.os.length:Int)+1) S.price (S.now+S.C.lease) 3 ((S.os.length:Int)+1) 0 (S.now+S.C.wait) w
  (jag (by omega) (by omega)) (jag (by omega) (by omega)) (jag (by omega) (by omega)) hw h x1 x2 x9
  (S.C.cap<ja4 S.os 13 r.cust+ja4 S.os 14 r.cust+ja4 S.os 12 r.cust+r.units) (S.left<r.units) (4294967296<=S.os.length) (ja7 S.os=[]/\r.units<=S.free) (((ja7 S.os).length:Int)=S.C.queue)
  Iff.rfl Iff.rfl (show _↔_ by omega) (show _↔_ by rw [hqn]) (show _↔_ by omega)
  (fun W hW=>jpz (jb6 h hW) r.cust hc) (fun W hW=>jym (jb6 h hW)) (fun W hW=>qdh (jb6 h hW) hK) (fun W hW=>jzu (jb6 h hW) hK)
  (fun c1 W hW=>by
    have e:S.ask r=(⟨4,0,0,0⟩,S):=by unfold Sal.ask;rw [if_pos c1]
    rw [e];exact ⟨rfl,jb7 K h hW⟩)
  (fun c1 c2 W hW=>by
    have e:S.ask r=(⟨5,0,0,0⟩,S):=by unfold Sal.ask;rw [if_neg c1,if_pos c2]
    rw [e];exact ⟨rfl,jb7 K h hW⟩)
  (fun c1 c2 c3 W hW=>by
    have e:S.ask r=(⟨6,0,0,0⟩,S):=by unfold Sal.ask;rw [if_neg c1,if_neg c2,if_pos c3]
    rw [e];exact ⟨rfl,jb7 K h hW⟩)
  (fun c1 c2 c3 c4=>⟨fun loc W hW=>jaf hw (fun W o hp=>qds hp hK r hc hu) W hW,fun W ha=>by
    obtain ⟨e1,e2⟩:=jhb S r.cust r.units
    rw [e2] at e1
    have e:S.ask r=(⟨2,(S.os.length:Int)+1,S.price,S.now+S.C.lease⟩,S.more ⟨r.cust,r.units,13,S.price,S.now+S.C.lease,0⟩):=by
     unfold Sal.ask
     rw [if_neg c1,if_neg c2,if_neg c3,if_pos c4,e1]
     congr 2
     show ((S.os++[_]).getD S.os.length ja3).cents=_
     rw [jau (by omega),if_pos rfl]
    rw [e]
    refine ⟨rfl,?_⟩
    rw [show (S.more ⟨r.cust,r.units,13,S.price,S.now+S.C.lease,0⟩).os.length=S.os.length+1 by simp [Sal.more]]
    exact ha⟩)
  (fun c1 c2 c3 c4 c5 W hW=>by
    have e:S.ask r=(⟨6,0,0,0⟩,S):=by unfold Sal.ask;rw [if_neg c1,if_neg c2,if_neg c3,if_neg c4,if_pos c5]
    rw [e];exact ⟨rfl,jb7 K h hW⟩)
  (fun c1 c2 c3 c4 c5=>⟨fun loc W hW=>jaf hw (fun W o hp=>jy9 hp hK r hc hu) W hW,fun W ha=>by
    have e:S.ask r=(⟨3,(S.os.length:Int)+1,0,S.now+S.C.wait⟩,S.more ⟨r.cust,r.units,12,0,S.now+S.C.wait,0⟩):=by unfold Sal.ask;rw [if_neg c1,if_neg c2,if_neg c3,if_neg c4,if_neg c5]
    rw [e]
    refine ⟨rfl,?_⟩
    rw [show (S.more ⟨r.cust,r.units,12,0,S.now+S.C.wait,0⟩).os.length=S.os.length+1 by simp [Sal.more]]
    exact ha⟩)
 refine H.mono ?_
 rintro e w' ⟨v,rfl,rfl,ha⟩
 exact ⟨rfl,ha⟩
theorem jsr (S:Sal) (r:Req):(S.confirm r).2.os.length=S.os.length:=by
 unfold Sal.confirm
 split
 ·rfl
 ·split
  ·rfl
  ·show (Sal.promote _).os.length=_
   rw [jc4,jjz,jch]
theorem jv4 (S:Sal) (r:Req):(S.cancel r).2.os.length=S.os.length:=by
 unfold Sal.cancel
 split
 ·rfl
 ·split
  ·rfl
  ·show (Sal.promote _).os.length=_
   rw [jc4,jch]
theorem qgc (h:psx an x S S.os.length w own) (hK:saleK S) (hq:((ja7 S.os).length:Int)<=S.C.queue) (r:Req) (h1:r.kind=1->r.cust≠0/\1<=r.units/\r.units<=4294967296) (h2:r.kind≠1->1<=r.order) :
 Calls Tryz.prog 101 #[pt x 0,r.val] w fun e w'=>e=.returned (S.doS r).1.val/\jbq (psx an x (S.doS r).2 (S.doS r).2.os.length) w w' own:=by
 have K:=jb3 an x S S.os.length
 have hw:=K.lt h
 obtain ⟨k,t,c,u,o⟩:=r
 by_cases e1:k=1
 ·subst e1
  have e:S.doS ⟨1,t,c,u,o⟩=S.ask ⟨1,t,c,u,o⟩:=by unfold Sal.doS;rw [if_pos rfl]
  rw [e]
  obtain ⟨q1,q2⟩:=h1 rfl
  exact qff x own (psx an x S S.os.length) _ K (jb3 _ _ _ _) t c u o _ _ _ _ w hw h (fun loc W hW=>jaf hw (fun W o hp=>qga hp hK hq _ q1 q2) W hW)
 ·have h2':=h2 e1
  by_cases e2:k=2
  ·subst e2
   have e:S.doS ⟨2,t,c,u,o⟩=S.confirm ⟨2,t,c,u,o⟩:=by unfold Sal.doS;rw [if_neg (show ¬ (2:Int)=1 by decide),if_pos rfl]
   rw [e,jsr]
   exact jw0 x own (psx an x S S.os.length) _ K (jb3 _ _ _ _) t c u o _ _ _ _ w hw h (fun loc W hW=>jaf hw (fun W o hp=>qaf hp hK _ h2') W hW)
  ·have e:S.doS ⟨k,t,c,u,o⟩=S.cancel ⟨k,t,c,u,o⟩:=by unfold Sal.doS;rw [if_neg e1,if_neg e2]
   rw [e,jv4]
   exact qa6 x own (psx an x S S.os.length) _ K (jb3 _ _ _ _) k t c u o _ _ _ _ w (by simpa using e1) (by simpa using e2) hw h (fun loc W hW=>jaf hw (fun W o hp=>qbm hp hK _ h2') W hW)
end
end
end Go.Proofs.YtfhncfghblkgeaaGreat
