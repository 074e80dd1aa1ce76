import Derived.Test.YtfhncfghblkgeaaGreatL23
import Derived.Test.YtfhncfghblkgeaaGreatL24
set_option maxRecDepth 100000
set_option maxHeartbeats 2000000
namespace Go.Proofs.YtfhncfghblkgeaaGreat
open Go.RowKit
section
theorem joa {p:Nat->Prop} (h:∃ n,p n):∃ n,p n/\∀ m,p m->n<=m:=by
 obtain ⟨n,hn⟩:=h
 induction n using Nat.strongRecOn with
 | _ n ih =>
   by_cases hx:∃ m,m<n/\p m
   ·obtain ⟨m,h1,h2⟩:=hx
    exact ih m h1 h2
   ·exact ⟨n,hn,fun m hm=>Nat.le_of_not_lt (fun c=>hx ⟨m,c,hm⟩)⟩
open Classical in
noncomputable def fuel (p:Nat->Prop):Nat:=if h:∃ n,p n then Classical.choose (joa h) else 0
theorem jr4 {p:Nat->Prop} (h:∃ n,p n):p (fuel p):=by
 unfold fuel
 rw [dif_pos h]
 exact (Classical.choose_spec (joa h)).1
theorem jrm {p:Nat->Prop} {n:Nat} (h:p n):fuel p<=n:=by
 unfold fuel
 rw [dif_pos ⟨n,h⟩]
 exact (Classical.choose_spec (joa ⟨n,h⟩)).2 n h
theorem qah (x:Nat) (own:Nat->Prop) (P P':World->(Nat->Prop)->Prop) (KP:Keeps P) (KP':Keeps P') (num cust units st cents up c up':Int) (w:World) (hw:∀ k,own k->k<w.heap.size) (h:P w own)
 (HP:Hid (qcb w own 2 P P 178 #[pt x 0] (iv c)))
 (HM:Hid (qcb w own 2 P P' 157 #[pt x 0,.agg #[iv num,iv cust,iv units,iv st,iv c,iv up],iv 13] (.agg #[iv num,iv cust,iv units,iv 13,iv c,iv up']))) :
 Calls Tryz.prog 162 #[pt x 0,.agg #[iv num,iv cust,iv units,iv st,iv cents,iv up]] w fun e w'=>e=.returned (.agg #[iv num,iv cust,iv units,iv 13,iv c,iv up'])/\jar P' w w' own:=by
 go_enter Tryz.func162,Tryz.ntmps162
 have hT0:Hid (jb5 P w own 2 ((w.alloc (.cells #[iv num,iv cust,iv units,iv st,iv cents,iv up] 184)).alloc (.cells #[iv 0,iv 0,iv 0,iv 0,iv 0,iv 0] 184))):=jcw KP h (((Below.refl _ _).alloc (Nat.le_refl _) _).alloc (by simp) _) (by simp)
 have ob0:Hid (((w.alloc (.cells #[iv num,iv cust,iv units,iv st,iv cents,iv up] 184)).alloc (.cells #[iv 0,iv 0,iv 0,iv 0,iv 0,iv 0] 184)).heap[w.heap.size]?=some (.cells #[iv num,iv cust,iv units,iv st,iv cents,iv up] 184 (0,0))):=(Below.heap_alloc _ _ _ (by simp)).trans (heap_alloc_new w _)
 have rb0:Hid (((w.alloc (.cells #[iv num,iv cust,iv units,iv st,iv cents,iv up] 184)).alloc (.cells #[iv 0,iv 0,iv 0,iv 0,iv 0,iv 0] 184)).heap[w.heap.size+1]?=some (.cells #[iv 0,iv 0,iv 0,iv 0,iv 0,iv 0] 184 (0,0))):=by
  have h:=heap_alloc_new (w.alloc (.cells #[iv num,iv cust,iv units,iv st,iv cents,iv up] 184)) (.cells #[iv 0,iv 0,iv 0,iv 0,iv 0,iv 0] 184)
  rwa [show (w.alloc (.cells #[iv num,iv cust,iv units,iv st,iv cents,iv up] 184)).heap.size=w.heap.size+1 by simp] at h
 clear h
 go_wp2_with fail
 generalize (w.alloc (.cells #[iv num,iv cust,iv units,iv st,iv cents,iv up] 184)).alloc (.cells #[iv 0,iv 0,iv 0,iv 0,iv 0,iv 0] 184)=W0 at hT0 ob0 rb0 ⊢
 refine (HP.out _ hT0.out).mono ?_
 rintro e W1 ⟨rfl,hT1,hk⟩
 have ob1:Hid (W1.heap[w.heap.size]?=some (.cells #[iv num,iv cust,iv units,iv st,iv cents,iv up] 184 (0,0))):=(hk _ (Nat.le_refl _) (by omega)).trans ob0.out
 have rb1:Hid (W1.heap[w.heap.size+1]?=some (.cells #[iv 0,iv 0,iv 0,iv 0,iv 0,iv 0] 184 (0,0))):=(hk _ (by omega) (by omega)).trans rb0.out
 clear hk hT0 ob0 rb0
 obtain ⟨s0,s1,s2,s3,s4,s5⟩:=ja1 ob1.out
 have f4:=ja0 ob1.out 4
 have hT2:Hid (jb5 P w own 2 (W1.setCell (aq w.heap.size 4) (iv c))):=jcz KP hT1 hw (Nat.le_refl _) (by omega) _
 have rb2:Hid ((W1.setCell (aq w.heap.size 4) (iv c)).heap[w.heap.size+1]?=some (.cells #[iv 0,iv 0,iv 0,iv 0,iv 0,iv 0] 184 (0,0))):=(Below.heap_setCell _ (aq w.heap.size 4) _ _ (by show w.heap.size+1≠w.heap.size;omega)).trans rb1.out
 have lw1:w.heap.size<W1.heap.size:=(blt ob1.out)
 have lv1:w.heap.size+1<W1.heap.size:=(blt rb1.out)
 clear ob1 rb1 hT1
 go_wp2_with fail
 refine (HM.out _ hT2.out).mono ?_
 rintro e W2 ⟨rfl,hT3,hk⟩
 have rb3:Hid (W2.heap[w.heap.size+1]?=some (.cells #[iv 0,iv 0,iv 0,iv 0,iv 0,iv 0] 184 (0,0))):=(hk _ (by omega) (by omega)).trans rb2.out
 have lv2:w.heap.size+1<W2.heap.size:=(blt rb3.out)
 have HE:Hid (∀ v0 v1 v2 v3 v4 v5,jar P' w ((((((W2.setCell (aq (w.heap.size+1) 0) v0).setCell (aq (w.heap.size+1) 1) v1).setCell (aq (w.heap.size+1) 2) v2).setCell (aq (w.heap.size+1) 3) v3).setCell (aq (w.heap.size+1) 4) v4).setCell (aq (w.heap.size+1) 5) v5) own):=fun v0 v1 v2 v3 v4 v5=>jdg (jkz KP' hT3 hw (by omega) (by omega) v0 v1 v2 v3 v4 v5)
 have g0:=ja0 rb3.out 0
 have g1:=ja0 rb3.out 1
 have g2:=ja0 rb3.out 2
 have g3:=ja0 rb3.out 3
 have g4:=ja0 rb3.out 4
 have g5:=ja0 rb3.out 5
 obtain ⟨r0,r1,r2,r3,r4,r5⟩:=ja1 rb3.out
 clear hk hT2 rb2 hT3 s0 s1 s2 s3 s4 s5 f4
 go_wp2
 refine bodyPost_ret (v:=.agg #[iv num,iv cust,iv units,iv 13,iv c,iv up']) (by simp [results,Tryz.results162,go_sem,r0,r1,r2,r3,r4,r5]) rfl ⟨rfl,?_⟩
 exact HE.out _ _ _ _ _ _
theorem jxl (x:Nat) (n:Int) (w:World)
 (HF:Hid (∀ W,Below w.heap.size w W->Calls Tryz.prog 177 #[pt x 15] W fun e w'=>e=.returned (.tuple #[iv n,.bool false])/\Below W.heap.size W w')) :
 Calls Tryz.prog 161 #[pt x 0] w fun e w'=>e=.returned (.tuple #[.agg #[iv 0,iv 0,iv 0,iv 0,iv 0,iv 0],.bool false])/\Below w.heap.size w w':=by
 go_enter Tryz.func161,Tryz.ntmps161
 go_wp2_with fail
 refine (HF.out _ ((Below.refl _ _).alloc (Nat.le_refl _) _)).mono ?_
 rintro e w1 ⟨rfl,b1⟩
 have n1:w1.heap[w.heap.size]?=some (.cells #[iv 0,iv 0,iv 0,iv 0,iv 0,iv 0] 184 (0,0)):=(b1.block _ (by simp)).trans (heap_alloc_new w _)
 have hb1:Below w.heap.size w w1:=Below.trans ((Below.refl _ _).alloc (Nat.le_refl _) _) (b1.mono (by simp))
 have z1:w.heap.size<w1.heap.size:=(blt n1)
 obtain ⟨s0,s1,s2,s3,s4,s5⟩:=ja1 n1
 have f0:=ja0 n1 0
 have f1:=ja0 n1 1
 have f2:=ja0 n1 2
 have f3:=ja0 n1 3
 have f4:=ja0 n1 4
 have f5:=ja0 n1 5
 clear b1 n1
 go_wp2
 refine bodyPost_ret (v:=.tuple #[.agg #[iv 0,iv 0,iv 0,iv 0,iv 0,iv 0],.bool false]) (by simp [results,Tryz.results161,go_sem,s0,s1,s2,s3,s4,s5]) rfl ⟨rfl,?_⟩
 exact jbh hb1 (Nat.le_refl _)
theorem jt4 (x:Nat) (n num cust units st cents up:Int) (w:World)
 (HF:Hid (∀ W,Below w.heap.size w W->Calls Tryz.prog 177 #[pt x 15] W fun e w'=>e=.returned (.tuple #[iv n,.bool true])/\Below W.heap.size W w'))
 (HG:Hid (∀ W,Below w.heap.size w W->Calls Tryz.prog 131 #[pt x 11,iv n] W fun e w'=>e=.returned (.tuple #[.agg #[iv num,iv cust,iv units,iv st,iv cents,iv up],.bool true])/\Below W.heap.size W w')) :
 Calls Tryz.prog 161 #[pt x 0] w fun e w'=>e=.returned (.tuple #[.agg #[iv num,iv cust,iv units,iv st,iv cents,iv up],.bool true])/\Below w.heap.size w w':=by
 go_enter Tryz.func161,Tryz.ntmps161
 go_wp2_with fail
 refine (HF.out _ ((Below.refl _ _).alloc (Nat.le_refl _) _)).mono ?_
 rintro e w1 ⟨rfl,b1⟩
 have n1:w1.heap[w.heap.size]?=some (.cells #[iv 0,iv 0,iv 0,iv 0,iv 0,iv 0] 184 (0,0)):=(b1.block _ (by simp)).trans (heap_alloc_new w _)
 have hb1:Below w.heap.size w w1:=Below.trans ((Below.refl _ _).alloc (Nat.le_refl _) _) (b1.mono (by simp))
 have z1:w.heap.size<w1.heap.size:=(blt n1)
 clear b1
 go_wp2_with fail
 refine (HG.out _ hb1).mono ?_
 rintro e w2 ⟨rfl,b2⟩
 have n2:=(b2.block _ z1).trans n1
 have hb2:Below w.heap.size w w2:=Below.trans hb1 (b2.mono hb1.size)
 have z2:w.heap.size<w2.heap.size:=(blt n2)
 obtain ⟨s0,s1,s2,s3,s4,s5⟩:=ja1 n2
 have f0:=ja0 n2 0
 have f1:=ja0 n2 1
 have f2:=ja0 n2 2
 have f3:=ja0 n2 3
 have f4:=ja0 n2 4
 have f5:=ja0 n2 5
 clear b2 n2 n1 HF HG
 go_wp2
 refine bodyPost_ret (v:=.tuple #[.agg #[iv num,iv cust,iv units,iv st,iv cents,iv up],.bool true]) (by simp [results,Tryz.results161,go_sem,s0,s1,s2,s3,s4,s5]) rfl ⟨rfl,?_⟩
 exact jbh hb2 (Nat.le_refl _)
theorem jx8 (x:Nat) (n:Int) (w:World)
 (HF:Hid (∀ W,Below w.heap.size w W->Calls Tryz.prog 186 #[pt x 15] W fun e w'=>e=.returned (.tuple #[iv n,.bool false])/\Below W.heap.size W w')) :
 Calls Tryz.prog 175 #[pt x 0] w fun e w'=>e=.returned (.tuple #[.agg #[iv 0,iv 0,iv 0,iv 0,iv 0,iv 0],.bool false])/\Below w.heap.size w w':=by
 go_enter Tryz.func175,Tryz.ntmps175
 go_wp2_with fail
 refine (HF.out _ ((Below.refl _ _).alloc (Nat.le_refl _) _)).mono ?_
 rintro e w1 ⟨rfl,b1⟩
 have n1:w1.heap[w.heap.size]?=some (.cells #[iv 0,iv 0,iv 0,iv 0,iv 0,iv 0] 184 (0,0)):=(b1.block _ (by simp)).trans (heap_alloc_new w _)
 have hb1:Below w.heap.size w w1:=Below.trans ((Below.refl _ _).alloc (Nat.le_refl _) _) (b1.mono (by simp))
 have z1:w.heap.size<w1.heap.size:=(blt n1)
 obtain ⟨s0,s1,s2,s3,s4,s5⟩:=ja1 n1
 have f0:=ja0 n1 0
 have f1:=ja0 n1 1
 have f2:=ja0 n1 2
 have f3:=ja0 n1 3
 have f4:=ja0 n1 4
 have f5:=ja0 n1 5
 clear b1 n1
 go_wp2
 refine bodyPost_ret (v:=.tuple #[.agg #[iv 0,iv 0,iv 0,iv 0,iv 0,iv 0],.bool false]) (by simp [results,Tryz.results175,go_sem,s0,s1,s2,s3,s4,s5]) rfl ⟨rfl,?_⟩
 exact jbh hb1 (Nat.le_refl _)
theorem jtu (x:Nat) (n num cust units st cents up:Int) (w:World)
 (HF:Hid (∀ W,Below w.heap.size w W->Calls Tryz.prog 186 #[pt x 15] W fun e w'=>e=.returned (.tuple #[iv n,.bool true])/\Below W.heap.size W w'))
 (HG:Hid (∀ W,Below w.heap.size w W->Calls Tryz.prog 131 #[pt x 11,iv n] W fun e w'=>e=.returned (.tuple #[.agg #[iv num,iv cust,iv units,iv st,iv cents,iv up],.bool true])/\Below W.heap.size W w')) :
 Calls Tryz.prog 175 #[pt x 0] w fun e w'=>e=.returned (.tuple #[.agg #[iv num,iv cust,iv units,iv st,iv cents,iv up],.bool true])/\Below w.heap.size w w':=by
 go_enter Tryz.func175,Tryz.ntmps175
 go_wp2_with fail
 refine (HF.out _ ((Below.refl _ _).alloc (Nat.le_refl _) _)).mono ?_
 rintro e w1 ⟨rfl,b1⟩
 have n1:w1.heap[w.heap.size]?=some (.cells #[iv 0,iv 0,iv 0,iv 0,iv 0,iv 0] 184 (0,0)):=(b1.block _ (by simp)).trans (heap_alloc_new w _)
 have hb1:Below w.heap.size w w1:=Below.trans ((Below.refl _ _).alloc (Nat.le_refl _) _) (b1.mono (by simp))
 have z1:w.heap.size<w1.heap.size:=(blt n1)
 clear b1
 go_wp2_with fail
 refine (HG.out _ hb1).mono ?_
 rintro e w2 ⟨rfl,b2⟩
 have n2:=(b2.block _ z1).trans n1
 have hb2:Below w.heap.size w w2:=Below.trans hb1 (b2.mono hb1.size)
 have z2:w.heap.size<w2.heap.size:=(blt n2)
 obtain ⟨s0,s1,s2,s3,s4,s5⟩:=ja1 n2
 have f0:=ja0 n2 0
 have f1:=ja0 n2 1
 have f2:=ja0 n2 2
 have f3:=ja0 n2 3
 have f4:=ja0 n2 4
 have f5:=ja0 n2 5
 clear b2 n2 n1 HF HG
 go_wp2
 refine bodyPost_ret (v:=.tuple #[.agg #[iv num,iv cust,iv units,iv st,iv cents,iv up],.bool true]) (by simp [results,Tryz.results175,go_sem,s0,s1,s2,s3,s4,s5]) rfl ⟨rfl,?_⟩
 exact jbh hb2 (Nat.le_refl _)
end
def POrd.cells (p:POrd):Array Value:=#[iv p.num,iv p.cust,iv p.units,iv p.st,iv p.cents,iv p.upto]
def jf5 {σ:Type} (P:σ->World->(Nat->Prop)->Prop) (Inv:σ->Prop) (fst:σ->Option POrd) (fin:σ->σ) (μ:σ->Nat) (s:σ) (w1:World) (own:Nat->Prop) (v:Value) (wr:World) (n:Nat):Prop :=
 ∃ s',Inv s'/\μ s'=n/\fin s'=fin s/\jb5 (P s') w1 own 1 wr/\v=.bool (fst s').isSome/\wr.heap[w1.heap.size]?=some (.cells ((fst s').getD pord0).cells 184 (0,0))
theorem jfg {W:World} {b:Nat} {c0 c1 c2 c3 c4 c5:Value} {T:TypeId} (h:W.heap[b]?=some (.cells #[c0,c1,c2,c3,c4,c5] T (0,0))) (v0 v1 v2 v3 v4 v5:Value):((((((W.setCell (aq b 0) v0).setCell (aq b 1) v1).setCell (aq b 2) v2).setCell (aq b 3) v3).setCell (aq b 4) v4).setCell (aq b 5) v5).heap[b]?=some (.cells #[v0,v1,v2,v3,v4,v5] T (0,0)):=by
 have h2:=Joins.block_setCell (i:=0) h v0
 have h3:=Joins.block_setCell (i:=1) h2 v1
 have h4:=Joins.block_setCell (i:=2) h3 v2
 have h5:=Joins.block_setCell (i:=3) h4 v3
 have h6:=Joins.block_setCell (i:=4) h5 v4
 exact Joins.block_setCell (i:=5) h6 v5
theorem jqd {σ:Type} (x:Nat) (P:σ->World->(Nat->Prop)->Prop) (KP:∀ s,Keeps (P s)) (Inv:σ->Prop) (fst:σ->Option POrd) (fr:σ->Int) (nx fin:σ->σ) (μ:σ->Nat) (rv:σ->Value) (cd:σ->POrd->Prop) (hcd:Hid (∀ s p,cd s p↔p.units<=fr s))
 (hF:Hid (∀ s,Inv s->∀ W o,P s W o->Calls Tryz.prog 161 #[pt x 0] W fun e w'=>e=.returned (.tuple #[((fst s).getD pord0).val,.bool (fst s).isSome])/\Below W.heap.size W w'))
 (hL:Hid (∀ s,Inv s->∀ W o,P s W o->Calls Tryz.prog 58 #[pt x 0] W fun e w'=>e=.returned (iv (fr s))/\Below W.heap.size W w'))
 (hO:Hid (∀ s p,Inv s->fst s=some p->cd s p->∀ W o,P s W o->Calls Tryz.prog 162 #[pt x 0,p.val] W fun e w'=>e=.returned (rv s)/\jar (P (nx s)) W w' o))
 (hN:Hid (∀ s p,Inv s->fst s=some p->cd s p->Inv (nx s)/\μ (nx s)<μ s/\fin (nx s)=fin s))
 (hE:Hid (∀ s,Inv s->(∀ p,fst s=some p->¬ cd s p)->fin s=s)) (s:σ) (w:World) (own:Nat->Prop) (hi:Inv s) (h:P s w own) :
 Calls Tryz.prog 137 #[pt x 0] w fun e w'=>e=.returned (.tuple #[])/\jar (P (fin s)) w w' own:=by
 have hw:=(KP s).lt h
 go_enter Tryz.func137,Tryz.ntmps137
 go_wp2_with fail
 refine (hF.out s hi w own h).mono ?_
 rintro e w1 ⟨rfl,b1⟩
 have h1:P s w1 own:=(KP s).keep h b1.size (fun k e=>b1.block k (hw k e))
 have hw1:Hid (∀ k,own k->k<w1.heap.size):=fun k e=>Nat.lt_of_lt_of_le (hw k e) b1.size
 have HFRONT:Hid (∀ s' w',jar (P s') w1 w' own->jar (P s') w w' own):=fun s' w' ha=>jiv b1 ha
 have HI0:Hid (jf5 P Inv fst fin μ s w1 own (.bool (fst s).isSome) (w1.alloc (.cells ((fst s).getD pord0).cells 184)) (μ s)):=⟨s,hi,rfl,rfl,jcw (KP s) h1 ((Below.refl _ _).alloc (Nat.le_refl _) _) (by simp),rfl,heap_alloc_new w1 _⟩
 clear h h1 hi hw b1
 unfold POrd.val
 unfold POrd.cells at HI0
 generalize (fst s).getD pord0=p0 at HI0 ⊢
 generalize (fst s).isSome=b0 at HI0 ⊢
 go_wp2_with fail
 go_loopw [3] (fun v wr=>∃ n,jf5 P Inv fst fin μ s w1 own v wr n) (fun v wr=>fuel (jf5 P Inv fst fin μ s w1 own v wr))
 case atStart=>exact ⟨_,HI0.out⟩
 case round =>
  have hfu:=jr4 hrel
  obtain ⟨s',i1,i2,i3,hT,rfl,ob⟩:=hfu
  replace hT:Hid _:=hT
  replace i1:Hid _:=i1
  have ob:Hid _:=ob
  have HM:Hid (∀ v' w' m,jf5 P Inv fst fin μ s w1 own v' w' m->m<μ s'->(∃ n,jf5 P Inv fst fin μ s w1 own v' w' n)/\fuel (jf5 P Inv fst fin μ s w1 own v' w')<fuel (jf5 P Inv fst fin μ s w1 own (.bool (fst s').isSome) wr)):=fun v' w' m h1 h2=>⟨⟨m,h1⟩,by rw [← i2];exact Nat.lt_of_le_of_lt (jrm h1) h2⟩
  clear hrel i2
  have HX:Hid (∀ w',jb5 (P s') w1 own 1 w'->(∀ p,fst s'=some p->¬ cd s' p)->jar (P (fin s)) w w' own):=fun w' h1 h2=>by
   rw [← i3,hE.out s' i1.out h2]
   exact HFRONT.out _ _ (jdg h1)
  cases hf:fst s' with
  | none =>
    have HX':Hid (∀ w',jb5 (P s') w1 own 1 w'->jar (P (fin s)) w w' own):=fun w' h1=>HX.out w' h1 (fun p e=>by rw [hf] at e;cases e)
    rw [hf] at HM
    clear HX ob HI0
    simp only [Option.isSome_none]
    go_wp2_with fail
    go_quiet (fail)
    go_wp2
    first|go_end0|refine bodyPost_ret (results_none rfl _ _ _) rfl ?_
    exact ⟨rfl,HX'.out _ (jai (KP s') hT.out bL)⟩
  | some p =>
    rw [hf] at HM ob
    simp only [Option.getD_some,POrd.cells,Option.isSome_some] at ob HM ⊢
    obtain ⟨s0,s1,s2,s3,s4,s5⟩:=ja1 ob.out
    have lw:w1.heap.size<wr.heap.size:=(blt ob.out)
    have HLs:Hid (∀ W,jb5 (P s') w1 own 1 W->Calls Tryz.prog 58 #[pt x 0] W fun e w'=>e=.returned (iv (fr s'))/\jb5 (P s') w1 own 1 w'/\∀ b,w1.heap.size<=b->b<w1.heap.size+1->w'.heap[b]?=W.heap[b]?):=fun W hW=>jfb (KP s') hw1.out (hL.out s' i1.out) W hW
    by_cases hle:cd s' p
    ·have HOs:Hid (∀ W,jb5 (P s') w1 own 1 W->Calls Tryz.prog 162 #[pt x 0,p.val] W fun e w'=>e=.returned (rv s')/\jb5 (P (nx s')) w1 own 1 w'/\∀ b,w1.heap.size<=b->b<w1.heap.size+1->w'.heap[b]?=W.heap[b]?):=fun W hW=>jcb hw1.out (hO.out s' p i1.out hf hle) W hW
     obtain ⟨n1,n2,n3⟩:=hN.out s' p i1.out hf hle
     have HFs:Hid (∀ W,jb5 (P (nx s')) w1 own 1 W->Calls Tryz.prog 161 #[pt x 0] W fun e w'=>e=.returned (.tuple #[((fst (nx s')).getD pord0).val,.bool (fst (nx s')).isSome])/\jb5 (P (nx s')) w1 own 1 w'/\∀ b,w1.heap.size<=b->b<w1.heap.size+1->w'.heap[b]?=W.heap[b]?):=fun W hW=>jfb (KP (nx s')) hw1.out (hF.out (nx s') n1) W hW
     have HR:Hid (∀ W',jb5 (P (nx s')) w1 own 1 W'->W'.heap[w1.heap.size]?=some (.cells ((fst (nx s')).getD pord0).cells 184 (0,0))->(∃ n,jf5 P Inv fst fin μ s w1 own (.bool (fst (nx s')).isSome) W' n)/\fuel (jf5 P Inv fst fin μ s w1 own (.bool (fst (nx s')).isSome) W')<fuel (jf5 P Inv fst fin μ s w1 own (.bool true) wr)):=fun W' h1 h2=>HM.out _ W' _ ⟨nx s',n1,rfl,n3.trans i3,h1,rfl,h2⟩ n2
     clear HM HX hO hN hE hF hL n1 n2 n3 i3 HFRONT HI0
     unfold POrd.val at HOs HFs
     unfold POrd.cells at HR
     have hle2:=(hcd.out s' p).1 hle
     clear hcd hle
     have dl:decide (p.units<=fr s')=true:=by simpa using hle2
     generalize (fst (nx s')).getD pord0=p1 at HFs HR
     generalize (fst (nx s')).isSome=b1 at HFs HR
     generalize fr s'=fs at HLs hle2 dl
     generalize hP':P s'=Pa at hT HLs HOs
     have KPa:Keeps Pa:=hP'▸KP s'
     generalize hPn:P (nx s')=Pb at HOs HFs HR
     have KPb:Keeps Pb:=hPn▸KP (nx s')
     clear hP' hPn i1 hf
     generalize rv s'=rr at HOs
     go_wp2_with fail
     go_region_held3 (fun w'=>w'.cell? (aq w1.heap.size 2)=some (iv p.units)) (simp [go_sem, *])
      (first
        | (go_at_call 58;refine (HLs.out _ (jai KPa hT.out bL)).mono ?_;rintro e W1 ⟨rfl,hT1,hk⟩
           have ob1:Hid _:=(hk _ (Nat.le_refl _) (by omega)).trans ob.out
           obtain ⟨s0',s1',s2',s3',s4',s5'⟩:=ja1 ob1.out
           have lw1:w1.heap.size<W1.heap.size:=(blt ob1.out)
           replace hT1:Hid _:=hT1
           clear hk))
     clear s0 s1 s2 s3 s4 s5 hT ob lw
     go_wp2_with fail
     refine (HOs.out _ hT1.out).mono ?_
     rintro e W2 ⟨rfl,hT2,hk⟩
     have ob2:Hid _:=(hk _ (Nat.le_refl _) (by omega)).trans ob1.out
     clear s0' s1' s2' s3' s4' s5' hT1 ob1 lw1 hk
     go_wp2_with fail
     refine (HFs.out _ hT2).mono ?_
     rintro e W3 ⟨rfl,hT3,hk⟩
     have ob3:=(hk _ (Nat.le_refl _) (by omega)).trans ob2.out
     have HS6:=jfg ob3 (iv p1.num) (iv p1.cust) (iv p1.units) (iv p1.st) (iv p1.cents) (iv p1.upto)
     have hT4:Hid _:=jkz KPb hT3 hw1.out (Nat.le_refl _) (by omega) (iv p1.num) (iv p1.cust) (iv p1.units) (iv p1.st) (iv p1.cents) (iv p1.upto)
     obtain ⟨s0,s1,s2,s3,s4,s5⟩:=ja1 ob3
     have f0:=ja0 ob3 0
     have f1:=ja0 ob3 1
     have f2:=ja0 ob3 2
     have f3:=ja0 ob3 3
     have f4:=ja0 ob3 4
     have f5:=ja0 ob3 5
     have lw3:w1.heap.size<W3.heap.size:=(blt ob3)
     replace ob3:Hid _:=ob3
     replace HS6:Hid _:=HS6
     clear hT2 ob2 hk hT3
     go_wp2
     exact HR.out _ hT4.out HS6.out
    ·have HX':Hid (∀ w',jb5 (P s') w1 own 1 w'->jar (P (fin s)) w w' own):=fun w' h1=>HX.out w' h1 (fun p' e=>by rw [hf] at e;simp only [Option.some.injEq] at e;rw [← e];exact hle)
     clear HM HX hO hN hE hF hL HFRONT HI0
     have hle2:=fun c=>hle ((hcd.out s' p).2 c)
     clear hcd hle
     have dl:decide (p.units<=fr s')=false:=by simpa using hle2
     generalize fr s'=fs at HLs hle2 dl
     generalize hP':P s'=Pa at hT HLs HX'
     have KPa:Keeps Pa:=hP'▸KP s'
     clear hP' i1 hf
     go_wp2_with fail
     go_region_held3 (fun w'=>w'.cell? (aq w1.heap.size 2)=some (iv p.units)) (simp [go_sem, *])
      (first
        | (go_at_call 58;refine (HLs.out _ (jai KPa hT.out bL)).mono ?_;rintro e W1 ⟨rfl,hT1,hk⟩
           have ob1:Hid _:=(hk _ (Nat.le_refl _) (by omega)).trans ob.out
           obtain ⟨s0',s1',s2',s3',s4',s5'⟩:=ja1 ob1.out
           have lw1:w1.heap.size<W1.heap.size:=(blt ob1.out)
           replace hT1:Hid _:=hT1
           clear hk))
     clear s0 s1 s2 s3 s4 s5 hT ob lw
     go_wp2
     first|go_end0|refine bodyPost_ret (results_none rfl _ _ _) rfl ?_
     exact ⟨rfl,HX'.out _ (jai KPa hT1.out bL)⟩
theorem jup {σ:Type} (x:Nat) (P:σ->World->(Nat->Prop)->Prop) (KP:∀ s,Keeps (P s)) (Inv:σ->Prop) (fst:σ->Option POrd) (fr:σ->Int) (nx fin:σ->σ) (μ:σ->Nat) (rv:σ->Value) (cd:σ->POrd->Prop) (hcd:Hid (∀ s p,cd s p↔fr s<p.units))
 (hF:Hid (∀ s,Inv s->∀ W o,P s W o->Calls Tryz.prog 175 #[pt x 0] W fun e w'=>e=.returned (.tuple #[((fst s).getD pord0).val,.bool (fst s).isSome])/\Below W.heap.size W w'))
 (hL:Hid (∀ s,Inv s->∀ W o,P s W o->Calls Tryz.prog 154 #[pt x 0] W fun e w'=>e=.returned (iv (fr s))/\Below W.heap.size W w'))
 (hO:Hid (∀ s p,Inv s->fst s=some p->cd s p->∀ W o,P s W o->Calls Tryz.prog 157 #[pt x 0,p.val,iv 18] W fun e w'=>e=.returned (rv s)/\jar (P (nx s)) W w' o))
 (hN:Hid (∀ s p,Inv s->fst s=some p->cd s p->Inv (nx s)/\μ (nx s)<μ s/\fin (nx s)=fin s))
 (hE:Hid (∀ s,Inv s->(∀ p,fst s=some p->¬ cd s p)->fin s=s)) (s:σ) (w:World) (own:Nat->Prop) (hi:Inv s) (h:P s w own) :
 Calls Tryz.prog 158 #[pt x 0] w fun e w'=>e=.returned (.tuple #[])/\jar (P (fin s)) w w' own:=by
 have hw:=(KP s).lt h
 go_enter Tryz.func158,Tryz.ntmps158
 go_wp2_with fail
 refine (hF.out s hi w own h).mono ?_
 rintro e w1 ⟨rfl,b1⟩
 have h1:P s w1 own:=(KP s).keep h b1.size (fun k e=>b1.block k (hw k e))
 have hw1:Hid (∀ k,own k->k<w1.heap.size):=fun k e=>Nat.lt_of_lt_of_le (hw k e) b1.size
 have HFRONT:Hid (∀ s' w',jar (P s') w1 w' own->jar (P s') w w' own):=fun s' w' ha=>jiv b1 ha
 have HI0:Hid (jf5 P Inv fst fin μ s w1 own (.bool (fst s).isSome) (w1.alloc (.cells ((fst s).getD pord0).cells 184)) (μ s)):=⟨s,hi,rfl,rfl,jcw (KP s) h1 ((Below.refl _ _).alloc (Nat.le_refl _) _) (by simp),rfl,heap_alloc_new w1 _⟩
 clear h h1 hi hw b1
 unfold POrd.val
 unfold POrd.cells at HI0
 generalize (fst s).getD pord0=p0 at HI0 ⊢
 generalize (fst s).isSome=b0 at HI0 ⊢
 go_wp2_with fail
 go_loopw [3] (fun v wr=>∃ n,jf5 P Inv fst fin μ s w1 own v wr n) (fun v wr=>fuel (jf5 P Inv fst fin μ s w1 own v wr))
 case atStart=>exact ⟨_,HI0.out⟩
 case round =>
  have hfu:=jr4 hrel
  obtain ⟨s',i1,i2,i3,hT,rfl,ob⟩:=hfu
  replace hT:Hid _:=hT
  replace i1:Hid _:=i1
  have ob:Hid _:=ob
  have HM:Hid (∀ v' w' m,jf5 P Inv fst fin μ s w1 own v' w' m->m<μ s'->(∃ n,jf5 P Inv fst fin μ s w1 own v' w' n)/\fuel (jf5 P Inv fst fin μ s w1 own v' w')<fuel (jf5 P Inv fst fin μ s w1 own (.bool (fst s').isSome) wr)):=fun v' w' m h1 h2=>⟨⟨m,h1⟩,by rw [← i2];exact Nat.lt_of_le_of_lt (jrm h1) h2⟩
  clear hrel i2
  have HX:Hid (∀ w',jb5 (P s') w1 own 1 w'->(∀ p,fst s'=some p->¬ cd s' p)->jar (P (fin s)) w w' own):=fun w' h1 h2=>by
   rw [← i3,hE.out s' i1.out h2]
   exact HFRONT.out _ _ (jdg h1)
  cases hf:fst s' with
  | none =>
    have HX':Hid (∀ w',jb5 (P s') w1 own 1 w'->jar (P (fin s)) w w' own):=fun w' h1=>HX.out w' h1 (fun p e=>by rw [hf] at e;cases e)
    rw [hf] at HM
    clear HX ob HI0
    simp only [Option.isSome_none]
    go_wp2_with fail
    go_quiet (fail)
    go_wp2
    first|go_end0|refine bodyPost_ret (results_none rfl _ _ _) rfl ?_
    exact ⟨rfl,HX'.out _ (jai (KP s') hT.out bL)⟩
  | some p =>
    rw [hf] at HM ob
    simp only [Option.getD_some,POrd.cells,Option.isSome_some] at ob HM ⊢
    obtain ⟨s0,s1,s2,s3,s4,s5⟩:=ja1 ob.out
    have lw:w1.heap.size<wr.heap.size:=(blt ob.out)
    have HLs:Hid (∀ W,jb5 (P s') w1 own 1 W->Calls Tryz.prog 154 #[pt x 0] W fun e w'=>e=.returned (iv (fr s'))/\jb5 (P s') w1 own 1 w'/\∀ b,w1.heap.size<=b->b<w1.heap.size+1->w'.heap[b]?=W.heap[b]?):=fun W hW=>jfb (KP s') hw1.out (hL.out s' i1.out) W hW
    by_cases hle:cd s' p
    ·have HOs:Hid (∀ W,jb5 (P s') w1 own 1 W->Calls Tryz.prog 157 #[pt x 0,p.val,iv 18] W fun e w'=>e=.returned (rv s')/\jb5 (P (nx s')) w1 own 1 w'/\∀ b,w1.heap.size<=b->b<w1.heap.size+1->w'.heap[b]?=W.heap[b]?):=fun W hW=>jcb hw1.out (hO.out s' p i1.out hf hle) W hW
     obtain ⟨n1,n2,n3⟩:=hN.out s' p i1.out hf hle
     have HFs:Hid (∀ W,jb5 (P (nx s')) w1 own 1 W->Calls Tryz.prog 175 #[pt x 0] W fun e w'=>e=.returned (.tuple #[((fst (nx s')).getD pord0).val,.bool (fst (nx s')).isSome])/\jb5 (P (nx s')) w1 own 1 w'/\∀ b,w1.heap.size<=b->b<w1.heap.size+1->w'.heap[b]?=W.heap[b]?):=fun W hW=>jfb (KP (nx s')) hw1.out (hF.out (nx s') n1) W hW
     have HR:Hid (∀ W',jb5 (P (nx s')) w1 own 1 W'->W'.heap[w1.heap.size]?=some (.cells ((fst (nx s')).getD pord0).cells 184 (0,0))->(∃ n,jf5 P Inv fst fin μ s w1 own (.bool (fst (nx s')).isSome) W' n)/\fuel (jf5 P Inv fst fin μ s w1 own (.bool (fst (nx s')).isSome) W')<fuel (jf5 P Inv fst fin μ s w1 own (.bool true) wr)):=fun W' h1 h2=>HM.out _ W' _ ⟨nx s',n1,rfl,n3.trans i3,h1,rfl,h2⟩ n2
     clear HM HX hO hN hE hF hL n1 n2 n3 i3 HFRONT HI0
     unfold POrd.val at HOs HFs
     unfold POrd.cells at HR
     have hle2:=(hcd.out s' p).1 hle
     clear hcd hle
     have dl:decide (fr s'<p.units)=true:=by simpa using hle2
     generalize (fst (nx s')).getD pord0=p1 at HFs HR
     generalize (fst (nx s')).isSome=b1 at HFs HR
     generalize fr s'=fs at HLs hle2 dl
     generalize hP':P s'=Pa at hT HLs HOs
     have KPa:Keeps Pa:=hP'▸KP s'
     generalize hPn:P (nx s')=Pb at HOs HFs HR
     have KPb:Keeps Pb:=hPn▸KP (nx s')
     clear hP' hPn i1 hf
     generalize rv s'=rr at HOs
     go_wp2_with fail
     go_region_held3 (fun w'=>w'.cell? (aq w1.heap.size 2)=some (iv p.units)) (simp [go_sem, *])
      (first
        | (go_at_call 154;refine (HLs.out _ (jai KPa hT.out bL)).mono ?_;rintro e W1 ⟨rfl,hT1,hk⟩
           have ob1:Hid _:=(hk _ (Nat.le_refl _) (by omega)).trans ob.out
           obtain ⟨s0',s1',s2',s3',s4',s5'⟩:=ja1 ob1.out
           have lw1:w1.heap.size<W1.heap.size:=(blt ob1.out)
           replace hT1:Hid _:=hT1
           clear hk))
     clear s0 s1 s2 s3 s4 s5 hT ob lw
     go_wp2_with fail
     refine (HOs.out _ hT1.out).mono ?_
     rintro e W2 ⟨rfl,hT2,hk⟩
     have ob2:Hid _:=(hk _ (Nat.le_refl _) (by omega)).trans ob1.out
     clear s0' s1' s2' s3' s4' s5' hT1 ob1 lw1 hk
     go_wp2_with fail
     refine (HFs.out _ hT2).mono ?_
     rintro e W3 ⟨rfl,hT3,hk⟩
     have ob3:=(hk _ (Nat.le_refl _) (by omega)).trans ob2.out
     have HS6:=jfg ob3 (iv p1.num) (iv p1.cust) (iv p1.units) (iv p1.st) (iv p1.cents) (iv p1.upto)
     have hT4:Hid _:=jkz KPb hT3 hw1.out (Nat.le_refl _) (by omega) (iv p1.num) (iv p1.cust) (iv p1.units) (iv p1.st) (iv p1.cents) (iv p1.upto)
     obtain ⟨s0,s1,s2,s3,s4,s5⟩:=ja1 ob3
     have f0:=ja0 ob3 0
     have f1:=ja0 ob3 1
     have f2:=ja0 ob3 2
     have f3:=ja0 ob3 3
     have f4:=ja0 ob3 4
     have f5:=ja0 ob3 5
     have lw3:w1.heap.size<W3.heap.size:=(blt ob3)
     replace ob3:Hid _:=ob3
     replace HS6:Hid _:=HS6
     clear hT2 ob2 hk hT3
     go_wp2
     exact HR.out _ hT4.out HS6.out
    ·have HX':Hid (∀ w',jb5 (P s') w1 own 1 w'->jar (P (fin s)) w w' own):=fun w' h1=>HX.out w' h1 (fun p' e=>by rw [hf] at e;simp only [Option.some.injEq] at e;rw [← e];exact hle)
     clear HM HX hO hN hE hF hL HFRONT HI0
     have hle2:=fun c=>hle ((hcd.out s' p).2 c)
     clear hcd hle
     have dl:decide (fr s'<p.units)=false:=by simpa using hle2
     generalize fr s'=fs at HLs hle2 dl
     generalize hP':P s'=Pa at hT HLs HX'
     have KPa:Keeps Pa:=hP'▸KP s'
     clear hP' i1 hf
     go_wp2_with fail
     go_region_held3 (fun w'=>w'.cell? (aq w1.heap.size 2)=some (iv p.units)) (simp [go_sem, *])
      (first
        | (go_at_call 154;refine (HLs.out _ (jai KPa hT.out bL)).mono ?_;rintro e W1 ⟨rfl,hT1,hk⟩
           have ob1:Hid _:=(hk _ (Nat.le_refl _) (by omega)).trans ob.out
           obtain ⟨s0',s1',s2',s3',s4',s5'⟩:=ja1 ob1.out
           have lw1:w1.heap.size<W1.heap.size:=(blt ob1.out)
           replace hT1:Hid _:=hT1
           clear hk))
     clear s0 s1 s2 s3 s4 s5 hT ob lw
     go_wp2
     first|go_end0|refine bodyPost_ret (results_none rfl _ _ _) rfl ?_
     exact ⟨rfl,HX'.out _ (jai KPa hT1.out bL)⟩
section
structure restP (S:Sal):Prop where
 R:restS S
 qlen:((ja5 S.os).length:Int)<=S.C.queue
 alen:(S.answers:Int)<=S.C.tokens
theorem jr3 {S:Sal} (hl:1<=S.C.lease) (h:∀ o∈S.os,o.alive->S.now<o.upto):∀ o∈S.promote.os,o.alive->S.now<o.upto :=
 jgw (Q:=fun o=>o.alive->S.now<o.upto) S (fun o c _ _ _=>by show S.now<S.now+S.C.lease;omega) h
theorem js4 {S:Sal} {i:Nat} {st:Int} (hst:st≠12/\st≠13) (h:∀ o∈S.os,o.alive->S.now<o.upto):∀ o∈(S.ends i st).os,o.alive->S.now<o.upto:=by
 intro o ho ha
 rcases jei (show o∈S.os.set i _ from ho) with rfl|ho
 ·exact absurd ha (fun c=>c.elim hst.1 hst.2)
 ·exact h o ho ha
theorem jlr {S:Sal} (h:∀ o∈S.os,o.alive->S.now<o.upto):∀ o∈S.drained.os,o.alive->S.now<o.upto:=by
 intro o ho ha
 obtain ⟨p,hp,rfl⟩:=List.mem_map.1 (show o∈S.os.map (dry S.left S.now) from ho)
 unfold dry at ha ⊢
 split
 ·next hc=>rw [if_pos hc] at ha;exact absurd ha (fun c=>c.elim (show ¬ (18:Int)=12 by decide) (show ¬ (18:Int)=13 by decide))
 ·next hc=>rw [if_neg hc] at ha;exact h p hp ha
theorem jia:∀ (n:Nat) (S:Sal),(ja5 (jam n S).os).length<=(ja5 S.os).length
 | 0,_=>Nat.le_refl _
 | n+1,S=>by
   unfold jam
   split
   ·exact Nat.le_refl _
   ·next q qs hq =>
    split
    ·exact Nat.le_refl _
    ·refine Nat.le_trans (jia n _) ?_
     rw [jfn hq,hq]
     simp
theorem jjp (S:Sal):(ja5 S.promote.os).length<=(ja5 S.os).length:=jia _ S
theorem jhn {S:Sal} {i:Nat} (hi:i<S.os.length) {st:Int} (hst:st≠12):(ja5 (S.ends i st).os).length<=(ja5 S.os).length:=by
 show (ja5 (S.os.set i _)).length<=_
 rw [jhu _ hi hst]
 exact List.length_filter_le _ _
theorem jhb:∀ (qs:List Nat) (S:Sal),(∀ q∈qs,q<S.os.length)->(ja5 (jcr S qs).os).length<=(ja5 S.os).length
 | [],_,_=>Nat.le_refl _
 | q :: qs,S,h=>by
   have e:jcr S (q :: qs)=jcr (if S.left<(S.os.getD q ja2).units then S.ends q 18 else S) qs:=rfl
   rw [e]
   split
   ·exact Nat.le_trans (jhb qs _ (fun x hx=>by rw [jcx];exact h x (List.mem_cons_of_mem _ hx))) (jhn (h q List.mem_cons_self) (by decide))
   ·exact jhb qs _ (fun x hx=>h x (List.mem_cons_of_mem _ hx))
theorem jjy (S:Sal):(ja5 S.drained.os).length<=(ja5 S.os).length:=by
 rw [← jc6]
 exact jhb _ S (fun q hq=>jf9 S.os _ q hq)
theorem jew {S T:Sal} (h:restP S) (hC:T.C=S.C) (hn:T.now=S.now) (ha:T.ansL=S.ansL) (hf:∀ o∈T.os,o.alive->T.now<o.upto) (hq:(ja5 T.os).length<=(ja5 S.os).length):restP T.promote:=by
 obtain ⟨a,b,c⟩:=je6 T
 have hR:=h.R
 refine ⟨⟨?_,jh3 T,?_,?_,?_,?_,?_⟩,?_,?_⟩
 ·rw [b];exact jr3 (by rw [hC];exact hR.lease.1) hf
 ·rw [a,hC];exact hR.lease
 ·rw [a,hC];exact hR.wait
 ·rw [a,hC];exact hR.keep
 ·rw [a,hC];exact hR.tokens
 ·rw [a,hC];exact hR.queue
 ·have h1:=jjp T
  have h2:=h.qlen
  rw [a,hC]
  omega
 ·have:T.promote.answers=S.answers:=by unfold Sal.answers Sal.remem;rw [c,ha,b,hn,a,hC]
  rw [this,a,hC]
  exact h.alen
theorem jqg {S:Sal} (h:restP S) (r:Req):restP (S.confirm r).2:=by
 unfold Sal.confirm
 split
 ·exact h
 ·next i hf =>
  split
  ·exact h
  ·by_cases hi:i<S.os.length
   ·have hl:=hi
    obtain ⟨d,e,f⟩:=jep (ja5 (S.ends i 14).os) (S.ends i 14)
    refine jew h d e f ?_ ?_
    ·rw [e,jc6]
     exact jlr (S:=S.ends i 14) (js4 (by decide) h.R.fut)
    ·rw [jc6]
     exact Nat.le_trans (jjy _) (jhn hl (by decide))
   ·have e1:S.ends i 14=S:=by
     unfold Sal.ends Sal.put
     rw [List.set_eq_of_length_le (Nat.le_of_not_lt hi)]
    obtain ⟨d,e,f⟩:=jep (ja5 (S.ends i 14).os) (S.ends i 14)
    refine jew h d e f ?_ ?_
    ·rw [e,jc6,e1]
     exact jlr h.R.fut
    ·rw [jc6,e1]
     exact jjy _
theorem jrn {S:Sal} (h:restP S) (r:Req):restP (S.cancel r).2:=by
 unfold Sal.cancel
 split
 ·exact h
 ·next i hf =>
  split
  ·exact h
  ·by_cases hi:i<S.os.length
   ·exact jew (T:=S.ends i 16) h rfl rfl rfl (js4 (by decide) h.R.fut) (jhn hi (by decide))
   ·have e1:S.ends i 16=S:=by
     unfold Sal.ends Sal.put
     rw [List.set_eq_of_length_le (Nat.le_of_not_lt hi)]
    rw [e1]
    exact jew (T:=S) h rfl rfl rfl h.R.fut (Nat.le_refl _)
theorem jzt {S:Sal} (h:restP S) (r:Req):restP (S.ask r).2:=by
 have hR:=h.R
 unfold Sal.ask
 split
 ·exact h
 split
 ·exact h
 split
 ·exact h
 split
 ·next hq =>
  obtain ⟨e1,e2⟩:=jdu S r.cust r.units
  show restP ((S.more ⟨r.cust,r.units,0,0,0,0⟩).holds S.os.length)
  rw [e1,e2]
  have hqs:ja5 (S.more ⟨r.cust,r.units,13,S.price,S.now+S.C.lease,0⟩).os=[]:=by
   show ja5 (S.os++[_])=_
   rw [jmm,if_neg (show ¬ (13:Int)=12 by decide)]
   exact hq.1
  refine ⟨⟨fun o ho ha=>?_,fun q qs c=>(by rw [hqs] at c;cases c),hR.lease,hR.wait,hR.keep,hR.tokens,hR.queue⟩,?_,h.alen⟩
  ·rcases List.mem_append.1 (show o∈S.os++[_] from ho) with ho|ho
   ·exact hR.fut o ho ha
   ·have e:o=⟨r.cust,r.units,13,S.price,S.now+S.C.lease,0⟩:=by simpa using ho
    rw [e]
    show S.now<S.now+S.C.lease
    have:=hR.lease.1
    omega
  ·rw [hqs]
   have:=hR.queue.1
   show ((0:Nat):Int)<=S.C.queue
   omega
 split
 ·exact h
 ·next c1 c2 c3 c4 c5 =>
  have hqs:ja5 (S.more ⟨r.cust,r.units,12,0,S.now+S.C.wait,0⟩).os=ja5 S.os++[S.os.length]:=by
   show ja5 (S.os++[_])=_
   rw [jmm,if_pos rfl]
  have hfree:(S.more ⟨r.cust,r.units,12,0,S.now+S.C.wait,0⟩).free=S.free:=by
   unfold Sal.free Sal.left
   show S.C.stock - ja3 (S.os++[_]) 14 0 - ja3 (S.os++[_]) 13 0=_
   rw [jc0,jc0,jlz,jlz,if_neg (show ¬ (12:Int)=14 by decide),if_neg (show ¬ (12:Int)=13 by decide)]
   omega
  refine ⟨⟨fun o ho ha=>?_,fun q qs c=>?_,hR.lease,hR.wait,hR.keep,hR.tokens,hR.queue⟩,?_,h.alen⟩
  ·rcases List.mem_append.1 (show o∈S.os++[_] from ho) with ho|ho
   ·exact hR.fut o ho ha
   ·have e:o=⟨r.cust,r.units,12,0,S.now+S.C.wait,0⟩:=by simpa using ho
    rw [e]
    show S.now<S.now+S.C.wait
    have:=hR.wait.1
    omega
  ·rw [hfree]
   rw [hqs] at c
   cases hq:ja5 S.os with
   | nil =>
     rw [hq] at c
     simp at c
     rw [← c.1]
     show S.free<((S.os++[_]).getD S.os.length ja2).units
     rw [jax (by omega),if_pos rfl]
     show S.free<r.units
     have:¬ r.units<=S.free:=fun d=>c4 ⟨hq,d⟩
     omega
   | cons q' qs' =>
     rw [hq] at c
     simp at c
     rw [← c.1]
     obtain ⟨_,hl,_⟩:=jcc hq ja2 (by decide)
     show S.free<((S.os++[_]).getD q' ja2).units
     rw [jax (by omega),if_neg (by omega)]
     exact hR.stable q' qs' hq
  ·rw [hqs]
   have:=h.qlen
   show (((ja5 S.os++[S.os.length]).length:Nat):Int)<=S.C.queue
   rw [List.length_append]
   simp
   omega
theorem jwz {S:Sal} (h:restP S) (r:Req):restP (S.doS r).2:=by
 unfold Sal.doS
 split
 ·exact jzt h r
 split
 ·exact jqg h r
 ·exact jrn h r
theorem jqw {a b:List Int} (ha:∀ x∈a,0<=x/\x<256) (hb:∀ x∈b,0<=x/\x<256) (h:strOfNums a=strOfNums b):a=b:=by
 refine js3 a b ha hb ?_
 have:=congrArg (fun s:ByteArray=>s.data.toList) h
 simpa [strOfNums] using this
section
variable {an:Int} {atl:List (Int × Int)} {att:List Ent} {al:List PAns} {keep:Int} {ansL:List Ans}
theorem relA.count (h:relA an atl att al keep ansL):al.length=(ansL.filter (fun a=>decide (an<a.at'+keep))).length:=by
 have mem:∀ t,t∈(ansL.filter (fun a=>decide (an<a.at'+keep))).map Ans.token↔∃ j,j<ansL.length/\an<(ansL.getD j jem).at'+keep/\t=(ansL.getD j jem).token:=by
  intro t
  rw [List.mem_map]
  constructor
  ·rintro ⟨a,ha,rfl⟩
   obtain ⟨h1,h2⟩:=List.mem_filter.1 ha
   obtain ⟨j,hj,rfl⟩:=List.getElem_of_mem h1
   have e:ansL.getD j jem=ansL[j]:=by simp [List.getD,List.getElem?_eq_getElem hj]
   exact ⟨j,hj,by rw [e];simpa using h2,by rw [e]⟩
  ·rintro ⟨j,hj,h2,rfl⟩
   have e:ansL.getD j jem=ansL[j]:=by simp [List.getD,List.getElem?_eq_getElem hj]
   exact ⟨ansL.getD j jem,List.mem_filter.2 ⟨by rw [e];exact List.getElem_mem hj,by simpa using h2⟩,rfl⟩
 have n2:((ansL.filter (fun a=>decide (an<a.at'+keep))).map Ans.token).Nodup:=by
  have key:∀ (l:List Ans),(∀ i j,i<l.length->j<l.length->an<(l.getD i jem).at'+keep->an<(l.getD j jem).at'+keep->(l.getD i jem).token=(l.getD j jem).token->i=j)->((l.filter (fun a=>decide (an<a.at'+keep))).map Ans.token).Nodup:=by
   intro l
   induction l with
   | nil=>intro _;simp
   | cons a l ih =>
     intro hu
     have ihl:=ih (fun i j hi hj h1 h2 h3=>by
      have:=hu (i+1) (j+1) (by simpa using hi) (by simpa using hj) h1 h2 h3
      omega)
     rw [List.filter_cons]
     split
     ·next ha =>
      rw [List.map_cons,List.nodup_cons]
      refine ⟨fun hm=>?_,ihl⟩
      obtain ⟨b,hb,e⟩:=List.mem_map.1 hm
      obtain ⟨h1,h2⟩:=List.mem_filter.1 hb
      obtain ⟨j,hj,rfl⟩:=List.getElem_of_mem h1
      have e2:l.getD j jem=l[j]:=by simp [List.getD,List.getElem?_eq_getElem hj]
      have:=hu 0 (j+1) (by simp) (by simpa using hj) (by simpa using ha) (by show an<(l.getD j jem).at'+keep;rw [e2];simpa using h2) (by show a.token=(l.getD j jem).token;rw [e2];exact e.symm)
      omega
     ·exact ihl
  exact key ansL h.uniq
 have l1:=jav (al.map PAns.t) _ h.ls.once (fun t ht=>(mem t).2 (by
  obtain ⟨a,ha,rfl⟩:=List.mem_map.1 ht
  obtain ⟨j,a1,a2,a3⟩:=h.al a ha
  exact ⟨j,a1,a2,a3⟩))
 have l2:=jav _ (al.map PAns.t) n2 (fun t ht=>by
  obtain ⟨j,a1,a2,rfl⟩:=(mem t).1 ht
  obtain ⟨a,ha,e,_⟩:=h.reqs j a1 a2
  exact List.mem_map.2 ⟨a,ha,e⟩)
 simp only [List.length_map] at l1 l2
 omega
theorem relA.add (h:relA an atl att al keep ansL) (a:PAns) (now:Int) (han:an=now) (hk:1<=keep) (hb:isB a.k a.t a.c a.u a.o=true) (hn:∀ j,j<ansL.length->an<(ansL.getD j jem).at'+keep->(ansL.getD j jem).token≠a.t) :
 relA an (jfd an atl a.t (now+keep)) (jbd (a.t,0) al.length att) (al++[a]) keep (ansL++[⟨strOfNums (jak a.k (jat a.k a.t a.c a.u a.o)),a.t,⟨a.rk,a.ro,a.rc,a.ru⟩,now⟩]):=by
 have hg:∀ j,j<ansL.length+1->(ansL++[(⟨strOfNums (jak a.k (jat a.k a.t a.c a.u a.o)),a.t,⟨a.rk,a.ro,a.rc,a.ru⟩,now⟩:Ans)]).getD j jem=if j=ansL.length then ⟨strOfNums (jak a.k (jat a.k a.t a.c a.u a.o)),a.t,⟨a.rk,a.ro,a.rc,a.ru⟩,now⟩ else ansL.getD j jem:=by
  intro j hj
  simp only [List.getD]
  by_cases e:j=ansL.length
  ·subst e;simp
  ·rw [if_neg e,List.getElem?_append_left (by omega)]
 generalize hA:(⟨strOfNums (jak a.k (jat a.k a.t a.c a.u a.o)),a.t,⟨a.rk,a.ro,a.rc,a.ru⟩,now⟩:Ans)=A at hg
 have ht:A.token=a.t:=by rw [← hA]
 have hat:A.at'=now:=by rw [← hA]
 have hal:∀ b∈al,b.t≠a.t:=fun b hb' e=>by
  obtain ⟨j,j1,j2,j3⟩:=h.al b hb'
  exact hn j j1 j2 (by rw [← j3,e])
 have hx:¬ 0<=jmv atl a.t:=by
  rw [jgq]
  rintro ⟨p,hp,e⟩
  obtain ⟨j,j1,j2,rfl⟩:=(h.tl p).1 hp
  exact hn j j1 j2 e
 have hset:jfd an atl a.t (now+keep)=atl++[(now+keep,a.t)]:=by
  unfold jfd
  rw [if_neg (by omega),if_neg hx]
 refine ⟨jih h.once,jlf h.ls hal,fun j hj hm=>?_,fun i j hi hj h1 h2 h3=>?_,fun b hb'=>?_,fun p=>?_⟩
 ·simp only [List.length_append,List.length_singleton] at hj
  rw [hg j hj] at hm ⊢
  by_cases e:j=ansL.length
  ·rw [if_pos e]
   exact ⟨a,by simp,by rw [ht],hb,by rw [← hA],by rw [← hA]⟩
  ·rw [if_neg e] at hm ⊢
   obtain ⟨b,q1,q2⟩:=h.reqs j (by omega) hm
   exact ⟨b,List.mem_append_left _ q1,q2⟩
 ·simp only [List.length_append,List.length_singleton] at hi hj
  rw [hg i hi] at h1 h3
  rw [hg j hj] at h2 h3
  by_cases e1:i=ansL.length<;>by_cases e2:j=ansL.length
  ·omega
  ·rw [if_pos e1] at h3;rw [if_neg e2] at h2 h3
   exact absurd (h3.symm.trans ht) (hn j (by omega) h2)
  ·rw [if_neg e1] at h1 h3;rw [if_pos e2] at h3
   exact absurd (h3.trans ht) (hn i (by omega) h1)
  ·rw [if_neg e1] at h1 h3;rw [if_neg e2] at h2 h3
   exact h.uniq i j (by omega) (by omega) h1 h2 h3
 ·rcases List.mem_append.1 hb' with hb'|hb'
  ·obtain ⟨j,j1,j2,j3⟩:=h.al b hb'
   exact ⟨j,by simp;omega,by rw [hg j (by omega),if_neg (by omega)];exact j2,by rw [hg j (by omega),if_neg (by omega)];exact j3⟩
  ·have e:b=a:=by simpa using hb'
   rw [e]
   exact ⟨ansL.length,by simp,by rw [hg _ (by omega),if_pos rfl,hat];omega,by rw [hg _ (by omega),if_pos rfl,ht]⟩
 ·rw [hset,List.mem_append,h.tl]
  constructor
  ·rintro (⟨j,j1,j2,rfl⟩|hp)
   ·exact ⟨j,by simp;omega,by rw [hg j (by omega),if_neg (by omega)];exact j2,by rw [hg j (by omega),if_neg (by omega)]⟩
   ·have e:p=(now+keep,a.t):=by simpa using hp
    rw [e]
    exact ⟨ansL.length,by simp,by rw [hg _ (by omega),if_pos rfl,hat];omega,by rw [hg _ (by omega),if_pos rfl,hat,ht]⟩
  ·rintro ⟨j,j1,j2,rfl⟩
   simp only [List.length_append,List.length_singleton] at j1
   rw [hg j j1] at j2 ⊢
   by_cases e:j=ansL.length
   ·rw [if_pos e,hat,ht]
    exact .inr (by simp)
   ·rw [if_neg e] at j2 ⊢
    exact .inl ⟨j,by omega,j2,rfl⟩
end
end
section
section
variable {V:PV} {S:Sal} {last:Nat} {K:Nat->Prop}
theorem relO.clock (h:relO V S last K) {t:Int} (ht:V.tn<=t):relO { V with now:=t } { S with now:=t } last K :=
 ⟨h.C,rfl,h.last,ht,h.once,h.tl,h.kin,h.live,h.ls,h.ol,h.turns,h.sizes,h.held,h.sold,h.lu,h.cust⟩
theorem relO.advance (h:relO V S last K) {t:Int} (h1:V.tn<=t) (h2:t<=S.now):relO { V with tn:=t,tl:=jsi V.tn t V.tl } S last K:=by
 have he:jsi V.tn t V.tl=V.tl.filter (fun p=>decide (t<p.1)):=by
  unfold jsi
  rw [if_neg (by omega),js7]
 rw [he]
 refine ⟨h.C,h.now,h.last,h2,je2 _ h.once,fun p=>?_,h.kin,h.live,h.ls,h.ol,h.turns,h.sizes,h.held,h.sold,h.lu,h.cust⟩
 show p∈V.tl.filter (fun p=>decide (t<p.1))↔∃ i,K i/\t<_/\_
 rw [List.mem_filter,h.tl]
 constructor
 ·rintro ⟨⟨i,a,b,rfl⟩,c⟩
  exact ⟨i,a,by simpa using c,rfl⟩
 ·rintro ⟨i,a,b,rfl⟩
  exact ⟨⟨i,a,by omega,rfl⟩,by simpa using b⟩
theorem relO.due (h:relO V S last K) {t:Int} (h1:V.tn<=t) (p:Int × Int):p∈jgv V.tn t V.tl↔∃ i,K i/\V.tn<(S.os.getD i ja2).untl S.C/\(S.os.getD i ja2).untl S.C<=t/\p=((S.os.getD i ja2).untl S.C,(i:Int)+1):=by
 have he:(jgv V.tn t V.tl).Perm (V.tl.filter (fun p=>decide (p.1<=t))):=by
  unfold jgv
  rw [if_neg (by omega)]
  exact (jff t _ V.tl rfl).2.1
 rw [he.mem_iff,List.mem_filter,h.tl]
 constructor
 ·rintro ⟨⟨i,a,b,rfl⟩,c⟩
  exact ⟨i,a,b,by simpa using c,rfl⟩
 ·rintro ⟨i,a,b,c,rfl⟩
  exact ⟨⟨i,a,b,rfl⟩,by simpa using c⟩
theorem relO.drop (h:relO V S last K) {i:Nat} (ha:¬ (S.os.getD i ja2).alive) (hu:(S.os.getD i ja2).untl S.C<=V.tn) {j:Nat} {z:POrd} (hj:V.ol[j]?=some (jbp S.C i (S.os.getD i ja2))) (hz:V.ol[V.ol.length - 1]?=some z) (rm:Int) :
 relO { V with ot:=jcp ((i:Int)+1,0) (jbd (z.num,0) j V.ot),ol:=je4 V.ol j z,orm:=rm } S last (fun k=>K k/\k≠i):=by
 refine ⟨h.C,h.now,h.last,h.tn,h.once,fun p=>?_,fun k hk=>h.kin k hk.1,fun k hk hs=>⟨h.live k hk hs,fun e=>ha (by rw [e] at hs;exact hs)⟩,jko h.ls hj hz,fun o=>?_,h.turns,h.sizes,h.held,h.sold,h.lu,h.cust⟩
 ·refine (h.tl p).trans ?_
  constructor
  ·rintro ⟨k,a,b,rfl⟩
   exact ⟨k,⟨a,fun e=>by rw [e] at b;omega⟩,b,rfl⟩
  ·rintro ⟨k,a,b,rfl⟩
   exact ⟨k,a.1,b,rfl⟩
 ·show o∈je4 V.ol j z↔_
  rw [jnj h.ls.once hj hz,h.ol]
  constructor
  ·rintro ⟨⟨k,a,rfl⟩,b⟩
   exact ⟨k,⟨a,fun e=>b (by rw [e])⟩,rfl⟩
  ·rintro ⟨k,a,rfl⟩
   exact ⟨⟨k,a.1,rfl⟩,fun c=>a.2 (by simp [jbp] at c;omega)⟩
end
theorem relA.forget {an t:Int} {atl:List (Int × Int)} {att att':List Ent} {al al':List PAns} {keep:Int} {ansL:List Ans} (h:relA an atl att al keep ansL) (ht:an<=t) (hls:Listed PAns.t att' al') (hm:∀ a,a∈al'↔a∈al/\∀ d∈jgv an t atl,a.t≠d.2) :
 relA t (jsi an t atl) att' al' keep ansL:=by
 have he:jsi an t atl=atl.filter (fun p=>decide (t<p.1)):=by
  unfold jsi
  rw [if_neg (by omega),js7]
 have hd:∀ p,p∈jgv an t atl↔∃ j,j<ansL.length/\an<(ansL.getD j jem).at'+keep/\(ansL.getD j jem).at'+keep<=t/\p=((ansL.getD j jem).at'+keep,(ansL.getD j jem).token):=fun p=>by
  have hp:(jgv an t atl).Perm (atl.filter (fun p=>decide (p.1<=t))):=by
   unfold jgv
   rw [if_neg (by omega)]
   exact (jff t _ atl rfl).2.1
  rw [hp.mem_iff,List.mem_filter,h.tl]
  constructor
  ·rintro ⟨⟨i,a,b,rfl⟩,c⟩
   exact ⟨i,a,b,by simpa using c,rfl⟩
  ·rintro ⟨i,a,b,c,rfl⟩
   exact ⟨⟨i,a,b,rfl⟩,by simpa using c⟩
 refine ⟨by rw [he];exact je2 _ h.once,hls,fun j hj hr=>?_,fun i j hi hj h1 h2=>h.uniq i j hi hj (by omega) (by omega),fun a ha=>?_,fun p=>?_⟩
 ·obtain ⟨a,q1,q2,q3⟩:=h.reqs j hj (by omega)
  refine ⟨a,(hm a).2 ⟨q1,fun d hd' e=>?_⟩,q2,q3⟩
  obtain ⟨i,i1,i2,i3,rfl⟩:=(hd d).1 hd'
  have:=h.uniq i j i1 hj i2 (by omega) (e.symm.trans q2)
  subst this
  omega
 ·obtain ⟨q1,q2⟩:=(hm a).1 ha
  obtain ⟨j,j1,j2,j3⟩:=h.al a q1
  refine ⟨j,j1,?_,j3⟩
  refine Classical.byContradiction fun hn=>q2 _ ((hd _).2 ⟨j,j1,j2,by omega,rfl⟩) j3
 ·rw [he,List.mem_filter,h.tl]
  constructor
  ·rintro ⟨⟨i,a,b,rfl⟩,c⟩
   exact ⟨i,a,by simpa using c,rfl⟩
  ·rintro ⟨i,a,b,rfl⟩
   exact ⟨⟨i,a,by omega,rfl⟩,by simpa using b⟩
theorem jke {S:Sal} {t:Int} (ht:S.now<=t) (i:Nat):({ S with now:=t }:Sal).knows i↔S.knows i/\((S.os.getD i ja2).alive\/t<(S.os.getD i ja2).untl S.C):=by
 constructor
 ·rintro ⟨h1,h2⟩
  exact ⟨⟨h1,h2.imp id (fun h=>by have h':t<(S.os.getD i ja2).untl S.C:=h;omega)⟩,h2⟩
 ·rintro ⟨⟨h1,_⟩,h2⟩
  exact ⟨h1,h2⟩
end
end Go.Proofs.YtfhncfghblkgeaaGreat
