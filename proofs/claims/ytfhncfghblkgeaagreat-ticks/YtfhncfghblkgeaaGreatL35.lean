import Derived.Test.YtfhncfghblkgeaaGreatL33
set_option maxRecDepth 100000
set_option maxHeartbeats 2000000
namespace Go.Proofs.YtfhncfghblkgeaaGreat
open Go.RowKit
section
theorem jph {p:Nat->Prop} (h:∃ n,p n):∃ n,p n/\∀ m,p m->n<=m:=by
 obtain ⟨n,hn⟩:=h
 induction n using Nat.strongRecOn with
 | _ n ih =>
   by_cases hx:∃ m,m<n/\p m
   ·obtain ⟨m,h1,h2⟩:=hx
    exact ih m h1 h2
   ·exact ⟨n,hn,fun m hm=>Nat.le_of_not_lt (fun c=>hx ⟨m,c,hm⟩)⟩
open Classical in
noncomputable def fuel (p:Nat->Prop):Nat:=if h:∃ n,p n then Classical.choose (jph h) else 0
theorem jsa {p:Nat->Prop} (h:∃ n,p n):p (fuel p):=by
 unfold fuel
 rw [dif_pos h]
 exact (Classical.choose_spec (jph h)).1
theorem jtc {p:Nat->Prop} {n:Nat} (h:p n):fuel p<=n:=by
 unfold fuel
 rw [dif_pos ⟨n,h⟩]
 exact (Classical.choose_spec (jph ⟨n,h⟩)).2 n h
theorem qdg (x:Nat) (own:Nat->Prop) (P P':World->(Nat->Prop)->Prop) (KP:Keeps P) (KP':Keeps P') (num cust units st cents up c up':Int) (w:World) (hw:∀ k,own k->k<w.heap.size) (h:P w own)
 (HP:Hid (qfn w own 2 P P 178 #[pt x 0] (iv c)))
 (HM:Hid (qfn w own 2 P P' 157 #[pt x 0,.agg #[iv num,iv cust,iv units,iv st,iv c,iv up],iv 13] (.agg #[iv num,iv cust,iv units,iv 13,iv c,iv up']))) :
 Calls Tryz.prog 162 #[pt x 0,.agg #[iv num,iv cust,iv units,iv st,iv cents,iv up]] w fun e w'=>e=.returned (.agg #[iv num,iv cust,iv units,iv 13,iv c,iv up'])/\jbq P' w w' own:=by
 go_enter Tryz.func162,Tryz.ntmps162
 have hT0:Hid (jbd P w own 2 ((w.alloc (.cells #[iv num,iv cust,iv units,iv st,iv cents,iv up] 184)).alloc (.cells #[iv 0,iv 0,iv 0,iv 0,iv 0,iv 0] 184))):=jfi KP h (((Below.refl _ _).alloc (Nat.le_refl _) _).alloc (by simp) _) (by simp)
 have ob0:Hid (((w.alloc (.cells #[iv num,iv cust,iv units,iv st,iv cents,iv up] 184)).alloc (.cells #[iv 0,iv 0,iv 0,iv 0,iv 0,iv 0] 184)).heap[w.heap.size]?=some (.cells #[iv num,iv cust,iv units,iv st,iv cents,iv up] 184 (0,0))):=(Below.heap_alloc _ _ _ (by simp)).trans (heap_alloc_new w _)
 have rb0:Hid (((w.alloc (.cells #[iv num,iv cust,iv units,iv st,iv cents,iv up] 184)).alloc (.cells #[iv 0,iv 0,iv 0,iv 0,iv 0,iv 0] 184)).heap[w.heap.size+1]?=some (.cells #[iv 0,iv 0,iv 0,iv 0,iv 0,iv 0] 184 (0,0))):=by
  have h:=heap_alloc_new (w.alloc (.cells #[iv num,iv cust,iv units,iv st,iv cents,iv up] 184)) (.cells #[iv 0,iv 0,iv 0,iv 0,iv 0,iv 0] 184)
  rwa [show (w.alloc (.cells #[iv num,iv cust,iv units,iv st,iv cents,iv up] 184)).heap.size=w.heap.size+1 by simp] at h
 clear h
 go_wp2_with fail
 generalize (w.alloc (.cells #[iv num,iv cust,iv units,iv st,iv cents,iv up] 184)).alloc (.cells #[iv 0,iv 0,iv 0,iv 0,iv 0,iv 0] 184)=W0 at hT0 ob0 rb0 ⊢
 refine (HP.out _ hT0.out).mono ?_
 rintro e W1 ⟨rfl,hT1,hk⟩
 have ob1:Hid (W1.heap[w.heap.size]?=some (.cells #[iv num,iv cust,iv units,iv st,iv cents,iv up] 184 (0,0))):=(hk _ (Nat.le_refl _) (by omega)).trans ob0.out
 have rb1:Hid (W1.heap[w.heap.size+1]?=some (.cells #[iv 0,iv 0,iv 0,iv 0,iv 0,iv 0] 184 (0,0))):=(hk _ (by omega) (by omega)).trans rb0.out
 clear hk hT0 ob0 rb0
 obtain ⟨s0,s1,s2,s3,s4,s5⟩:=ja1 ob1.out
 have f4:=ja0 ob1.out 4
 have hT2:Hid (jbd P w own 2 (W1.setCell (aq w.heap.size 4) (iv c))):=jel KP hT1 hw (Nat.le_refl _) (by omega) _
 have rb2:Hid ((W1.setCell (aq w.heap.size 4) (iv c)).heap[w.heap.size+1]?=some (.cells #[iv 0,iv 0,iv 0,iv 0,iv 0,iv 0] 184 (0,0))):=(Below.heap_setCell _ (aq w.heap.size 4) _ _ (by show w.heap.size+1≠w.heap.size;omega)).trans rb1.out
 have lw1:w.heap.size<W1.heap.size:=(blt ob1.out)
 have lv1:w.heap.size+1<W1.heap.size:=(blt rb1.out)
 clear ob1 rb1 hT1
 go_wp2_with fail
 refine (HM.out _ hT2.out).mono ?_
 rintro e W2 ⟨rfl,hT3,hk⟩
 have rb3:Hid (W2.heap[w.heap.size+1]?=some (.cells #[iv 0,iv 0,iv 0,iv 0,iv 0,iv 0] 184 (0,0))):=(hk _ (by omega) (by omega)).trans rb2.out
 have lv2:w.heap.size+1<W2.heap.size:=(blt rb3.out)
 have HE:Hid (∀ v0 v1 v2 v3 v4 v5,jbq P' w ((((((W2.setCell (aq (w.heap.size+1) 0) v0).setCell (aq (w.heap.size+1) 1) v1).setCell (aq (w.heap.size+1) 2) v2).setCell (aq (w.heap.size+1) 3) v3).setCell (aq (w.heap.size+1) 4) v4).setCell (aq (w.heap.size+1) 5) v5) own):=fun v0 v1 v2 v3 v4 v5=>jfy (jmt KP' hT3 hw (by omega) (by omega) v0 v1 v2 v3 v4 v5)
 have g0:=ja0 rb3.out 0
 have g1:=ja0 rb3.out 1
 have g2:=ja0 rb3.out 2
 have g3:=ja0 rb3.out 3
 have g4:=ja0 rb3.out 4
 have g5:=ja0 rb3.out 5
 obtain ⟨r0,r1,r2,r3,r4,r5⟩:=ja1 rb3.out
 clear hk hT2 rb2 hT3 s0 s1 s2 s3 s4 s5 f4
 go_wp2
 refine bodyPost_ret (v:=.agg #[iv num,iv cust,iv units,iv 13,iv c,iv up']) (by simp [results,Tryz.results162,go_sem,r0,r1,r2,r3,r4,r5]) rfl ⟨rfl,?_⟩
 exact HE.out _ _ _ _ _ _
theorem qas (x:Nat) (n:Int) (w:World)
 (HF:Hid (∀ W,Below w.heap.size w W->Calls Tryz.prog 177 #[pt x 15] W fun e w'=>e=.returned (.tuple #[iv n,.bool false])/\Below W.heap.size W w')) :
 Calls Tryz.prog 161 #[pt x 0] w fun e w'=>e=.returned (.tuple #[.agg #[iv 0,iv 0,iv 0,iv 0,iv 0,iv 0],.bool false])/\Below w.heap.size w w':=by
 go_enter Tryz.func161,Tryz.ntmps161
 go_wp2_with fail
 refine (HF.out _ ((Below.refl _ _).alloc (Nat.le_refl _) _)).mono ?_
 rintro e w1 ⟨rfl,b1⟩
 have n1:w1.heap[w.heap.size]?=some (.cells #[iv 0,iv 0,iv 0,iv 0,iv 0,iv 0] 184 (0,0)):=(b1.block _ (by simp)).trans (heap_alloc_new w _)
 have hb1:Below w.heap.size w w1:=Below.trans ((Below.refl _ _).alloc (Nat.le_refl _) _) (b1.mono (by simp))
 have z1:w.heap.size<w1.heap.size:=(blt n1)
 obtain ⟨s0,s1,s2,s3,s4,s5⟩:=ja1 n1
 have f0:=ja0 n1 0
 have f1:=ja0 n1 1
 have f2:=ja0 n1 2
 have f3:=ja0 n1 3
 have f4:=ja0 n1 4
 have f5:=ja0 n1 5
 clear b1 n1
 go_wp2
 refine bodyPost_ret (v:=.tuple #[.agg #[iv 0,iv 0,iv 0,iv 0,iv 0,iv 0],.bool false]) (by simp [results,Tryz.results161,go_sem,s0,s1,s2,s3,s4,s5]) rfl ⟨rfl,?_⟩
 exact jbh hb1 (Nat.le_refl _)
theorem jwy (x:Nat) (n num cust units st cents up:Int) (w:World)
 (HF:Hid (∀ W,Below w.heap.size w W->Calls Tryz.prog 177 #[pt x 15] W fun e w'=>e=.returned (.tuple #[iv n,.bool true])/\Below W.heap.size W w'))
 (HG:Hid (∀ W,Below w.heap.size w W->Calls Tryz.prog 131 #[pt x 11,iv n] W fun e w'=>e=.returned (.tuple #[.agg #[iv num,iv cust,iv units,iv st,iv cents,iv up],.bool true])/\Below W.heap.size W w')) :
 Calls Tryz.prog 161 #[pt x 0] w fun e w'=>e=.returned (.tuple #[.agg #[iv num,iv cust,iv units,iv st,iv cents,iv up],.bool true])/\Below w.heap.size w w':=by
 go_enter Tryz.func161,Tryz.ntmps161
 go_wp2_with fail
 refine (HF.out _ ((Below.refl _ _).alloc (Nat.le_refl _) _)).mono ?_
 rintro e w1 ⟨rfl,b1⟩
 have n1:w1.heap[w.heap.size]?=some (.cells #[iv 0,iv 0,iv 0,iv 0,iv 0,iv 0] 184 (0,0)):=(b1.block _ (by simp)).trans (heap_alloc_new w _)
 have hb1:Below w.heap.size w w1:=Below.trans ((Below.refl _ _).alloc (Nat.le_refl _) _) (b1.mono (by simp))
 have z1:w.heap.size<w1.heap.size:=(blt n1)
 clear b1
 go_wp2_with fail
 refine (HG.out _ hb1).mono ?_
 rintro e w2 ⟨rfl,b2⟩
 have n2:=(b2.block _ z1).trans n1
 have hb2:Below w.heap.size w w2:=Below.trans hb1 (b2.mono hb1.size)
 have z2:w.heap.size<w2.heap.size:=(blt n2)
 obtain ⟨s0,s1,s2,s3,s4,s5⟩:=ja1 n2
 have f0:=ja0 n2 0
 have f1:=ja0 n2 1
 have f2:=ja0 n2 2
 have f3:=ja0 n2 3
 have f4:=ja0 n2 4
 have f5:=ja0 n2 5
 clear b2 n2 n1 HF HG
 go_wp2
 refine bodyPost_ret (v:=.tuple #[.agg #[iv num,iv cust,iv units,iv st,iv cents,iv up],.bool true]) (by simp [results,Tryz.results161,go_sem,s0,s1,s2,s3,s4,s5]) rfl ⟨rfl,?_⟩
 exact jbh hb2 (Nat.le_refl _)
theorem qa1 (x:Nat) (n:Int) (w:World)
 (HF:Hid (∀ W,Below w.heap.size w W->Calls Tryz.prog 186 #[pt x 15] W fun e w'=>e=.returned (.tuple #[iv n,.bool false])/\Below W.heap.size W w')) :
 Calls Tryz.prog 175 #[pt x 0] w fun e w'=>e=.returned (.tuple #[.agg #[iv 0,iv 0,iv 0,iv 0,iv 0,iv 0],.bool false])/\Below w.heap.size w w':=by
 go_enter Tryz.func175,Tryz.ntmps175
 go_wp2_with fail
 refine (HF.out _ ((Below.refl _ _).alloc (Nat.le_refl _) _)).mono ?_
 rintro e w1 ⟨rfl,b1⟩
 have n1:w1.heap[w.heap.size]?=some (.cells #[iv 0,iv 0,iv 0,iv 0,iv 0,iv 0] 184 (0,0)):=(b1.block _ (by simp)).trans (heap_alloc_new w _)
 have hb1:Below w.heap.size w w1:=Below.trans ((Below.refl _ _).alloc (Nat.le_refl _) _) (b1.mono (by simp))
 have z1:w.heap.size<w1.heap.size:=(blt n1)
 obtain ⟨s0,s1,s2,s3,s4,s5⟩:=ja1 n1
 have f0:=ja0 n1 0
 have f1:=ja0 n1 1
 have f2:=ja0 n1 2
 have f3:=ja0 n1 3
 have f4:=ja0 n1 4
 have f5:=ja0 n1 5
 clear b1 n1
 go_wp2
 refine bodyPost_ret (v:=.tuple #[.agg #[iv 0,iv 0,iv 0,iv 0,iv 0,iv 0],.bool false]) (by simp [results,Tryz.results175,go_sem,s0,s1,s2,s3,s4,s5]) rfl ⟨rfl,?_⟩
 exact jbh hb1 (Nat.le_refl _)
theorem jw2 (x:Nat) (n num cust units st cents up:Int) (w:World)
 (HF:Hid (∀ W,Below w.heap.size w W->Calls Tryz.prog 186 #[pt x 15] W fun e w'=>e=.returned (.tuple #[iv n,.bool true])/\Below W.heap.size W w'))
 (HG:Hid (∀ W,Below w.heap.size w W->Calls Tryz.prog 131 #[pt x 11,iv n] W fun e w'=>e=.returned (.tuple #[.agg #[iv num,iv cust,iv units,iv st,iv cents,iv up],.bool true])/\Below W.heap.size W w')) :
 Calls Tryz.prog 175 #[pt x 0] w fun e w'=>e=.returned (.tuple #[.agg #[iv num,iv cust,iv units,iv st,iv cents,iv up],.bool true])/\Below w.heap.size w w':=by
 go_enter Tryz.func175,Tryz.ntmps175
 go_wp2_with fail
 refine (HF.out _ ((Below.refl _ _).alloc (Nat.le_refl _) _)).mono ?_
 rintro e w1 ⟨rfl,b1⟩
 have n1:w1.heap[w.heap.size]?=some (.cells #[iv 0,iv 0,iv 0,iv 0,iv 0,iv 0] 184 (0,0)):=(b1.block _ (by simp)).trans (heap_alloc_new w _)
 have hb1:Below w.heap.size w w1:=Below.trans ((Below.refl _ _).alloc (Nat.le_refl _) _) (b1.mono (by simp))
 have z1:w.heap.size<w1.heap.size:=(blt n1)
 clear b1
 go_wp2_with fail
 refine (HG.out _ hb1).mono ?_
 rintro e w2 ⟨rfl,b2⟩
 have n2:=(b2.block _ z1).trans n1
 have hb2:Below w.heap.size w w2:=Below.trans hb1 (b2.mono hb1.size)
 have z2:w.heap.size<w2.heap.size:=(blt n2)
 obtain ⟨s0,s1,s2,s3,s4,s5⟩:=ja1 n2
 have f0:=ja0 n2 0
 have f1:=ja0 n2 1
 have f2:=ja0 n2 2
 have f3:=ja0 n2 3
 have f4:=ja0 n2 4
 have f5:=ja0 n2 5
 clear b2 n2 n1 HF HG
 go_wp2
 refine bodyPost_ret (v:=.tuple #[.agg #[iv num,iv cust,iv units,iv st,iv cents,iv up],.bool true]) (by simp [results,Tryz.results175,go_sem,s0,s1,s2,s3,s4,s5]) rfl ⟨rfl,?_⟩
 exact jbh hb2 (Nat.le_refl _)
end
def POrd.cells (p:POrd):Array Value:=#[iv p.num,iv p.cust,iv p.units,iv p.st,iv p.cents,iv p.upto]
def jfs {σ:Type} (P:σ->World->(Nat->Prop)->Prop) (Inv:σ->Prop) (fst:σ->Option POrd) (fin:σ->σ) (μ:σ->Nat) (s:σ) (w1:World) (own:Nat->Prop) (v:Value) (wr:World) (n:Nat):Prop :=
 ∃ s',Inv s'/\μ s'=n/\fin s'=fin s/\jbd (P s') w1 own 1 wr/\v=.bool (fst s').isSome/\wr.heap[w1.heap.size]?=some (.cells ((fst s').getD pord0).cells 184 (0,0))
theorem jg6 {W:World} {b:Nat} {c0 c1 c2 c3 c4 c5:Value} {T:TypeId} (h:W.heap[b]?=some (.cells #[c0,c1,c2,c3,c4,c5] T (0,0))) (v0 v1 v2 v3 v4 v5:Value):((((((W.setCell (aq b 0) v0).setCell (aq b 1) v1).setCell (aq b 2) v2).setCell (aq b 3) v3).setCell (aq b 4) v4).setCell (aq b 5) v5).heap[b]?=some (.cells #[v0,v1,v2,v3,v4,v5] T (0,0)):=by
 have h2:=Joins.block_setCell (i:=0) h v0
 have h3:=Joins.block_setCell (i:=1) h2 v1
 have h4:=Joins.block_setCell (i:=2) h3 v2
 have h5:=Joins.block_setCell (i:=3) h4 v3
 have h6:=Joins.block_setCell (i:=4) h5 v4
 exact Joins.block_setCell (i:=5) h6 v5
theorem jq8 {σ:Type} (x:Nat) (P:σ->World->(Nat->Prop)->Prop) (KP:∀ s,Keeps (P s)) (Inv:σ->Prop) (fst:σ->Option POrd) (fr:σ->Int) (nx fin:σ->σ) (μ:σ->Nat) (rv:σ->Value) (cd:σ->POrd->Prop) (hcd:Hid (∀ s p,cd s p↔p.units<=fr s))
 (hF:Hid (∀ s,Inv s->∀ W o,P s W o->Calls Tryz.prog 161 #[pt x 0] W fun e w'=>e=.returned (.tuple #[((fst s).getD pord0).val,.bool (fst s).isSome])/\Below W.heap.size W w'))
 (hL:Hid (∀ s,Inv s->∀ W o,P s W o->Calls Tryz.prog 58 #[pt x 0] W fun e w'=>e=.returned (iv (fr s))/\Below W.heap.size W w'))
 (hO:Hid (∀ s p,Inv s->fst s=some p->cd s p->∀ W o,P s W o->Calls Tryz.prog 162 #[pt x 0,p.val] W fun e w'=>e=.returned (rv s)/\jbq (P (nx s)) W w' o))
 (hN:Hid (∀ s p,Inv s->fst s=some p->cd s p->Inv (nx s)/\μ (nx s)<μ s/\fin (nx s)=fin s))
 (hE:Hid (∀ s,Inv s->(∀ p,fst s=some p->¬ cd s p)->fin s=s)) (s:σ) (w:World) (own:Nat->Prop) (hi:Inv s) (h:P s w own) :
 Calls Tryz.prog 137 #[pt x 0] w fun e w'=>e=.returned (.tuple #[])/\jbq (P (fin s)) w w' own:=by
 have hw:=(KP s).lt h
 go_enter Tryz.func137,Tryz.ntmps137
 go_wp2_with fail
 refine (hF.out s hi w own h).mono ?_
 rintro e w1 ⟨rfl,b1⟩
 have h1:P s w1 own:=(KP s).keep h b1.size (fun k e=>b1.block k (hw k e))
 have hw1:Hid (∀ k,own k->k<w1.heap.size):=fun k e=>Nat.lt_of_lt_of_le (hw k e) b1.size
 have HFRONT:Hid (∀ s' w',jbq (P s') w1 w' own->jbq (P s') w w' own):=fun s' w' ha=>jk3 b1 ha
 have HI0:Hid (jfs P Inv fst fin μ s w1 own (.bool (fst s).isSome) (w1.alloc (.cells ((fst s).getD pord0).cells 184)) (μ s)):=⟨s,hi,rfl,rfl,jfi (KP s) h1 ((Below.refl _ _).alloc (Nat.le_refl _) _) (by simp),rfl,heap_alloc_new w1 _⟩
 clear h h1 hi hw b1
 unfold POrd.val
 unfold POrd.cells at HI0
 generalize (fst s).getD pord0=p0 at HI0 ⊢
 generalize (fst s).isSome=b0 at HI0 ⊢
 go_wp2_with fail
 go_loopw [3] (fun v wr=>∃ n,jfs P Inv fst fin μ s w1 own v wr n) (fun v wr=>fuel (jfs P Inv fst fin μ s w1 own v wr))
 case atStart=>exact ⟨_,HI0.out⟩
 case round =>
  have hfu:=jsa hrel
  obtain ⟨s',i1,i2,i3,hT,rfl,ob⟩:=hfu
  replace hT:Hid _:=hT
  replace i1:Hid _:=i1
  have ob:Hid _:=ob
  have HM:Hid (∀ v' w' m,jfs P Inv fst fin μ s w1 own v' w' m->m<μ s'->(∃ n,jfs P Inv fst fin μ s w1 own v' w' n)/\fuel (jfs P Inv fst fin μ s w1 own v' w')<fuel (jfs P Inv fst fin μ s w1 own (.bool (fst s').isSome) wr)):=fun v' w' m h1 h2=>⟨⟨m,h1⟩,by rw [← i2];exact Nat.lt_of_le_of_lt (jtc h1) h2⟩
  clear hrel i2
  have HX:Hid (∀ w',jbd (P s') w1 own 1 w'->(∀ p,fst s'=some p->¬ cd s' p)->jbq (P (fin s)) w w' own):=fun w' h1 h2=>by
   rw [← i3,hE.out s' i1.out h2]
   exact HFRONT.out _ _ (jfy h1)
  cases hf:fst s' with
  | none =>
    have HX':Hid (∀ w',jbd (P s') w1 own 1 w'->jbq (P (fin s)) w w' own):=fun w' h1=>HX.out w' h1 (fun p e=>by rw [hf] at e;cases e)
    rw [hf] at HM
    clear HX ob HI0
    simp only [Option.isSome_none]
    go_wp2_with fail
    go_quiet (fail)
    go_wp2
    first|go_end0|refine bodyPost_ret (results_none rfl _ _ _) rfl ?_
    exact ⟨rfl,HX'.out _ (jb1 (KP s') hT.out bL)⟩
  | some p =>
    rw [hf] at HM ob
    simp only [Option.getD_some,POrd.cells,Option.isSome_some] at ob HM ⊢
    obtain ⟨s0,s1,s2,s3,s4,s5⟩:=ja1 ob.out
    have lw:w1.heap.size<wr.heap.size:=(blt ob.out)
    have HLs:Hid (∀ W,jbd (P s') w1 own 1 W->Calls Tryz.prog 58 #[pt x 0] W fun e w'=>e=.returned (iv (fr s'))/\jbd (P s') w1 own 1 w'/\∀ b,w1.heap.size<=b->b<w1.heap.size+1->w'.heap[b]?=W.heap[b]?):=fun W hW=>jfj (KP s') hw1.out (hL.out s' i1.out) W hW
    by_cases hle:cd s' p
    ·have HOs:Hid (∀ W,jbd (P s') w1 own 1 W->Calls Tryz.prog 162 #[pt x 0,p.val] W fun e w'=>e=.returned (rv s')/\jbd (P (nx s')) w1 own 1 w'/\∀ b,w1.heap.size<=b->b<w1.heap.size+1->w'.heap[b]?=W.heap[b]?):=fun W hW=>jeb hw1.out (hO.out s' p i1.out hf hle) W hW
     obtain ⟨n1,n2,n3⟩:=hN.out s' p i1.out hf hle
     have HFs:Hid (∀ W,jbd (P (nx s')) w1 own 1 W->Calls Tryz.prog 161 #[pt x 0] W fun e w'=>e=.returned (.tuple #[((fst (nx s')).getD pord0).val,.bool (fst (nx s')).isSome])/\jbd (P (nx s')) w1 own 1 w'/\∀ b,w1.heap.size<=b->b<w1.heap.size+1->w'.heap[b]?=W.heap[b]?):=fun W hW=>jfj (KP (nx s')) hw1.out (hF.out (nx s') n1) W hW
     have HR:Hid (∀ W',jbd (P (nx s')) w1 own 1 W'->W'.heap[w1.heap.size]?=some (.cells ((fst (nx s')).getD pord0).cells 184 (0,0))->(∃ n,jfs P Inv fst fin μ s w1 own (.bool (fst (nx s')).isSome) W' n)/\fuel (jfs P Inv fst fin μ s w1 own (.bool (fst (nx s')).isSome) W')<fuel (jfs P Inv fst fin μ s w1 own (.bool true) wr)):=fun W' h1 h2=>HM.out _ W' _ ⟨nx s',n1,rfl,n3.trans i3,h1,rfl,h2⟩ n2
     clear HM HX hO hN hE hF hL n1 n2 n3 i3 HFRONT HI0
     unfold POrd.val at HOs HFs
     unfold POrd.cells at HR
     have hle2:=(hcd.out s' p).1 hle
     clear hcd hle
     have dl:decide (p.units<=fr s')=true:=by simpa using hle2
     generalize (fst (nx s')).getD pord0=p1 at HFs HR
     generalize (fst (nx s')).isSome=b1 at HFs HR
     generalize fr s'=fs at HLs hle2 dl
     generalize hP':P s'=Pa at hT HLs HOs
     have KPa:Keeps Pa:=hP'▸KP s'
     generalize hPn:P (nx s')=Pb at HOs HFs HR
     have KPb:Keeps Pb:=hPn▸KP (nx s')
     clear hP' hPn i1 hf
     generalize rv s'=rr at HOs
     go_wp2_with fail
     go_region_held3 (fun w'=>w'.cell? (aq w1.heap.size 2)=some (iv p.units)) (simp [go_sem, *])
      (first
        | (go_at_call 58;refine (HLs.out _ (jb1 KPa hT.out bL)).mono ?_;rintro e W1 ⟨rfl,hT1,hk⟩
           have ob1:Hid _:=(hk _ (Nat.le_refl _) (by omega)).trans ob.out
           obtain ⟨s0',s1',s2',s3',s4',s5'⟩:=ja1 ob1.out
           have lw1:w1.heap.size<W1.heap.size:=(blt ob1.out)
           replace hT1:Hid _:=hT1
           clear hk))
     clear s0 s1 s2 s3 s4 s5 hT ob lw
     go_wp2_with fail
     refine (HOs.out _ hT1.out).mono ?_
     rintro e W2 ⟨rfl,hT2,hk⟩
     have ob2:Hid _:=(hk _ (Nat.le_refl _) (by omega)).trans ob1.out
     clear s0' s1' s2' s3' s4' s5' hT1 ob1 lw1 hk
     go_wp2_with fail
     refine (HFs.out _ hT2).mono ?_
     rintro e W3 ⟨rfl,hT3,hk⟩
     have ob3:=(hk _ (Nat.le_refl _) (by omega)).trans ob2.out
     have HS6:=jg6 ob3 (iv p1.num) (iv p1.cust) (iv p1.units) (iv p1.st) (iv p1.cents) (iv p1.upto)
     have hT4:Hid _:=jmt KPb hT3 hw1.out (Nat.le_refl _) (by omega) (iv p1.num) (iv p1.cust) (iv p1.units) (iv p1.st) (iv p1.cents) (iv p1.upto)
     obtain ⟨s0,s1,s2,s3,s4,s5⟩:=ja1 ob3
     have f0:=ja0 ob3 0
     have f1:=ja0 ob3 1
     have f2:=ja0 ob3 2
     have f3:=ja0 ob3 3
     have f4:=ja0 ob3 4
     have f5:=ja0 ob3 5
     have lw3:w1.heap.size<W3.heap.size:=(blt ob3)
     replace ob3:Hid _:=ob3
     replace HS6:Hid _:=HS6
     clear hT2 ob2 hk hT3
     go_wp2
     exact HR.out _ hT4.out HS6.out
    ·have HX':Hid (∀ w',jbd (P s') w1 own 1 w'->jbq (P (fin s)) w w' own):=fun w' h1=>HX.out w' h1 (fun p' e=>by rw [hf] at e;simp only [Option.some.injEq] at e;rw [← e];exact hle)
     clear HM HX hO hN hE hF hL HFRONT HI0
     have hle2:=fun c=>hle ((hcd.out s' p).2 c)
     clear hcd hle
     have dl:decide (p.units<=fr s')=false:=by simpa using hle2
     generalize fr s'=fs at HLs hle2 dl
     generalize hP':P s'=Pa at hT HLs HX'
     have KPa:Keeps Pa:=hP'▸KP s'
     clear hP' i1 hf
     go_wp2_with fail
     go_region_held3 (fun w'=>w'.cell? (aq w1.heap.size 2)=some (iv p.units)) (simp [go_sem, *])
      (first
        | (go_at_call 58;refine (HLs.out _ (jb1 KPa hT.out bL)).mono ?_;rintro e W1 ⟨rfl,hT1,hk⟩
           have ob1:Hid _:=(hk _ (Nat.le_refl _) (by omega)).trans ob.out
           obtain ⟨s0',s1',s2',s3',s4',s5'⟩:=ja1 ob1.out
           have lw1:w1.heap.size<W1.heap.size:=(blt ob1.out)
           replace hT1:Hid _:=hT1
           clear hk))
     clear s0 s1 s2 s3 s4 s5 hT ob lw
     go_wp2
     first|go_end0|refine bodyPost_ret (results_none rfl _ _ _) rfl ?_
     exact ⟨rfl,HX'.out _ (jb1 KPa hT1.out bL)⟩
theorem jvo {σ:Type} (x:Nat) (P:σ->World->(Nat->Prop)->Prop) (KP:∀ s,Keeps (P s)) (Inv:σ->Prop) (fst:σ->Option POrd) (fr:σ->Int) (nx fin:σ->σ) (μ:σ->Nat) (rv:σ->Value) (cd:σ->POrd->Prop) (hcd:Hid (∀ s p,cd s p↔fr s<p.units))
 (hF:Hid (∀ s,Inv s->∀ W o,P s W o->Calls Tryz.prog 175 #[pt x 0] W fun e w'=>e=.returned (.tuple #[((fst s).getD pord0).val,.bool (fst s).isSome])/\Below W.heap.size W w'))
 (hL:Hid (∀ s,Inv s->∀ W o,P s W o->Calls Tryz.prog 154 #[pt x 0] W fun e w'=>e=.returned (iv (fr s))/\Below W.heap.size W w'))
 (hO:Hid (∀ s p,Inv s->fst s=some p->cd s p->∀ W o,P s W o->Calls Tryz.prog 157 #[pt x 0,p.val,iv 18] W fun e w'=>e=.returned (rv s)/\jbq (P (nx s)) W w' o))
 (hN:Hid (∀ s p,Inv s->fst s=some p->cd s p->Inv (nx s)/\μ (nx s)<μ s/\fin (nx s)=fin s))
 (hE:Hid (∀ s,Inv s->(∀ p,fst s=some p->¬ cd s p)->fin s=s)) (s:σ) (w:World) (own:Nat->Prop) (hi:Inv s) (h:P s w own) :
 Calls Tryz.prog 158 #[pt x 0] w fun e w'=>e=.returned (.tuple #[])/\jbq (P (fin s)) w w' own:=by
 have hw:=(KP s).lt h
 go_enter Tryz.func158,Tryz.ntmps158
 go_wp2_with fail
 refine (hF.out s hi w own h).mono ?_
 rintro e w1 ⟨rfl,b1⟩
 have h1:P s w1 own:=(KP s).keep h b1.size (fun k e=>b1.block k (hw k e))
 have hw1:Hid (∀ k,own k->k<w1.heap.size):=fun k e=>Nat.lt_of_lt_of_le (hw k e) b1.size
 have HFRONT:Hid (∀ s' w',jbq (P s') w1 w' own->jbq (P s') w w' own):=fun s' w' ha=>jk3 b1 ha
 have HI0:Hid (jfs P Inv fst fin μ s w1 own (.bool (fst s).isSome) (w1.alloc (.cells ((fst s).getD pord0).cells 184)) (μ s)):=⟨s,hi,rfl,rfl,jfi (KP s) h1 ((Below.refl _ _).alloc (Nat.le_refl _) _) (by simp),rfl,heap_alloc_new w1 _⟩
 clear h h1 hi hw b1
 unfold POrd.val
 unfold POrd.cells at HI0
 generalize (fst s).getD pord0=p0 at HI0 ⊢
 generalize (fst s).isSome=b0 at HI0 ⊢
 go_wp2_with fail
 go_loopw [3] (fun v wr=>∃ n,jfs P Inv fst fin μ s w1 own v wr n) (fun v wr=>fuel (jfs P Inv fst fin μ s w1 own v wr))
 case atStart=>exact ⟨_,HI0.out⟩
 case round =>
  have hfu:=jsa hrel
  obtain ⟨s',i1,i2,i3,hT,rfl,ob⟩:=hfu
  replace hT:Hid _:=hT
  replace i1:Hid _:=i1
  have ob:Hid _:=ob
  have HM:Hid (∀ v' w' m,jfs P Inv fst fin μ s w1 own v' w' m->m<μ s'->(∃ n,jfs P Inv fst fin μ s w1 own v' w' n)/\fuel (jfs P Inv fst fin μ s w1 own v' w')<fuel (jfs P Inv fst fin μ s w1 own (.bool (fst s').isSome) wr)):=fun v' w' m h1 h2=>⟨⟨m,h1⟩,by rw [← i2];exact Nat.lt_of_le_of_lt (jtc h1) h2⟩
  clear hrel i2
  have HX:Hid (∀ w',jbd (P s') w1 own 1 w'->(∀ p,fst s'=some p->¬ cd s' p)->jbq (P (fin s)) w w' own):=fun w' h1 h2=>by
   rw [← i3,hE.out s' i1.out h2]
   exact HFRONT.out _ _ (jfy h1)
  cases hf:fst s' with
  | none =>
    have HX':Hid (∀ w',jbd (P s') w1 own 1 w'->jbq (P (fin s)) w w' own):=fun w' h1=>HX.out w' h1 (fun p e=>by rw [hf] at e;cases e)
    rw [hf] at HM
    clear HX ob HI0
    simp only [Option.isSome_none]
    go_wp2_with fail
    go_quiet (fail)
    go_wp2
    first|go_end0|refine bodyPost_ret (results_none rfl _ _ _) rfl ?_
    exact ⟨rfl,HX'.out _ (jb1 (KP s') hT.out bL)⟩
  | some p =>
    rw [hf] at HM ob
    simp only [Option.getD_some,POrd.cells,Option.isSome_some] at ob HM ⊢
    obtain ⟨s0,s1,s2,s3,s4,s5⟩:=ja1 ob.out
    have lw:w1.heap.size<wr.heap.size:=(blt ob.out)
    have HLs:Hid (∀ W,jbd (P s') w1 own 1 W->Calls Tryz.prog 154 #[pt x 0] W fun e w'=>e=.returned (iv (fr s'))/\jbd (P s') w1 own 1 w'/\∀ b,w1.heap.size<=b->b<w1.heap.size+1->w'.heap[b]?=W.heap[b]?):=fun W hW=>jfj (KP s') hw1.out (hL.out s' i1.out) W hW
    by_cases hle:cd s' p
    ·have HOs:Hid (∀ W,jbd (P s') w1 own 1 W->Calls Tryz.prog 157 #[pt x 0,p.val,iv 18] W fun e w'=>e=.returned (rv s')/\jbd (P (nx s')) w1 own 1 w'/\∀ b,w1.heap.size<=b->b<w1.heap.size+1->w'.heap[b]?=W.heap[b]?):=fun W hW=>jeb hw1.out (hO.out s' p i1.out hf hle) W hW
     obtain ⟨n1,n2,n3⟩:=hN.out s' p i1.out hf hle
     have HFs:Hid (∀ W,jbd (P (nx s')) w1 own 1 W->Calls Tryz.prog 175 #[pt x 0] W fun e w'=>e=.returned (.tuple #[((fst (nx s')).getD pord0).val,.bool (fst (nx s')).isSome])/\jbd (P (nx s')) w1 own 1 w'/\∀ b,w1.heap.size<=b->b<w1.heap.size+1->w'.heap[b]?=W.heap[b]?):=fun W hW=>jfj (KP (nx s')) hw1.out (hF.out (nx s') n1) W hW
     have HR:Hid (∀ W',jbd (P (nx s')) w1 own 1 W'->W'.heap[w1.heap.size]?=some (.cells ((fst (nx s')).getD pord0).cells 184 (0,0))->(∃ n,jfs P Inv fst fin μ s w1 own (.bool (fst (nx s')).isSome) W' n)/\fuel (jfs P Inv fst fin μ s w1 own (.bool (fst (nx s')).isSome) W')<fuel (jfs P Inv fst fin μ s w1 own (.bool true) wr)):=fun W' h1 h2=>HM.out _ W' _ ⟨nx s',n1,rfl,n3.trans i3,h1,rfl,h2⟩ n2
     clear HM HX hO hN hE hF hL n1 n2 n3 i3 HFRONT HI0
     unfold POrd.val at HOs HFs
     unfold POrd.cells at HR
     have hle2:=(hcd.out s' p).1 hle
     clear hcd hle
     have dl:decide (fr s'<p.units)=true:=by simpa using hle2
     generalize (fst (nx s')).getD pord0=p1 at HFs HR
     generalize (fst (nx s')).isSome=b1 at HFs HR
     generalize fr s'=fs at HLs hle2 dl
     generalize hP':P s'=Pa at hT HLs HOs
     have KPa:Keeps Pa:=hP'▸KP s'
     generalize hPn:P (nx s')=Pb at HOs HFs HR
     have KPb:Keeps Pb:=hPn▸KP (nx s')
     clear hP' hPn i1 hf
     generalize rv s'=rr at HOs
     go_wp2_with fail
     go_region_held3 (fun w'=>w'.cell? (aq w1.heap.size 2)=some (iv p.units)) (simp [go_sem, *])
      (first
        | (go_at_call 154;refine (HLs.out _ (jb1 KPa hT.out bL)).mono ?_;rintro e W1 ⟨rfl,hT1,hk⟩
           have ob1:Hid _:=(hk _ (Nat.le_refl _) (by omega)).trans ob.out
           obtain ⟨s0',s1',s2',s3',s4',s5'⟩:=ja1 ob1.out
           have lw1:w1.heap.size<W1.heap.size:=(blt ob1.out)
           replace hT1:Hid _:=hT1
           clear hk))
     clear s0 s1 s2 s3 s4 s5 hT ob lw
     go_wp2_with fail
     refine (HOs.out _ hT1.out).mono ?_
     rintro e W2 ⟨rfl,hT2,hk⟩
     have ob2:Hid _:=(hk _ (Nat.le_refl _) (by omega)).trans ob1.out
     clear s0' s1' s2' s3' s4' s5' hT1 ob1 lw1 hk
     go_wp2_with fail
     refine (HFs.out _ hT2).mono ?_
     rintro e W3 ⟨rfl,hT3,hk⟩
     have ob3:=(hk _ (Nat.le_refl _) (by omega)).trans ob2.out
     have HS6:=jg6 ob3 (iv p1.num) (iv p1.cust) (iv p1.units) (iv p1.st) (iv p1.cents) (iv p1.upto)
     have hT4:Hid _:=jmt KPb hT3 hw1.out (Nat.le_refl _) (by omega) (iv p1.num) (iv p1.cust) (iv p1.units) (iv p1.st) (iv p1.cents) (iv p1.upto)
     obtain ⟨s0,s1,s2,s3,s4,s5⟩:=ja1 ob3
     have f0:=ja0 ob3 0
     have f1:=ja0 ob3 1
     have f2:=ja0 ob3 2
     have f3:=ja0 ob3 3
     have f4:=ja0 ob3 4
     have f5:=ja0 ob3 5
     have lw3:w1.heap.size<W3.heap.size:=(blt ob3)
     replace ob3:Hid _:=ob3
     replace HS6:Hid _:=HS6
     clear hT2 ob2 hk hT3
     go_wp2
     exact HR.out _ hT4.out HS6.out
    ·have HX':Hid (∀ w',jbd (P s') w1 own 1 w'->jbq (P (fin s)) w w' own):=fun w' h1=>HX.out w' h1 (fun p' e=>by rw [hf] at e;simp only [Option.some.injEq] at e;rw [← e];exact hle)
     clear HM HX hO hN hE hF hL HFRONT HI0
     have hle2:=fun c=>hle ((hcd.out s' p).2 c)
     clear hcd hle
     have dl:decide (fr s'<p.units)=false:=by simpa using hle2
     generalize fr s'=fs at HLs hle2 dl
     generalize hP':P s'=Pa at hT HLs HX'
     have KPa:Keeps Pa:=hP'▸KP s'
     clear hP' i1 hf
     go_wp2_with fail
     go_region_held3 (fun w'=>w'.cell? (aq w1.heap.size 2)=some (iv p.units)) (simp [go_sem, *])
      (first
        | (go_at_call 154;refine (HLs.out _ (jb1 KPa hT.out bL)).mono ?_;rintro e W1 ⟨rfl,hT1,hk⟩
           have ob1:Hid _:=(hk _ (Nat.le_refl _) (by omega)).trans ob.out
           obtain ⟨s0',s1',s2',s3',s4',s5'⟩:=ja1 ob1.out
           have lw1:w1.heap.size<W1.heap.size:=(blt ob1.out)
           replace hT1:Hid _:=hT1
           clear hk))
     clear s0 s1 s2 s3 s4 s5 hT ob lw
     go_wp2
     first|go_end0|refine bodyPost_ret (results_none rfl _ _ _) rfl ?_
     exact ⟨rfl,HX'.out _ (jb1 KPa hT1.out bL)⟩
end Go.Proofs.YtfhncfghblkgeaaGreat
