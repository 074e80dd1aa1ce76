import Derived.Test.YtfhncfghblkgeabGreatL36
set_option maxRecDepth 100000
set_option maxHeartbeats 2000000
namespace Go.Proofs.YtfhncfghblkgeabGreat
open Go.RowKit
section
theorem Zu {p:Nat->Prop} (h:∃ n,p n):∃ n,p n/\∀ m,p m->n<=m:=by
 obtain ⟨n,hn⟩:=h
 induction n using Nat.strongRecOn with
 | _ n ih =>
   by_cases hx:∃ m,m<n/\p m
   ·obtain ⟨m,h1,h2⟩:=hx
    exact ih m h1 h2
   ·exact ⟨n,hn,fun m hm=>Nat.le_of_not_lt (fun c=>hx ⟨m,c,hm⟩)⟩
open Classical in
noncomputable def fuel (p:Nat->Prop):Nat:=if h:∃ n,p n then Classical.choose (Zu h) else 0
theorem Ua {p:Nat->Prop} (h:∃ n,p n):p (fuel p):=by
 unfold fuel
 rw [dif_pos h]
 exact (Classical.choose_spec (Zu h)).1
theorem Kq {p:Nat->Prop} {n:Nat} (h:p n):fuel p<=n:=by
 unfold fuel
 rw [dif_pos ⟨n,h⟩]
 exact (Classical.choose_spec (Zu ⟨n,h⟩)).2 n h
theorem Po (x:Nat) (own:Nat->Prop) (P P':World->(Nat->Prop)->Prop) (KP:Keeps P) (KP':Keeps P') (num cust units st cents up c up':Int) (w:World) (hw:∀ k,own k->k<w.heap.size) (h:P w own)
 (HP:Hid (YO w own 2 P P 162 #[pt x 0] (iv c)))
 (HM:Hid (YO w own 2 P P' 129 #[pt x 0,.agg #[iv num,iv cust,iv units,iv st,iv c,iv up],iv 13] (.agg #[iv num,iv cust,iv units,iv 13,iv c,iv up']))) :
 Ca 136 #[pt x 0,.agg #[iv num,iv cust,iv units,iv st,iv cents,iv up]] w fun e w'=>e=.returned (.agg #[iv num,iv cust,iv units,iv 13,iv c,iv up'])/\zQ P' w w' own:=by
 go_enter Tryz.func136,Tryz.ntmps136
 have hT0:Hid (zF P w own 2 ((w.alloc (.cells #[iv num,iv cust,iv units,iv st,iv cents,iv up] 142)).alloc (.cells #[iv 0,iv 0,iv 0,iv 0,iv 0,iv 0] 142))):=fR KP h (((uM _ _).alloc (uA _) _).alloc vS _) vS
 have ob0:=zq1 w #[iv num,iv cust,iv units,iv st,iv cents,iv up] 142 #[iv 0,iv 0,iv 0,iv 0,iv 0,iv 0] 142
 have rb0:=zq2 w #[iv num,iv cust,iv units,iv st,iv cents,iv up] 142 #[iv 0,iv 0,iv 0,iv 0,iv 0,iv 0] 142
 clear h
 go_wp2_with fail
 generalize (w.alloc (.cells #[iv num,iv cust,iv units,iv st,iv cents,iv up] 142)).alloc (.cells #[iv 0,iv 0,iv 0,iv 0,iv 0,iv 0] 142)=W0 at hT0 ob0 rb0 ⊢
 refine (HP.out _ hT0.out).mono ?_
 rintro e W1 ⟨rfl,hT1,hk⟩
 have ob1:Hid (W1.heap[w.heap.size]?=some (.cells #[iv num,iv cust,iv units,iv st,iv cents,iv up] 142)):=(hk _ (uA _) uO).trans ob0.out
 have rb1:Hid (W1.heap[w.heap.size+1]?=some (.cells #[iv 0,iv 0,iv 0,iv 0,iv 0,iv 0] 142)):=(hk _ uO uO).trans rb0.out
 clear hk hT0 ob0 rb0
 obtain ⟨s0,s1,s2,s3,s4,s5⟩:=qB ob1.out
 have f4:=qA ob1.out 4
 have hT2:Hid (zF P w own 2 (W1.sc w.heap.size 4 (iv c))):=oN KP hT1 hw (uA _) uO _
 have rb2:Hid ((W1.sc w.heap.size 4 (iv c)).heap[w.heap.size+1]?=some (.cells #[iv 0,iv 0,iv 0,iv 0,iv 0,iv 0] 142)):=(uG _ (aq w.heap.size 4) _ _ (by show w.heap.size+1≠w.heap.size;omega)).trans rb1.out
 have lw1:w.heap.size<W1.heap.size:=(blt ob1.out)
 have lv1:w.heap.size+1<W1.heap.size:=(blt rb1.out)
 clear ob1 rb1 hT1
 go_wp2_with fail
 refine (HM.out _ hT2.out).mono ?_
 rintro e W2 ⟨rfl,hT3,hk⟩
 have rb3:Hid (W2.heap[w.heap.size+1]?=some (.cells #[iv 0,iv 0,iv 0,iv 0,iv 0,iv 0] 142)):=(hk _ uO uO).trans rb2.out
 have lv2:w.heap.size+1<W2.heap.size:=(blt rb3.out)
 have HE:Hid (∀ v0 v1 v2 v3 v4 v5,zQ P' w ((((((W2.sc (w.heap.size+1) 0 v0).sc (w.heap.size+1) 1 v1).sc (w.heap.size+1) 2 v2).sc (w.heap.size+1) 3 v3).sc (w.heap.size+1) 4 v4).sc (w.heap.size+1) 5 v5) own):=fun v0 v1 v2 v3 v4 v5=>gD (eP KP' hT3 hw uO uO v0 v1 v2 v3 v4 v5)
 have g0:=qA rb3.out 0
 have g1:=qA rb3.out 1
 have g2:=qA rb3.out 2
 have g3:=qA rb3.out 3
 have g4:=qA rb3.out 4
 have g5:=qA rb3.out 5
 obtain ⟨r0,r1,r2,r3,r4,r5⟩:=qB rb3.out
 clear hk hT2 rb2 hT3 s0 s1 s2 s3 s4 s5 f4
 go_wp2
 refine uK (v:=.agg #[iv num,iv cust,iv units,iv 13,iv c,iv up']) (by simp [results,Tryz.results136,go_sem,r0,r1,r2,r3,r4,r5]) rfl ⟨rfl,?_⟩
 exact HE.out _ _ _ _ _ _
theorem Ae (x:Nat) (n:Int) (w:World)
 (HF:Hid (∀ W,Below w.heap.size w W->Ca 161 #[pt x 15] W fun e w'=>e=.returned (.tuple #[iv n,.bool false])/\Below W.heap.size W w')) :
 Ca 135 #[pt x 0] w fun e w'=>e=.returned (.tuple #[.agg #[iv 0,iv 0,iv 0,iv 0,iv 0,iv 0],.bool false])/\Below w.heap.size w w':=by
 go_enter Tryz.func135,Tryz.ntmps135
 go_wp2_with fail
 refine (HF.out _ ((uM _ _).alloc (uA _) _)).mono ?_
 rintro e w1 ⟨rfl,b1⟩
 have n1:w1.heap[w.heap.size]?=some (.cells #[iv 0,iv 0,iv 0,iv 0,iv 0,iv 0] 142):=(b1.block _ vS).trans (uF w _)
 have hb1:Below w.heap.size w w1:=uL ((uM _ _).alloc (uA _) _) (b1.mono vS)
 have z1:w.heap.size<w1.heap.size:=(blt n1)
 obtain ⟨s0,s1,s2,s3,s4,s5⟩:=qB n1
 have f0:=qA n1 0
 have f1:=qA n1 1
 have f2:=qA n1 2
 have f3:=qA n1 3
 have f4:=qA n1 4
 have f5:=qA n1 5
 clear b1 n1
 go_wp2
 refine uK (v:=.tuple #[.agg #[iv 0,iv 0,iv 0,iv 0,iv 0,iv 0],.bool false]) (by simp [results,Tryz.results135,go_sem,s0,s1,s2,s3,s4,s5]) rfl ⟨rfl,?_⟩
 exact zL hb1 (uA _)
theorem Du (x:Nat) (n num cust units st cents up:Int) (w:World)
 (HF:Hid (∀ W,Below w.heap.size w W->Ca 161 #[pt x 15] W fun e w'=>e=.returned (.tuple #[iv n,.bool true])/\Below W.heap.size W w'))
 (HG:Hid (∀ W,Below w.heap.size w W->Ca 95 #[pt x 11,iv n] W fun e w'=>e=.returned (.tuple #[.agg #[iv num,iv cust,iv units,iv st,iv cents,iv up],.bool true])/\Below W.heap.size W w')) :
 Ca 135 #[pt x 0] w fun e w'=>e=.returned (.tuple #[.agg #[iv num,iv cust,iv units,iv st,iv cents,iv up],.bool true])/\Below w.heap.size w w':=by
 go_enter Tryz.func135,Tryz.ntmps135
 go_wp2_with fail
 refine (HF.out _ ((uM _ _).alloc (uA _) _)).mono ?_
 rintro e w1 ⟨rfl,b1⟩
 have n1:w1.heap[w.heap.size]?=some (.cells #[iv 0,iv 0,iv 0,iv 0,iv 0,iv 0] 142):=(b1.block _ vS).trans (uF w _)
 have hb1:Below w.heap.size w w1:=uL ((uM _ _).alloc (uA _) _) (b1.mono vS)
 have z1:w.heap.size<w1.heap.size:=(blt n1)
 clear b1
 go_wp2_with fail
 refine (HG.out _ hb1).mono ?_
 rintro e w2 ⟨rfl,b2⟩
 have n2:=(b2.block _ z1).trans n1
 have hb2:Below w.heap.size w w2:=uL hb1 (b2.mono hb1.size)
 have z2:w.heap.size<w2.heap.size:=(blt n2)
 obtain ⟨s0,s1,s2,s3,s4,s5⟩:=qB n2
 have f0:=qA n2 0
 have f1:=qA n2 1
 have f2:=qA n2 2
 have f3:=qA n2 3
 have f4:=qA n2 4
 have f5:=qA n2 5
 clear b2 n2 n1 HF HG
 go_wp2
 refine uK (v:=.tuple #[.agg #[iv num,iv cust,iv units,iv st,iv cents,iv up],.bool true]) (by simp [results,Tryz.results135,go_sem,s0,s1,s2,s3,s4,s5]) rfl ⟨rfl,?_⟩
 exact zL hb2 (uA _)
theorem Tn (x:Nat) (n:Int) (w:World)
 (HF:Hid (∀ W,Below w.heap.size w W->Ca 168 #[pt x 15] W fun e w'=>e=.returned (.tuple #[iv n,.bool false])/\Below W.heap.size W w')) :
 Ca 157 #[pt x 0] w fun e w'=>e=.returned (.tuple #[.agg #[iv 0,iv 0,iv 0,iv 0,iv 0,iv 0],.bool false])/\Below w.heap.size w w':=by
 go_enter Tryz.func157,Tryz.ntmps157
 go_wp2_with fail
 refine (HF.out _ ((uM _ _).alloc (uA _) _)).mono ?_
 rintro e w1 ⟨rfl,b1⟩
 have n1:w1.heap[w.heap.size]?=some (.cells #[iv 0,iv 0,iv 0,iv 0,iv 0,iv 0] 142):=(b1.block _ vS).trans (uF w _)
 have hb1:Below w.heap.size w w1:=uL ((uM _ _).alloc (uA _) _) (b1.mono vS)
 have z1:w.heap.size<w1.heap.size:=(blt n1)
 obtain ⟨s0,s1,s2,s3,s4,s5⟩:=qB n1
 have f0:=qA n1 0
 have f1:=qA n1 1
 have f2:=qA n1 2
 have f3:=qA n1 3
 have f4:=qA n1 4
 have f5:=qA n1 5
 clear b1 n1
 go_wp2
 refine uK (v:=.tuple #[.agg #[iv 0,iv 0,iv 0,iv 0,iv 0,iv 0],.bool false]) (by simp [results,Tryz.results157,go_sem,s0,s1,s2,s3,s4,s5]) rfl ⟨rfl,?_⟩
 exact zL hb1 (uA _)
theorem Hz (x:Nat) (n num cust units st cents up:Int) (w:World)
 (HF:Hid (∀ W,Below w.heap.size w W->Ca 168 #[pt x 15] W fun e w'=>e=.returned (.tuple #[iv n,.bool true])/\Below W.heap.size W w'))
 (HG:Hid (∀ W,Below w.heap.size w W->Ca 95 #[pt x 11,iv n] W fun e w'=>e=.returned (.tuple #[.agg #[iv num,iv cust,iv units,iv st,iv cents,iv up],.bool true])/\Below W.heap.size W w')) :
 Ca 157 #[pt x 0] w fun e w'=>e=.returned (.tuple #[.agg #[iv num,iv cust,iv units,iv st,iv cents,iv up],.bool true])/\Below w.heap.size w w':=by
 go_enter Tryz.func157,Tryz.ntmps157
 go_wp2_with fail
 refine (HF.out _ ((uM _ _).alloc (uA _) _)).mono ?_
 rintro e w1 ⟨rfl,b1⟩
 have n1:w1.heap[w.heap.size]?=some (.cells #[iv 0,iv 0,iv 0,iv 0,iv 0,iv 0] 142):=(b1.block _ vS).trans (uF w _)
 have hb1:Below w.heap.size w w1:=uL ((uM _ _).alloc (uA _) _) (b1.mono vS)
 have z1:w.heap.size<w1.heap.size:=(blt n1)
 clear b1
 go_wp2_with fail
 refine (HG.out _ hb1).mono ?_
 rintro e w2 ⟨rfl,b2⟩
 have n2:=(b2.block _ z1).trans n1
 have hb2:Below w.heap.size w w2:=uL hb1 (b2.mono hb1.size)
 have z2:w.heap.size<w2.heap.size:=(blt n2)
 obtain ⟨s0,s1,s2,s3,s4,s5⟩:=qB n2
 have f0:=qA n2 0
 have f1:=qA n2 1
 have f2:=qA n2 2
 have f3:=qA n2 3
 have f4:=qA n2 4
 have f5:=qA n2 5
 clear b2 n2 n1 HF HG
 go_wp2
 refine uK (v:=.tuple #[.agg #[iv num,iv cust,iv units,iv st,iv cents,iv up],.bool true]) (by simp [results,Tryz.results157,go_sem,s0,s1,s2,s3,s4,s5]) rfl ⟨rfl,?_⟩
 exact zL hb2 (uA _)
end
def POrd.cells (p:POrd):Array Value:=#[iv p.num,iv p.cust,iv p.units,iv p.st,iv p.cents,iv p.upto]
def fP {σ:Type} (P:σ->World->(Nat->Prop)->Prop) (Inv:σ->Prop) (fst:σ->Option POrd) (fin:σ->σ) (μ:σ->Nat) (s:σ) (w1:World) (own:Nat->Prop) (v:Value) (wr:World) (n:Nat):Prop :=
 ∃ s',Inv s'/\μ s'=n/\fin s'=fin s/\zF (P s') w1 own 1 wr/\v=.bool (fst s').isSome/\wr.heap[w1.heap.size]?=some (.cells ((fst s').getD pord0).cells 142 (0,0))
theorem gA {W:World} {b:Nat} {c0 c1 c2 c3 c4 c5:Value} {T:TypeId} (h:W.heap[b]?=some (.cells #[c0,c1,c2,c3,c4,c5] T)) (v0 v1 v2 v3 v4 v5:Value):((((((W.sc b 0 v0).sc b 1 v1).sc b 2 v2).sc b 3 v3).sc b 4 v4).sc b 5 v5).heap[b]?=some (.cells #[v0,v1,v2,v3,v4,v5] T):=by
 have h2:=uH (i:=0) h v0
 have h3:=uH (i:=1) h2 v1
 have h4:=uH (i:=2) h3 v2
 have h5:=uH (i:=3) h4 v3
 have h6:=uH (i:=4) h5 v4
 exact uH (i:=5) h6 v5
theorem Jl {σ:Type} (x:Nat) (P:σ->World->(Nat->Prop)->Prop) (KP:∀ s,Keeps (P s)) (Inv:σ->Prop) (fst:σ->Option POrd) (fr:σ->Int) (nx fin:σ->σ) (μ:σ->Nat) (rv:σ->Value) (cd:σ->POrd->Prop) (hcd:Hid (∀ s p,cd s p↔p.units<=fr s))
 (hF:Hid (∀ s,Inv s->∀ W o,P s W o->Ca 135 #[pt x 0] W fun e w'=>e=.returned (.tuple #[((fst s).getD pord0).val,.bool (fst s).isSome])/\Below W.heap.size W w'))
 (hL:Hid (∀ s,Inv s->∀ W o,P s W o->Ca 38 #[pt x 0] W fun e w'=>e=.returned (iv (fr s))/\Below W.heap.size W w'))
 (hO:Hid (∀ s p,Inv s->fst s=some p->cd s p->∀ W o,P s W o->Ca 136 #[pt x 0,p.val] W fun e w'=>e=.returned (rv s)/\zQ (P (nx s)) W w' o))
 (hN:Hid (∀ s p,Inv s->fst s=some p->cd s p->Inv (nx s)/\μ (nx s)<μ s/\fin (nx s)=fin s))
 (hE:Hid (∀ s,Inv s->(∀ p,fst s=some p->¬ cd s p)->fin s=s)) (s:σ) (w:World) (own:Nat->Prop) (hi:Inv s) (h:P s w own) :
 Ca 104 #[pt x 0] w fun e w'=>e=.returned (.tuple #[])/\zQ (P (fin s)) w w' own:=by
 have hw:=(KP s).lt h
 go_enter Tryz.func104,Tryz.ntmps104
 go_wp2_with fail
 refine (hF.out s hi w own h).mono ?_
 rintro e w1 ⟨rfl,b1⟩
 have h1:P s w1 own:=(KP s).keep h b1.size (fun k e=>b1.block k (hw k e))
 have hw1:Hid (∀ k,own k->k<w1.heap.size):=fun k e=>uB (hw k e) b1.size
 have HFRONT:Hid (∀ s' w',zQ (P s') w1 w' own->zQ (P s') w w' own):=fun s' w' ha=>aC b1 ha
 have HI0:Hid (fP P Inv fst fin μ s w1 own (.bool (fst s).isSome) (w1.alloc (.cells ((fst s).getD pord0).cells 142)) (μ s)):=⟨s,hi,rfl,rfl,fR (KP s) h1 ((uM _ _).alloc (uA _) _) vS,rfl,uF w1 _⟩
 clear h h1 hi hw b1
 unfold POrd.val
 unfold POrd.cells at HI0
 generalize (fst s).getD pord0=p0 at HI0 ⊢
 generalize (fst s).isSome=b0 at HI0 ⊢
 go_wp2_with fail
 go_loopw [3] (fun v wr=>∃ n,fP P Inv fst fin μ s w1 own v wr n) (fun v wr=>fuel (fP P Inv fst fin μ s w1 own v wr))
 case atStart=>exact ⟨_,HI0.out⟩
 case round =>
  have hfu:=Ua hrel
  obtain ⟨s',i1,i2,i3,hT,rfl,ob⟩:=hfu
  replace hT:Hid _:=hT
  replace i1:Hid _:=i1
  have ob:Hid _:=ob
  have HM:Hid (∀ v' w' m,fP P Inv fst fin μ s w1 own v' w' m->m<μ s'->(∃ n,fP P Inv fst fin μ s w1 own v' w' n)/\fuel (fP P Inv fst fin μ s w1 own v' w')<fuel (fP P Inv fst fin μ s w1 own (.bool (fst s').isSome) wr)):=fun v' w' m h1 h2=>⟨⟨m,h1⟩,by rw [← i2];exact vA (Kq h1) h2⟩
  clear hrel i2
  have HX:Hid (∀ w',zF (P s') w1 own 1 w'->(∀ p,fst s'=some p->¬ cd s' p)->zQ (P (fin s)) w w' own):=fun w' h1 h2=>by
   rw [← i3,hE.out s' i1.out h2]
   exact HFRONT.out _ _ (gD h1)
  cases hf:fst s' with
  | none =>
    have HX':Hid (∀ w',zF (P s') w1 own 1 w'->zQ (P (fin s)) w w' own):=fun w' h1=>HX.out w' h1 (fun p e=>by rw [hf] at e;cases e)
    rw [hf] at HM
    clear HX ob HI0
    simp only [Option.isSome_none]
    go_wp2_with fail
    go_quiet (fail)
    go_wp2
    first|go_end0|refine uK (uR rfl _ _ _) rfl ?_
    exact ⟨rfl,HX'.out _ (yP (KP s') hT.out bL)⟩
  | some p =>
    rw [hf] at HM ob
    simp only [Option.getD_some,POrd.cells,Option.isSome_some] at ob HM ⊢
    obtain ⟨s0,s1,s2,s3,s4,s5⟩:=qB ob.out
    have lw:w1.heap.size<wr.heap.size:=(blt ob.out)
    have HLs:Hid (∀ W,zF (P s') w1 own 1 W->Ca 38 #[pt x 0] W fun e w'=>e=.returned (iv (fr s'))/\zF (P s') w1 own 1 w'/\∀ b,w1.heap.size<=b->b<w1.heap.size+1->w'.heap[b]?=W.heap[b]?):=fun W hW=>fT (KP s') hw1.out (hL.out s' i1.out) W hW
    by_cases hle:cd s' p
    ·have HOs:Hid (∀ W,zF (P s') w1 own 1 W->Ca 136 #[pt x 0,p.val] W fun e w'=>e=.returned (rv s')/\zF (P (nx s')) w1 own 1 w'/\∀ b,w1.heap.size<=b->b<w1.heap.size+1->w'.heap[b]?=W.heap[b]?):=fun W hW=>oF hw1.out (hO.out s' p i1.out hf hle) W hW
     obtain ⟨n1,n2,n3⟩:=hN.out s' p i1.out hf hle
     have HFs:Hid (∀ W,zF (P (nx s')) w1 own 1 W->Ca 135 #[pt x 0] W fun e w'=>e=.returned (.tuple #[((fst (nx s')).getD pord0).val,.bool (fst (nx s')).isSome])/\zF (P (nx s')) w1 own 1 w'/\∀ b,w1.heap.size<=b->b<w1.heap.size+1->w'.heap[b]?=W.heap[b]?):=fun W hW=>fT (KP (nx s')) hw1.out (hF.out (nx s') n1) W hW
     have HR:Hid (∀ W',zF (P (nx s')) w1 own 1 W'->W'.heap[w1.heap.size]?=some (.cells ((fst (nx s')).getD pord0).cells 142 (0,0))->(∃ n,fP P Inv fst fin μ s w1 own (.bool (fst (nx s')).isSome) W' n)/\fuel (fP P Inv fst fin μ s w1 own (.bool (fst (nx s')).isSome) W')<fuel (fP P Inv fst fin μ s w1 own (.bool true) wr)):=fun W' h1 h2=>HM.out _ W' _ ⟨nx s',n1,rfl,n3.trans i3,h1,rfl,h2⟩ n2
     clear HM HX hO hN hE hF hL n1 n2 n3 i3 HFRONT HI0
     unfold POrd.val at HOs HFs
     unfold POrd.cells at HR
     have hle2:=(hcd.out s' p).1 hle
     clear hcd hle
     have dl:decide (p.units<=fr s')=true:=by simpa using hle2
     generalize (fst (nx s')).getD pord0=p1 at HFs HR
     generalize (fst (nx s')).isSome=b1 at HFs HR
     generalize fr s'=fs at HLs hle2 dl
     generalize hP':P s'=Pa at hT HLs HOs
     have KPa:Keeps Pa:=hP'▸KP s'
     generalize hPn:P (nx s')=Pb at HOs HFs HR
     have KPb:Keeps Pb:=hPn▸KP (nx s')
     clear hP' hPn i1 hf
     generalize rv s'=rr at HOs
     go_wp2_with fail
     go_region_held3 (fun w'=>w'.cell? (aq w1.heap.size 2)=some (iv p.units)) (simp [go_sem, *])
      (first
        | (go_at_call 38;refine (HLs.out _ (yP KPa hT.out bL)).mono ?_;rintro e W1 ⟨rfl,hT1,hk⟩
           have ob1:Hid _:=(hk _ (uA _) uO).trans ob.out
           obtain ⟨s0',s1',s2',s3',s4',s5'⟩:=qB ob1.out
           have lw1:w1.heap.size<W1.heap.size:=(blt ob1.out)
           replace hT1:Hid _:=hT1
           clear hk))
     clear s0 s1 s2 s3 s4 s5 hT ob lw
     go_wp2_with fail
     refine (HOs.out _ hT1.out).mono ?_
     rintro e W2 ⟨rfl,hT2,hk⟩
     have ob2:Hid _:=(hk _ (uA _) uO).trans ob1.out
     clear s0' s1' s2' s3' s4' s5' hT1 ob1 lw1 hk
     go_wp2_with fail
     refine (HFs.out _ hT2).mono ?_
     rintro e W3 ⟨rfl,hT3,hk⟩
     have ob3:=(hk _ (uA _) uO).trans ob2.out
     have HS6:=gA ob3 (iv p1.num) (iv p1.cust) (iv p1.units) (iv p1.st) (iv p1.cents) (iv p1.upto)
     have hT4:Hid _:=eP KPb hT3 hw1.out (uA _) uO (iv p1.num) (iv p1.cust) (iv p1.units) (iv p1.st) (iv p1.cents) (iv p1.upto)
     obtain ⟨s0,s1,s2,s3,s4,s5⟩:=qB ob3
     have f0:=qA ob3 0
     have f1:=qA ob3 1
     have f2:=qA ob3 2
     have f3:=qA ob3 3
     have f4:=qA ob3 4
     have f5:=qA ob3 5
     have lw3:w1.heap.size<W3.heap.size:=(blt ob3)
     replace ob3:Hid _:=ob3
     replace HS6:Hid _:=HS6
     clear hT2 ob2 hk hT3
     go_wp2
     exact HR.out _ hT4.out HS6.out
    ·have HX':Hid (∀ w',zF (P s') w1 own 1 w'->zQ (P (fin s)) w w' own):=fun w' h1=>HX.out w' h1 (fun p' e=>by rw [hf] at e;simp only [Option.some.injEq] at e;rw [← e];exact hle)
     clear HM HX hO hN hE hF hL HFRONT HI0
     have hle2:=fun c=>hle ((hcd.out s' p).2 c)
     clear hcd hle
     have dl:decide (p.units<=fr s')=false:=by simpa using hle2
     generalize fr s'=fs at HLs hle2 dl
     generalize hP':P s'=Pa at hT HLs HX'
     have KPa:Keeps Pa:=hP'▸KP s'
     clear hP' i1 hf
     go_wp2_with fail
     go_region_held3 (fun w'=>w'.cell? (aq w1.heap.size 2)=some (iv p.units)) (simp [go_sem, *])
      (first
        | (go_at_call 38;refine (HLs.out _ (yP KPa hT.out bL)).mono ?_;rintro e W1 ⟨rfl,hT1,hk⟩
           have ob1:Hid _:=(hk _ (uA _) uO).trans ob.out
           obtain ⟨s0',s1',s2',s3',s4',s5'⟩:=qB ob1.out
           have lw1:w1.heap.size<W1.heap.size:=(blt ob1.out)
           replace hT1:Hid _:=hT1
           clear hk))
     clear s0 s1 s2 s3 s4 s5 hT ob lw
     go_wp2
     first|go_end0|refine uK (uR rfl _ _ _) rfl ?_
     exact ⟨rfl,HX'.out _ (yP KPa hT1.out bL)⟩
theorem Fr {σ:Type} (x:Nat) (P:σ->World->(Nat->Prop)->Prop) (KP:∀ s,Keeps (P s)) (Inv:σ->Prop) (fst:σ->Option POrd) (fr:σ->Int) (nx fin:σ->σ) (μ:σ->Nat) (rv:σ->Value) (cd:σ->POrd->Prop) (hcd:Hid (∀ s p,cd s p↔fr s<p.units))
 (hF:Hid (∀ s,Inv s->∀ W o,P s W o->Ca 157 #[pt x 0] W fun e w'=>e=.returned (.tuple #[((fst s).getD pord0).val,.bool (fst s).isSome])/\Below W.heap.size W w'))
 (hL:Hid (∀ s,Inv s->∀ W o,P s W o->Ca 126 #[pt x 0] W fun e w'=>e=.returned (iv (fr s))/\Below W.heap.size W w'))
 (hO:Hid (∀ s p,Inv s->fst s=some p->cd s p->∀ W o,P s W o->Ca 129 #[pt x 0,p.val,iv 18] W fun e w'=>e=.returned (rv s)/\zQ (P (nx s)) W w' o))
 (hN:Hid (∀ s p,Inv s->fst s=some p->cd s p->Inv (nx s)/\μ (nx s)<μ s/\fin (nx s)=fin s))
 (hE:Hid (∀ s,Inv s->(∀ p,fst s=some p->¬ cd s p)->fin s=s)) (s:σ) (w:World) (own:Nat->Prop) (hi:Inv s) (h:P s w own) :
 Ca 130 #[pt x 0] w fun e w'=>e=.returned (.tuple #[])/\zQ (P (fin s)) w w' own:=by
 have hw:=(KP s).lt h
 go_enter Tryz.func130,Tryz.ntmps130
 go_wp2_with fail
 refine (hF.out s hi w own h).mono ?_
 rintro e w1 ⟨rfl,b1⟩
 have h1:P s w1 own:=(KP s).keep h b1.size (fun k e=>b1.block k (hw k e))
 have hw1:Hid (∀ k,own k->k<w1.heap.size):=fun k e=>uB (hw k e) b1.size
 have HFRONT:Hid (∀ s' w',zQ (P s') w1 w' own->zQ (P s') w w' own):=fun s' w' ha=>aC b1 ha
 have HI0:Hid (fP P Inv fst fin μ s w1 own (.bool (fst s).isSome) (w1.alloc (.cells ((fst s).getD pord0).cells 142)) (μ s)):=⟨s,hi,rfl,rfl,fR (KP s) h1 ((uM _ _).alloc (uA _) _) vS,rfl,uF w1 _⟩
 clear h h1 hi hw b1
 unfold POrd.val
 unfold POrd.cells at HI0
 generalize (fst s).getD pord0=p0 at HI0 ⊢
 generalize (fst s).isSome=b0 at HI0 ⊢
 go_wp2_with fail
 go_loopw [3] (fun v wr=>∃ n,fP P Inv fst fin μ s w1 own v wr n) (fun v wr=>fuel (fP P Inv fst fin μ s w1 own v wr))
 case atStart=>exact ⟨_,HI0.out⟩
 case round =>
  have hfu:=Ua hrel
  obtain ⟨s',i1,i2,i3,hT,rfl,ob⟩:=hfu
  replace hT:Hid _:=hT
  replace i1:Hid _:=i1
  have ob:Hid _:=ob
  have HM:Hid (∀ v' w' m,fP P Inv fst fin μ s w1 own v' w' m->m<μ s'->(∃ n,fP P Inv fst fin μ s w1 own v' w' n)/\fuel (fP P Inv fst fin μ s w1 own v' w')<fuel (fP P Inv fst fin μ s w1 own (.bool (fst s').isSome) wr)):=fun v' w' m h1 h2=>⟨⟨m,h1⟩,by rw [← i2];exact vA (Kq h1) h2⟩
  clear hrel i2
  have HX:Hid (∀ w',zF (P s') w1 own 1 w'->(∀ p,fst s'=some p->¬ cd s' p)->zQ (P (fin s)) w w' own):=fun w' h1 h2=>by
   rw [← i3,hE.out s' i1.out h2]
   exact HFRONT.out _ _ (gD h1)
  cases hf:fst s' with
  | none =>
    have HX':Hid (∀ w',zF (P s') w1 own 1 w'->zQ (P (fin s)) w w' own):=fun w' h1=>HX.out w' h1 (fun p e=>by rw [hf] at e;cases e)
    rw [hf] at HM
    clear HX ob HI0
    simp only [Option.isSome_none]
    go_wp2_with fail
    go_quiet (fail)
    go_wp2
    first|go_end0|refine uK (uR rfl _ _ _) rfl ?_
    exact ⟨rfl,HX'.out _ (yP (KP s') hT.out bL)⟩
  | some p =>
    rw [hf] at HM ob
    simp only [Option.getD_some,POrd.cells,Option.isSome_some] at ob HM ⊢
    obtain ⟨s0,s1,s2,s3,s4,s5⟩:=qB ob.out
    have lw:w1.heap.size<wr.heap.size:=(blt ob.out)
    have HLs:Hid (∀ W,zF (P s') w1 own 1 W->Ca 126 #[pt x 0] W fun e w'=>e=.returned (iv (fr s'))/\zF (P s') w1 own 1 w'/\∀ b,w1.heap.size<=b->b<w1.heap.size+1->w'.heap[b]?=W.heap[b]?):=fun W hW=>fT (KP s') hw1.out (hL.out s' i1.out) W hW
    by_cases hle:cd s' p
    ·have HOs:Hid (∀ W,zF (P s') w1 own 1 W->Ca 129 #[pt x 0,p.val,iv 18] W fun e w'=>e=.returned (rv s')/\zF (P (nx s')) w1 own 1 w'/\∀ b,w1.heap.size<=b->b<w1.heap.size+1->w'.heap[b]?=W.heap[b]?):=fun W hW=>oF hw1.out (hO.out s' p i1.out hf hle) W hW
     obtain ⟨n1,n2,n3⟩:=hN.out s' p i1.out hf hle
     have HFs:Hid (∀ W,zF (P (nx s')) w1 own 1 W->Ca 157 #[pt x 0] W fun e w'=>e=.returned (.tuple #[((fst (nx s')).getD pord0).val,.bool (fst (nx s')).isSome])/\zF (P (nx s')) w1 own 1 w'/\∀ b,w1.heap.size<=b->b<w1.heap.size+1->w'.heap[b]?=W.heap[b]?):=fun W hW=>fT (KP (nx s')) hw1.out (hF.out (nx s') n1) W hW
     have HR:Hid (∀ W',zF (P (nx s')) w1 own 1 W'->W'.heap[w1.heap.size]?=some (.cells ((fst (nx s')).getD pord0).cells 142 (0,0))->(∃ n,fP P Inv fst fin μ s w1 own (.bool (fst (nx s')).isSome) W' n)/\fuel (fP P Inv fst fin μ s w1 own (.bool (fst (nx s')).isSome) W')<fuel (fP P Inv fst fin μ s w1 own (.bool true) wr)):=fun W' h1 h2=>HM.out _ W' _ ⟨nx s',n1,rfl,n3.trans i3,h1,rfl,h2⟩ n2
     clear HM HX hO hN hE hF hL n1 n2 n3 i3 HFRONT HI0
     unfold POrd.val at HOs HFs
     unfold POrd.cells at HR
     have hle2:=(hcd.out s' p).1 hle
     clear hcd hle
     have dl:decide (fr s'<p.units)=true:=by simpa using hle2
     generalize (fst (nx s')).getD pord0=p1 at HFs HR
     generalize (fst (nx s')).isSome=b1 at HFs HR
     generalize fr s'=fs at HLs hle2 dl
     generalize hP':P s'=Pa at hT HLs HOs
     have KPa:Keeps Pa:=hP'▸KP s'
     generalize hPn:P (nx s')=Pb at HOs HFs HR
     have KPb:Keeps Pb:=hPn▸KP (nx s')
     clear hP' hPn i1 hf
     generalize rv s'=rr at HOs
     go_wp2_with fail
     go_region_held3 (fun w'=>w'.cell? (aq w1.heap.size 2)=some (iv p.units)) (simp [go_sem, *])
      (first
        | (go_at_call 126;refine (HLs.out _ (yP KPa hT.out bL)).mono ?_;rintro e W1 ⟨rfl,hT1,hk⟩
           have ob1:Hid _:=(hk _ (uA _) uO).trans ob.out
           obtain ⟨s0',s1',s2',s3',s4',s5'⟩:=qB ob1.out
           have lw1:w1.heap.size<W1.heap.size:=(blt ob1.out)
           replace hT1:Hid _:=hT1
           clear hk))
     clear s0 s1 s2 s3 s4 s5 hT ob lw
     go_wp2_with fail
     refine (HOs.out _ hT1.out).mono ?_
     rintro e W2 ⟨rfl,hT2,hk⟩
     have ob2:Hid _:=(hk _ (uA _) uO).trans ob1.out
     clear s0' s1' s2' s3' s4' s5' hT1 ob1 lw1 hk
     go_wp2_with fail
     refine (HFs.out _ hT2).mono ?_
     rintro e W3 ⟨rfl,hT3,hk⟩
     have ob3:=(hk _ (uA _) uO).trans ob2.out
     have HS6:=gA ob3 (iv p1.num) (iv p1.cust) (iv p1.units) (iv p1.st) (iv p1.cents) (iv p1.upto)
     have hT4:Hid _:=eP KPb hT3 hw1.out (uA _) uO (iv p1.num) (iv p1.cust) (iv p1.units) (iv p1.st) (iv p1.cents) (iv p1.upto)
     obtain ⟨s0,s1,s2,s3,s4,s5⟩:=qB ob3
     have f0:=qA ob3 0
     have f1:=qA ob3 1
     have f2:=qA ob3 2
     have f3:=qA ob3 3
     have f4:=qA ob3 4
     have f5:=qA ob3 5
     have lw3:w1.heap.size<W3.heap.size:=(blt ob3)
     replace ob3:Hid _:=ob3
     replace HS6:Hid _:=HS6
     clear hT2 ob2 hk hT3
     go_wp2
     exact HR.out _ hT4.out HS6.out
    ·have HX':Hid (∀ w',zF (P s') w1 own 1 w'->zQ (P (fin s)) w w' own):=fun w' h1=>HX.out w' h1 (fun p' e=>by rw [hf] at e;simp only [Option.some.injEq] at e;rw [← e];exact hle)
     clear HM HX hO hN hE hF hL HFRONT HI0
     have hle2:=fun c=>hle ((hcd.out s' p).2 c)
     clear hcd hle
     have dl:decide (fr s'<p.units)=false:=by simpa using hle2
     generalize fr s'=fs at HLs hle2 dl
     generalize hP':P s'=Pa at hT HLs HX'
     have KPa:Keeps Pa:=hP'▸KP s'
     clear hP' i1 hf
     go_wp2_with fail
     go_region_held3 (fun w'=>w'.cell? (aq w1.heap.size 2)=some (iv p.units)) (simp [go_sem, *])
      (first
        | (go_at_call 126;refine (HLs.out _ (yP KPa hT.out bL)).mono ?_;rintro e W1 ⟨rfl,hT1,hk⟩
           have ob1:Hid _:=(hk _ (uA _) uO).trans ob.out
           obtain ⟨s0',s1',s2',s3',s4',s5'⟩:=qB ob1.out
           have lw1:w1.heap.size<W1.heap.size:=(blt ob1.out)
           replace hT1:Hid _:=hT1
           clear hk))
     clear s0 s1 s2 s3 s4 s5 hT ob lw
     go_wp2
     first|go_end0|refine uK (uR rfl _ _ _) rfl ?_
     exact ⟨rfl,HX'.out _ (yP KPa hT1.out bL)⟩
theorem zI {w:World} {R:Nat} {c0 c1 c2 c3 c4 c5 c6 c7 c8:Value} {T:TypeId} (h:w.heap[R]?=some (.cells #[c0,c1,c2,c3,c4,c5,c6,c7,c8] T)):w.cell? (aq R 0)=some c0/\w.cell? (aq R 1)=some c1/\w.cell? (aq R 2)=some c2/\w.cell? (aq R 3)=some c3/\w.cell? (aq R 4)=some c4/\w.cell? (aq R 5)=some c5/\w.cell? (aq R 6)=some c6/\w.cell? (aq R 7)=some c7/\w.cell? (aq R 8)=some c8:=by
 refine ⟨?_,?_,?_,?_,?_,?_,?_,?_,?_⟩<;>(rw [uI h];rfl)
theorem oX {w w2:World} {B b:Nat} {v0 v1 v2 v3 v4 v5 v6 v7 v8:Value} (h:Below B w w2) (hb:B<=b):Below B w (((((((((w2.sc b 0 v0).sc b 1 v1).sc b 2 v2).sc b 3 v3).sc b 4 v4).sc b 5 v5).sc b 6 v6).sc b 7 v7).sc b 8 v8) :=
 ((((((((h.setCell (p:=(aq b 0)) hb _).setCell (p:=(aq b 1)) hb _).setCell (p:=(aq b 2)) hb _).setCell (p:=(aq b 3)) hb _).setCell (p:=(aq b 4)) hb _).setCell (p:=(aq b 5)) hb _).setCell (p:=(aq b 6)) hb _).setCell (p:=(aq b 7)) hb _).setCell (p:=(aq b 8)) hb _
theorem Wm (x q:Nat) (tr:Tr) (tok:Int) (w:World) (h0:w.cell? (aq x (q+1))=some (.pointer tr.addr)) (ht:tr.at w) (hs:srt tr.toL) (hn:yO (tok,0) tr.toL=none) :
 Ca 67 #[pt x q,iv tok] w fun e w'=>e=.returned (.tuple #[.agg #[iv 0,iv 0,iv 0,iv 0,iv 0,iv 0,iv 0,iv 0,iv 0],.bool false])/\Below w.heap.size w w':=by
 have hxw:x<w.heap.size:=uC w _ h0
 have HG:Hid (∀ W,Below w.heap.size w W->Ca 62 #[pt x (q+1),.agg #[iv tok,iv 0]] W fun e w'=>e=.returned (.tuple #[iv 0,.bool false])/\Below W.heap.size W w'):=fun W hW=>by
  have:=xE x (q+1) tr tok 0 W ((hW.cell (p:=(aq x (q+1))) hxw).trans h0) (tr.at_below ht hW) hs
  rw [hn] at this
  exact this
 clear h0 ht hs hn
 go_enter Tryz.func67,Tryz.ntmps67
 go_wp2_with fail
 refine (HG.out _ ((uM _ _).alloc (uA _) _)).mono ?_
 rintro e w1 ⟨rfl,bb⟩
 have n1:w1.heap[w.heap.size]?=some (.cells #[iv 0,iv 0,iv 0,iv 0,iv 0,iv 0,iv 0,iv 0,iv 0] 146):=(bb.block _ vS).trans (uF w _)
 have hb1:Below w.heap.size w w1:=uL ((uM _ _).alloc (uA _) _) (bb.mono vS)
 have z1:w.heap.size<w1.heap.size:=(blt n1)
 obtain ⟨s0,s1,s2,s3,s4,s5,s6,s7,s8⟩:=zI n1
 have f0:=qA n1 0
 have f1:=qA n1 1
 have f2:=qA n1 2
 have f3:=qA n1 3
 have f4:=qA n1 4
 have f5:=qA n1 5
 have f6:=qA n1 6
 have f7:=qA n1 7
 have f8:=qA n1 8
 clear bb n1 HG
 go_wp2
 refine uK (v:=.tuple #[.agg #[iv 0,iv 0,iv 0,iv 0,iv 0,iv 0,iv 0,iv 0,iv 0],.bool false]) (by simp [results,Tryz.results67,go_sem,s0,s1,s2,s3,s4,s5,s6,s7,s8]) rfl ⟨rfl,?_⟩
 exact oX hb1 (uA _)
theorem Cx (x q g n cap i:Nat) (tr:Tr) (tok k t c u o rk ro rc ru:Int) (w:World) (h0:w.cell? (aq x (q+1))=some (.pointer tr.addr)) (ht:tr.at w) (hs:srt tr.toL) (hn:yO (tok,0) tr.toL=some (i:Int)) (hl:w.cell? (aq x (q+3))=some (.slice (some (aq g 0)) n cap)) (hi:i<n)
 (e0:w.cell? (aq g (i * 9))=some (iv k)) (e1:w.cell? (aq g (i * 9+1))=some (iv t)) (e2:w.cell? (aq g (i * 9+2))=some (iv c)) (e3:w.cell? (aq g (i * 9+3))=some (iv u)) (e4:w.cell? (aq g (i * 9+4))=some (iv o)) (e5:w.cell? (aq g (i * 9+5))=some (iv rk)) (e6:w.cell? (aq g (i * 9+6))=some (iv ro)) (e7:w.cell? (aq g (i * 9+7))=some (iv rc)) (e8:w.cell? (aq g (i * 9+8))=some (iv ru)) :
 Ca 67 #[pt x q,iv tok] w fun e w'=>e=.returned (.tuple #[.agg #[iv k,iv t,iv c,iv u,iv o,iv rk,iv ro,iv rc,iv ru],.bool true])/\Below w.heap.size w w':=by
 have hxw:x<w.heap.size:=uC w _ h0
 have HG:Hid (∀ W,Below w.heap.size w W->Ca 62 #[pt x (q+1),.agg #[iv tok,iv 0]] W fun e w'=>e=.returned (.tuple #[iv i,.bool true])/\Below W.heap.size W w'):=fun W hW=>by
  have:=xE x (q+1) tr tok 0 W ((hW.cell (p:=(aq x (q+1))) hxw).trans h0) (tr.at_below ht hW) hs
  rw [hn] at this
  exact this
 have hgw:g<w.heap.size:=uC w _ e0
 have b0:(0:Int)<=(i:Int):=uO
 have b1':(i:Int)<(n:Int):=uO
 have d0:decide ((i:Int)<0)=false:=by simp
 have d1:decide ((n:Int)<=(i:Int))=false:=by simp;omega
 clear h0 ht hs hn
 go_enter Tryz.func67,Tryz.ntmps67
 go_wp2_with fail
 refine (HG.out _ ((uM _ _).alloc (uA _) _)).mono ?_
 rintro e w1 ⟨rfl,bb⟩
 have n1:w1.heap[w.heap.size]?=some (.cells #[iv 0,iv 0,iv 0,iv 0,iv 0,iv 0,iv 0,iv 0,iv 0] 146):=(bb.block _ vS).trans (uF w _)
 have hb1:Below w.heap.size w w1:=uL ((uM _ _).alloc (uA _) _) (bb.mono vS)
 have z1:w.heap.size<w1.heap.size:=(blt n1)
 obtain ⟨s0,s1,s2,s3,s4,s5,s6,s7,s8⟩:=zI n1
 have f0:=qA n1 0
 have f1:=qA n1 1
 have f2:=qA n1 2
 have f3:=qA n1 3
 have f4:=qA n1 4
 have f5:=qA n1 5
 have f6:=qA n1 6
 have f7:=qA n1 7
 have f8:=qA n1 8
 replace hl:=(hb1.cell (p:=(aq x (q+3))) hxw).trans hl
 replace e0:=(hb1.cell (p:=(aq g (i * 9))) hgw).trans e0
 replace e1:=(hb1.cell (p:=(aq g (i * 9+1))) hgw).trans e1
 replace e2:=(hb1.cell (p:=(aq g (i * 9+2))) hgw).trans e2
 replace e3:=(hb1.cell (p:=(aq g (i * 9+3))) hgw).trans e3
 replace e4:=(hb1.cell (p:=(aq g (i * 9+4))) hgw).trans e4
 replace e5:=(hb1.cell (p:=(aq g (i * 9+5))) hgw).trans e5
 replace e6:=(hb1.cell (p:=(aq g (i * 9+6))) hgw).trans e6
 replace e7:=(hb1.cell (p:=(aq g (i * 9+7))) hgw).trans e7
 replace e8:=(hb1.cell (p:=(aq g (i * 9+8))) hgw).trans e8
 have hx1:x<w1.heap.size:=uO
 have hg1:g<w1.heap.size:=uO
 clear bb n1 HG
 go_wp2
 refine uK (v:=.tuple #[.agg #[iv k,iv t,iv c,iv u,iv o,iv rk,iv ro,iv rc,iv ru],.bool true]) (by simp [results,Tryz.results67,go_sem,s0,s1,s2,s3,s4,s5,s6,s7,s8]) rfl ⟨rfl,?_⟩
 exact oX hb1 (uA _)
theorem Nz (x q:Nat) (s:Int) (w:World) (h:w.cell? (aq x (q+2))=some (iv s)) :
 Ca 40 #[pt x q] w fun e w'=>e=.returned (iv s)/\Below w.heap.size w w':=by
 have hxw:x<w.heap.size:=uC w _ h
 have HF:Hid (∀ W,Below w.heap.size w W->Ca 61 #[pt x (q+1)] W fun e w'=>e=.returned (iv s)/\Below W.heap.size W w'):=fun W hW=>Zh x (q+1) s W ((hW.cell (p:=(aq x (q+2))) hxw).trans h)
 clear h
 go_enter Tryz.func40,Tryz.ntmps40
 go_wp2_with fail
 refine (HF.out _ (uM _ _)).mono ?_
 rintro e w1 ⟨rfl,b1⟩
 go_wp2
 go_ret
 exact ⟨rfl,b1⟩
