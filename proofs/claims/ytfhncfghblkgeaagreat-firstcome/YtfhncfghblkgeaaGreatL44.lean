import Derived.Test.YtfhncfghblkgeaaGreatL43
set_option maxRecDepth 100000
set_option maxHeartbeats 2000000
namespace Go.Proofs.YtfhncfghblkgeaaGreat
open Go.RowKit
theorem jvk (x L n nk i:Nat) (c0 c1 c2 c3 c4 c5 c6:Int) (v7:Value) (sa:Option Addr) (sc:Nat) (ps:List Stp) (w:World) (own:Nat->Prop) (P Pm Pe:World->(Nat->Prop)->Prop) (K:Keeps P) (Km:Keeps Pm) (Ke:Keeps Pe) (h:P w own) (b0 b1 b2 b3 b4 a0 a1 a2 ae:Int) (was rep:Rep) (vb fr:Bool) (qt qu qo:Int) (hi:i<n)
 (HS:Hid (∀ W,Same own w W->stepsAt W sa n ps))
 (HL:Hid (∃ a c,L<w.heap.size/\w.cell? (aq L 0)=some (.slice a nk c)))
 (HB:Hid (jc2 w own P P 29 #[pt x 0] (.agg #[iv b0,iv b1,iv b2,iv b3,iv b4])))
 (HA:Hid (jc2 w own P P 31 #[pt x 0,iv (ps.getD i jaq).c] (.tuple #[.agg #[iv a0,iv a1,iv a2],iv ae])))
 (HP:Hid (jc2 w own P P 37 #[pt x 0,iv (ps.getD i jaq).c,iv (ps.getD i jaq).o] (.tuple #[.agg #[iv was.kind,iv was.order,iv was.cents,iv was.upto],.bool true])))
 (HD:Hid (jc2 w own P Pm 15 #[pt x 0,.agg #[iv (ps.getD i jaq).n,iv (ps.getD i jaq).k,iv (ps.getD i jaq).t,iv (ps.getD i jaq).c,iv (ps.getD i jaq).u,iv (ps.getD i jaq).o]] (.tuple #[.agg #[iv rep.kind,iv rep.order,iv rep.cents,iv rep.upto],.bool true])))
 (HH:Hid (jc2 w own Pm Pe 16 #[pt L 0,.agg #[iv (ps.getD i jaq).k,iv (ps.getD i jaq).t,iv (ps.getD i jaq).c,iv (ps.getD i jaq).u,iv (ps.getD i jaq).o],.agg #[iv rep.kind,iv rep.order,iv rep.cents,iv rep.upto]] (.bool true)))
 (HBa:Hid (∀ W,Calls Tryz.prog 39 #[.agg #[iv (ps.getD i jaq).k,iv (ps.getD i jaq).t,iv (ps.getD i jaq).c,iv (ps.getD i jaq).u,iv (ps.getD i jaq).o]] W fun e w'=>e=.returned (.agg #[iv (ps.getD i jaq).k,iv qt,iv (ps.getD i jaq).c,iv qu,iv qo])/\Below W.heap.size W w'))
 (HIs:Hid (∀ W,Calls Tryz.prog 38 #[.agg #[iv (ps.getD i jaq).k,iv qt,iv (ps.getD i jaq).c,iv qu,iv qo]] W fun e w'=>e=.returned (.bool vb)/\Below W.heap.size W w'))
 (HFr:Hid (∀ W,Same own w W->Calls Tryz.prog 40 #[.agg #[iv c0,iv c1,iv c2,iv c3,iv c4,iv c5,iv c6,v7,.slice sa n sc],iv i] W fun e w'=>e=.returned (.bool fr)/\Below W.heap.size W w'))
 (HFu:Hid (vb=true->(ps.getD i jaq).k≠4->fr=true->b4=c6->rep.kind=11))
 (HDu:Hid (vb=true->(ps.getD i jaq).k≠4->fr=true->b4≠c6->(ps.getD i jaq).k≠1->∀ loc W,ja7 Pe w own loc W->Calls Tryz.prog 41 #[pt L 0,.agg #[iv (ps.getD i jaq).k,iv (ps.getD i jaq).t,iv (ps.getD i jaq).c,iv (ps.getD i jaq).u,iv (ps.getD i jaq).o],.agg #[iv was.kind,iv was.order,iv was.cents,iv was.upto]] W fun e w'=>e=.returned (.agg #[iv rep.kind,iv rep.order,iv rep.cents,iv rep.upto])/\Below W.heap.size W w'))
 (HEx:Hid (vb=true->(ps.getD i jaq).k≠4->fr=true->b4≠c6->(ps.getD i jaq).k=1->∀ W,Calls Tryz.prog 42 #[.agg #[iv c0,iv c1,iv c2,iv c3,iv c4,iv c5,iv c6,v7,.slice sa n sc],.agg #[iv (ps.getD i jaq).k,iv (ps.getD i jaq).t,iv (ps.getD i jaq).c,iv (ps.getD i jaq).u,iv (ps.getD i jaq).o],.agg #[iv b0,iv b1,iv b2,iv b3,iv b4],.agg #[iv a0,iv a1,iv a2],iv nk] W fun e w'=>e=.returned (iv rep.kind)/\Below W.heap.size W w'))
 (HCo:Hid (vb=true->(ps.getD i jaq).k≠4->fr=true->b4≠c6->(ps.getD i jaq).k=1->rep.kind=2->∀ W,Same own w W->Calls Tryz.prog 43 #[.agg #[iv c0,iv c1,iv c2,iv c3,iv c4,iv c5,iv c6,v7,.slice sa n sc],iv b2] W fun e w'=>e=.returned (iv rep.cents)/\Below W.heap.size W w')) :
 Calls Tryz.prog 17 #[.agg #[iv c0,iv c1,iv c2,iv c3,iv c4,iv c5,iv c6,v7,.slice sa n sc],pt x 0,pt L 0,iv i] w fun e w'=>e=.returned (.bool true)/\jap Pe w w' own:=by
 have HW:Hid (∀ k,own k->k<w.heap.size):=K.lt h
 obtain ⟨b,off,hsa,hb,s0,s1,s2,s3,s4,s5⟩:=jp3 (HS.out w ⟨rfl,rfl,rfl,Nat.le_refl _,fun _ _ _=>rfl⟩) hi
 obtain ⟨la,lc,hL,cL⟩:=HL.out
 subst hsa
 have HA1:Hid _:=HA.out
 have HP1:Hid _:=HP.out
 have HD1:Hid _:=HD.out
 generalize (ps.getD i jaq)=pj at *
 obtain ⟨pn,pk,pt,pc,pu,po⟩:=pj
 obtain ⟨q1,q2,q3,q4⟩:=was
 obtain ⟨r1,r2,r3,r4⟩:=rep
 simp only at *
 have hT0:Hid (ja7 P w own (fun k=>k=w.heap.size\/k=(w.heap.size+1)) ((w.alloc (.cells #[iv c0,iv c1,iv c2,iv c3,iv c4,iv c5,iv c6,v7,.slice (some (aq b off)) n sc] 32)).alloc (.cells #[iv pn,iv pk,iv pt,iv pc,iv pu,iv po] 48))):=jah K h (((Below.refl _ _).alloc (Nat.le_refl _) _).alloc (by simp) _) (fun k e=>by simp;omega)
 have xb0:Hid (((w.alloc (.cells #[iv c0,iv c1,iv c2,iv c3,iv c4,iv c5,iv c6,v7,.slice (some (aq b off)) n sc] 32)).alloc (.cells #[iv pn,iv pk,iv pt,iv pc,iv pu,iv po] 48)).heap[w.heap.size]?=some (.cells #[iv c0,iv c1,iv c2,iv c3,iv c4,iv c5,iv c6,v7,.slice (some (aq b off)) n sc] 32 (0,0))):=(Below.heap_alloc _ _ _ (by simp)).trans (heap_alloc_new w _)
 have ob0:Hid (((w.alloc (.cells #[iv c0,iv c1,iv c2,iv c3,iv c4,iv c5,iv c6,v7,.slice (some (aq b off)) n sc] 32)).alloc (.cells #[iv pn,iv pk,iv pt,iv pc,iv pu,iv po] 48)).heap[w.heap.size+1]?=some (.cells #[iv pn,iv pk,iv pt,iv pc,iv pu,iv po] 48 (0,0))):=jbd w _ _
 have bi0:(0:Int)<=(i:Int):=by omega
 have bi1:(i:Int)<(n:Int):=by omega
 clear h HA HP HD HL HS
 go_enter Tryz.func17,Tryz.ntmps17
 go_wp2_with fail
 clear s0 s1 s2 s3 s4 s5 cL hb hL
 generalize (w.alloc (.cells #[iv c0,iv c1,iv c2,iv c3,iv c4,iv c5,iv c6,v7,.slice (some (aq b off)) n sc] 32)).alloc (.cells #[iv pn,iv pk,iv pt,iv pc,iv pu,iv po] 48)=W0 at hT0 xb0 ob0 ⊢
 refine (HB.out _ _ hT0.out).mono ?_
 rintro e V1 ⟨rfl,hV,hk⟩
 have f10:Hid _:=(hk _ (.inl rfl)).trans xb0.out
 have l10:w.heap.size<V1.heap.size:=(blt f10.out)
 have f11:Hid _:=(hk _ (.inr rfl)).trans ob0.out
 have l11:(w.heap.size+1)<V1.heap.size:=(blt f11.out)
 have hU1:Hid (ja7 P w own (fun k=>(k=w.heap.size\/k=(w.heap.size+1))\/k=V1.heap.size) (V1.alloc (.cells #[iv b0,iv b1,iv b2,iv b3,iv b4] 78))):=jaz K hV _
 have g10:Hid ((V1.alloc (.cells #[iv b0,iv b1,iv b2,iv b3,iv b4] 78)).heap[w.heap.size]?=_):=(Below.heap_alloc _ _ _ l10).trans f10.out
 have g11:Hid ((V1.alloc (.cells #[iv b0,iv b1,iv b2,iv b3,iv b4] 78)).heap[(w.heap.size+1)]?=_):=(Below.heap_alloc _ _ _ l11).trans f11.out
 have g12:Hid ((V1.alloc (.cells #[iv b0,iv b1,iv b2,iv b3,iv b4] 78)).heap[V1.heap.size]?=some (.cells #[iv b0,iv b1,iv b2,iv b3,iv b4] 78 (0,0))):=heap_alloc_new V1 _
 have ne10:V1.heap.size≠w.heap.size:=by omega
 have ne11:V1.heap.size≠(w.heap.size+1):=by omega
 clear hk hV HB hT0 xb0 ob0
 obtain ⟨oc0,oc1,oc2,oc3,oc4,oc5⟩:=ja1 f11.out
 have olt:(w.heap.size+1)<V1.heap.size:=(blt f11.out)
 clear f10 f11
 go_wp2_with fail
 clear oc0 oc1 oc2 oc3 oc4 oc5 olt
 generalize V1.alloc (.cells #[iv b0,iv b1,iv b2,iv b3,iv b4] 78)=U1 at hU1 g10 g11 g12 ⊢
 clear l10 l11
 generalize V1.heap.size=bz at hU1 g12 ne10 ne11 ⊢
 refine (HA1.out _ _ hU1.out).mono ?_
 rintro e V2 ⟨rfl,hV,hk⟩
 have f20:Hid _:=(hk _ (.inl (.inl rfl))).trans g10.out
 have l20:w.heap.size<V2.heap.size:=(blt f20.out)
 have f21:Hid _:=(hk _ (.inl (.inr rfl))).trans g11.out
 have l21:(w.heap.size+1)<V2.heap.size:=(blt f21.out)
 have f22:Hid _:=(hk _ (.inr rfl)).trans g12.out
 have l22:bz<V2.heap.size:=(blt f22.out)
 have hU2:Hid (ja7 P w own (fun k=>((k=w.heap.size\/k=(w.heap.size+1))\/k=bz)\/k=V2.heap.size) (V2.alloc (.cells #[iv a0,iv a1,iv a2] 87))):=jaz K hV _
 have g20:Hid ((V2.alloc (.cells #[iv a0,iv a1,iv a2] 87)).heap[w.heap.size]?=_):=(Below.heap_alloc _ _ _ l20).trans f20.out
 have g21:Hid ((V2.alloc (.cells #[iv a0,iv a1,iv a2] 87)).heap[(w.heap.size+1)]?=_):=(Below.heap_alloc _ _ _ l21).trans f21.out
 have g22:Hid ((V2.alloc (.cells #[iv a0,iv a1,iv a2] 87)).heap[bz]?=_):=(Below.heap_alloc _ _ _ l22).trans f22.out
 have g23:Hid ((V2.alloc (.cells #[iv a0,iv a1,iv a2] 87)).heap[V2.heap.size]?=some (.cells #[iv a0,iv a1,iv a2] 87 (0,0))):=heap_alloc_new V2 _
 have ne20:V2.heap.size≠w.heap.size:=by omega
 have ne21:V2.heap.size≠(w.heap.size+1):=by omega
 have ne22:V2.heap.size≠bz:=by omega
 clear hk hV HA1 hU1 g10 g11 g12
 obtain ⟨oc0,oc1,oc2,oc3,oc4,oc5⟩:=ja1 f21.out
 have olt:(w.heap.size+1)<V2.heap.size:=(blt f21.out)
 clear f20 f21 f22
 go_wp2_with fail
 clear oc0 oc1 oc2 oc3 oc4 oc5 olt
 generalize V2.alloc (.cells #[iv a0,iv a1,iv a2] 87)=U2 at hU2 g20 g21 g22 g23 ⊢
 clear l20 l21 l22
 generalize V2.heap.size=az at hU2 g23 ne20 ne21 ne22 ⊢
 refine (HP1.out _ _ hU2.out).mono ?_
 rintro e V3 ⟨rfl,hV,hk⟩
 have f30:Hid _:=(hk _ (.inl (.inl (.inl rfl)))).trans g20.out
 have l30:w.heap.size<V3.heap.size:=(blt f30.out)
 have f31:Hid _:=(hk _ (.inl (.inl (.inr rfl)))).trans g21.out
 have l31:(w.heap.size+1)<V3.heap.size:=(blt f31.out)
 have f32:Hid _:=(hk _ (.inl (.inr rfl))).trans g22.out
 have l32:bz<V3.heap.size:=(blt f32.out)
 have f33:Hid _:=(hk _ (.inr rfl)).trans g23.out
 have l33:az<V3.heap.size:=(blt f33.out)
 have hU3:Hid (ja7 P w own (fun k=>(((k=w.heap.size\/k=(w.heap.size+1))\/k=bz)\/k=az)\/k=V3.heap.size) (V3.alloc (.cells #[iv q1,iv q2,iv q3,iv q4] 42))):=jaz K hV _
 have g30:Hid ((V3.alloc (.cells #[iv q1,iv q2,iv q3,iv q4] 42)).heap[w.heap.size]?=_):=(Below.heap_alloc _ _ _ l30).trans f30.out
 have g31:Hid ((V3.alloc (.cells #[iv q1,iv q2,iv q3,iv q4] 42)).heap[(w.heap.size+1)]?=_):=(Below.heap_alloc _ _ _ l31).trans f31.out
 have g32:Hid ((V3.alloc (.cells #[iv q1,iv q2,iv q3,iv q4] 42)).heap[bz]?=_):=(Below.heap_alloc _ _ _ l32).trans f32.out
 have g33:Hid ((V3.alloc (.cells #[iv q1,iv q2,iv q3,iv q4] 42)).heap[az]?=_):=(Below.heap_alloc _ _ _ l33).trans f33.out
 have g34:Hid ((V3.alloc (.cells #[iv q1,iv q2,iv q3,iv q4] 42)).heap[V3.heap.size]?=some (.cells #[iv q1,iv q2,iv q3,iv q4] 42 (0,0))):=heap_alloc_new V3 _
 have ne30:V3.heap.size≠w.heap.size:=by omega
 have ne31:V3.heap.size≠(w.heap.size+1):=by omega
 have ne32:V3.heap.size≠bz:=by omega
 have ne33:V3.heap.size≠az:=by omega
 clear hk hV HP1 hU2 g20 g21 g22 g23
 obtain ⟨oc0,oc1,oc2,oc3,oc4,oc5⟩:=ja1 f31.out
 have olt:(w.heap.size+1)<V3.heap.size:=(blt f31.out)
 clear f30 f31 f32 f33
 go_wp2_with fail
 clear oc0 oc1 oc2 oc3 oc4 oc5 olt
 generalize V3.alloc (.cells #[iv q1,iv q2,iv q3,iv q4] 42)=U3 at hU3 g30 g31 g32 g33 g34 ⊢
 clear l30 l31 l32 l33
 generalize V3.heap.size=wz at hU3 g34 ne30 ne31 ne32 ne33 ⊢
 refine (HD1.out _ _ hU3.out).mono ?_
 rintro e V4 ⟨rfl,hV,hk⟩
 have f40:Hid _:=(hk _ (.inl (.inl (.inl (.inl rfl))))).trans g30.out
 have l40:w.heap.size<V4.heap.size:=(blt f40.out)
 have f41:Hid _:=(hk _ (.inl (.inl (.inl (.inr rfl))))).trans g31.out
 have l41:(w.heap.size+1)<V4.heap.size:=(blt f41.out)
 have f42:Hid _:=(hk _ (.inl (.inl (.inr rfl)))).trans g32.out
 have l42:bz<V4.heap.size:=(blt f42.out)
 have f43:Hid _:=(hk _ (.inl (.inr rfl))).trans g33.out
 have l43:az<V4.heap.size:=(blt f43.out)
 have f44:Hid _:=(hk _ (.inr rfl)).trans g34.out
 have l44:wz<V4.heap.size:=(blt f44.out)
 have hU4:Hid (ja7 Pm w own (fun k=>((((k=w.heap.size\/k=(w.heap.size+1))\/k=bz)\/k=az)\/k=wz)\/k=V4.heap.size) (V4.alloc (.cells #[iv r1,iv r2,iv r3,iv r4] 42))):=jaz Km hV _
 have g40:Hid ((V4.alloc (.cells #[iv r1,iv r2,iv r3,iv r4] 42)).heap[w.heap.size]?=_):=(Below.heap_alloc _ _ _ l40).trans f40.out
 have g41:Hid ((V4.alloc (.cells #[iv r1,iv r2,iv r3,iv r4] 42)).heap[(w.heap.size+1)]?=_):=(Below.heap_alloc _ _ _ l41).trans f41.out
 have g42:Hid ((V4.alloc (.cells #[iv r1,iv r2,iv r3,iv r4] 42)).heap[bz]?=_):=(Below.heap_alloc _ _ _ l42).trans f42.out
 have g43:Hid ((V4.alloc (.cells #[iv r1,iv r2,iv r3,iv r4] 42)).heap[az]?=_):=(Below.heap_alloc _ _ _ l43).trans f43.out
 have g44:Hid ((V4.alloc (.cells #[iv r1,iv r2,iv r3,iv r4] 42)).heap[wz]?=_):=(Below.heap_alloc _ _ _ l44).trans f44.out
 have g45:Hid ((V4.alloc (.cells #[iv r1,iv r2,iv r3,iv r4] 42)).heap[V4.heap.size]?=some (.cells #[iv r1,iv r2,iv r3,iv r4] 42 (0,0))):=heap_alloc_new V4 _
 have ne40:V4.heap.size≠w.heap.size:=by omega
 have ne41:V4.heap.size≠(w.heap.size+1):=by omega
 have ne42:V4.heap.size≠bz:=by omega
 have ne43:V4.heap.size≠az:=by omega
 have ne44:V4.heap.size≠wz:=by omega
 clear hk hV HD1 hU3 g30 g31 g32 g33 g34
 obtain ⟨oc0,oc1,oc2,oc3,oc4,oc5⟩:=ja1 f41.out
 have olt:(w.heap.size+1)<V4.heap.size:=(blt f41.out)
 clear f40 f41 f42 f43 f44
 go_wp2_with fail
 clear oc0 oc1 oc2 oc3 oc4 oc5 olt
 generalize V4.alloc (.cells #[iv r1,iv r2,iv r3,iv r4] 42)=U4 at hU4 g40 g41 g42 g43 g44 g45 ⊢
 clear l40 l41 l42 l43 l44
 generalize V4.heap.size=pz at hU4 g45 ne40 ne41 ne42 ne43 ne44 ⊢
 refine (HH.out _ _ hU4.out).mono ?_
 rintro e V5 ⟨rfl,hV5,hk⟩
 have f50:Hid _:=(hk _ (.inl (.inl (.inl (.inl (.inl rfl)))))).trans g40.out
 have f51:Hid _:=(hk _ (.inl (.inl (.inl (.inl (.inr rfl)))))).trans g41.out
 have f52:Hid _:=(hk _ (.inl (.inl (.inl (.inr rfl))))).trans g42.out
 have f53:Hid _:=(hk _ (.inl (.inl (.inr rfl)))).trans g43.out
 have f54:Hid _:=(hk _ (.inl (.inr rfl))).trans g44.out
 have f55:Hid _:=(hk _ (.inr rfl)).trans g45.out
 have hT5:Hid _:=hV5
 clear hk hV5 hU4 HH g40 g41 g42 g43 g44 g45
 obtain ⟨xc0,xc1,xc2,xc3,xc4,xc5,xc6,xc7,xc8⟩:=je2 f50.out
 have xlt:w.heap.size<V5.heap.size:=(blt f50.out)
 obtain ⟨oc0,oc1,oc2,oc3,oc4,oc5⟩:=ja1 f51.out
 have olt:(w.heap.size+1)<V5.heap.size:=(blt f51.out)
 obtain ⟨mc0,mc1,mc2,mc3,mc4⟩:=jer f52.out
 have mlt:bz<V5.heap.size:=(blt f52.out)
 obtain ⟨ac0,ac1,ac2⟩:=jb3 f53.out
 have alt:az<V5.heap.size:=(blt f53.out)
 obtain ⟨gc0,gc1,gc2,gc3⟩:=jck f54.out
 have glt:wz<V5.heap.size:=(blt f54.out)
 obtain ⟨pc0,pc1,pc2,pc3⟩:=jck f55.out
 have plt:pz<V5.heap.size:=(blt f55.out)
 go_wp2_with fail
 refine (HBa.out _).mono ?_
 rintro e V6 ⟨rfl,b6'⟩
 clear xc0 xc1 xc2 xc3 xc4 xc5 xc6 xc7 xc8 xlt oc0 oc1 oc2 oc3 oc4 oc5 olt mc0 mc1 mc2 mc3 mc4 mlt ac0 ac1 ac2 alt gc0 gc1 gc2 gc3 glt pc0 pc1 pc2 pc3 plt
 have hT6:Hid (ja7 Pe w own (fun k=>((((k=w.heap.size\/k=(w.heap.size+1))\/k=bz)\/k=az)\/k=wz)\/k=pz) V6):=ja2 Ke hT5.out b6'
 have f60:Hid _:=(b6'.block _ (blt f50.out)).trans f50.out
 have f61:Hid _:=(b6'.block _ (blt f51.out)).trans f51.out
 have f62:Hid _:=(b6'.block _ (blt f52.out)).trans f52.out
 have f63:Hid _:=(b6'.block _ (blt f53.out)).trans f53.out
 have f64:Hid _:=(b6'.block _ (blt f54.out)).trans f54.out
 have f65:Hid _:=(b6'.block _ (blt f55.out)).trans f55.out
 clear b6' hT5 f50 f51 f52 f53 f54 f55 HBa
 obtain ⟨xc0,xc1,xc2,xc3,xc4,xc5,xc6,xc7,xc8⟩:=je2 f60.out
 have xlt:w.heap.size<V6.heap.size:=(blt f60.out)
 obtain ⟨oc0,oc1,oc2,oc3,oc4,oc5⟩:=ja1 f61.out
 have olt:(w.heap.size+1)<V6.heap.size:=(blt f61.out)
 obtain ⟨mc0,mc1,mc2,mc3,mc4⟩:=jer f62.out
 have mlt:bz<V6.heap.size:=(blt f62.out)
 obtain ⟨ac0,ac1,ac2⟩:=jb3 f63.out
 have alt:az<V6.heap.size:=(blt f63.out)
 obtain ⟨gc0,gc1,gc2,gc3⟩:=jck f64.out
 have glt:wz<V6.heap.size:=(blt f64.out)
 obtain ⟨pc0,pc1,pc2,pc3⟩:=jck f65.out
 have plt:pz<V6.heap.size:=(blt f65.out)
 go_wp2_with fail
 refine (HIs.out _).mono ?_
 rintro e V7 ⟨rfl,b7'⟩
 clear xc0 xc1 xc2 xc3 xc4 xc5 xc6 xc7 xc8 xlt oc0 oc1 oc2 oc3 oc4 oc5 olt mc0 mc1 mc2 mc3 mc4 mlt ac0 ac1 ac2 alt gc0 gc1 gc2 gc3 glt pc0 pc1 pc2 pc3 plt
 have hT7:Hid (ja7 Pe w own (fun k=>((((k=w.heap.size\/k=(w.heap.size+1))\/k=bz)\/k=az)\/k=wz)\/k=pz) V7):=ja2 Ke hT6.out b7'
 have f70:Hid _:=(b7'.block _ (blt f60.out)).trans f60.out
 have f71:Hid _:=(b7'.block _ (blt f61.out)).trans f61.out
 have f72:Hid _:=(b7'.block _ (blt f62.out)).trans f62.out
 have f73:Hid _:=(b7'.block _ (blt f63.out)).trans f63.out
 have f74:Hid _:=(b7'.block _ (blt f64.out)).trans f64.out
 have f75:Hid _:=(b7'.block _ (blt f65.out)).trans f65.out
 clear b7' hT6 f60 f61 f62 f63 f64 f65 HIs
 obtain ⟨xc0,xc1,xc2,xc3,xc4,xc5,xc6,xc7,xc8⟩:=je2 f70.out
 have xlt:w.heap.size<V7.heap.size:=(blt f70.out)
 obtain ⟨oc0,oc1,oc2,oc3,oc4,oc5⟩:=ja1 f71.out
 have olt:(w.heap.size+1)<V7.heap.size:=(blt f71.out)
 obtain ⟨mc0,mc1,mc2,mc3,mc4⟩:=jer f72.out
 have mlt:bz<V7.heap.size:=(blt f72.out)
 obtain ⟨ac0,ac1,ac2⟩:=jb3 f73.out
 have alt:az<V7.heap.size:=(blt f73.out)
 obtain ⟨gc0,gc1,gc2,gc3⟩:=jck f74.out
 have glt:wz<V7.heap.size:=(blt f74.out)
 obtain ⟨pc0,pc1,pc2,pc3⟩:=jck f75.out
 have plt:pz<V7.heap.size:=(blt f75.out)
 go_wp2_with fail
 refine (HFr.out _ (jag hT7.out)).mono ?_
 rintro e V8 ⟨rfl,b8'⟩
 clear xc0 xc1 xc2 xc3 xc4 xc5 xc6 xc7 xc8 xlt oc0 oc1 oc2 oc3 oc4 oc5 olt mc0 mc1 mc2 mc3 mc4 mlt ac0 ac1 ac2 alt gc0 gc1 gc2 gc3 glt pc0 pc1 pc2 pc3 plt
 have hT8:Hid (ja7 Pe w own (fun k=>((((k=w.heap.size\/k=(w.heap.size+1))\/k=bz)\/k=az)\/k=wz)\/k=pz) V8):=ja2 Ke hT7.out b8'
 have f80:Hid _:=(b8'.block _ (blt f70.out)).trans f70.out
 have f81:Hid _:=(b8'.block _ (blt f71.out)).trans f71.out
 have f82:Hid _:=(b8'.block _ (blt f72.out)).trans f72.out
 have f83:Hid _:=(b8'.block _ (blt f73.out)).trans f73.out
 have f84:Hid _:=(b8'.block _ (blt f74.out)).trans f74.out
 have f85:Hid _:=(b8'.block _ (blt f75.out)).trans f75.out
 clear b8' hT7 f70 f71 f72 f73 f74 f75 HFr
 obtain ⟨xc0,xc1,xc2,xc3,xc4,xc5,xc6,xc7,xc8⟩:=je2 f80.out
 have xlt:w.heap.size<V8.heap.size:=(blt f80.out)
 obtain ⟨oc0,oc1,oc2,oc3,oc4,oc5⟩:=ja1 f81.out
 have olt:(w.heap.size+1)<V8.heap.size:=(blt f81.out)
 obtain ⟨mc0,mc1,mc2,mc3,mc4⟩:=jer f82.out
 have mlt:bz<V8.heap.size:=(blt f82.out)
 obtain ⟨ac0,ac1,ac2⟩:=jb3 f83.out
 have alt:az<V8.heap.size:=(blt f83.out)
 obtain ⟨gc0,gc1,gc2,gc3⟩:=jck f84.out
 have glt:wz<V8.heap.size:=(blt f84.out)
 obtain ⟨pc0,pc1,pc2,pc3⟩:=jck f85.out
 have plt:pz<V8.heap.size:=(blt f85.out)
 have cases:vb=false\/(vb=true/\(pk==4)=true)\/(vb=true/\(pk==4)=false/\fr=false)\/(vb=true/\pk≠4/\fr=true):=by
  cases vb
  ·exact .inl rfl
  ·by_cases e4:pk=4
   ·exact .inr (.inl ⟨rfl,by simpa using e4⟩)
   ·cases fr
    ·exact .inr (.inr (.inl ⟨rfl,by simpa using e4,rfl⟩))
    ·exact .inr (.inr (.inr ⟨rfl,e4,rfl⟩))
 rcases cases with rfl|⟨rfl,d4⟩|⟨rfl,d4,rfl⟩|⟨rfl,d4',rfl⟩
 ·clear HFu HDu HEx HCo
  go_wp2
  refine bodyPost_ret (v:=.bool true) (by simp [results,Tryz.results17,go_sem]) rfl ⟨rfl,jan (ja2 Ke hT8.out bL)⟩
 ·clear HFu HDu HEx HCo
  go_wp2
  refine bodyPost_ret (v:=.bool true) (by simp [results,Tryz.results17,go_sem]) rfl ⟨rfl,jan (ja2 Ke hT8.out bL)⟩
 ·clear HFu HDu HEx HCo
  go_wp2
  refine bodyPost_ret (v:=.bool true) (by simp [results,Tryz.results17,go_sem]) rfl ⟨rfl,jan (ja2 Ke hT8.out bL)⟩
 ·have d4:(pk==4)=false:=by simpa using d4'
  by_cases hfull:b4=c6
  ·have hr1:=HFu.out rfl d4' rfl hfull
   subst hfull hr1
   clear HFu HDu HEx HCo
   go_wp2
   refine bodyPost_ret (v:=.bool true) (by simp [results,Tryz.results17,go_sem]) rfl ⟨rfl,jan (ja2 Ke hT8.out bL)⟩
  ·have dfull:(b4==c6)=false:=by simpa using hfull
   by_cases hk1:pk=1
   ·have HE1:Hid _:=HEx.out rfl d4' rfl hfull hk1
    have HC1:Hid _:=HCo.out rfl d4' rfl hfull hk1
    subst hk1
    clear HFu HDu HEx HCo d4' hfull
    go_wp2_with fail
    refine (HE1.out _).mono ?_
    rintro e V9 ⟨rfl,b9'⟩
    clear xc0 xc1 xc2 xc3 xc4 xc5 xc6 xc7 xc8 xlt oc0 oc1 oc2 oc3 oc4 oc5 olt mc0 mc1 mc2 mc3 mc4 mlt ac0 ac1 ac2 alt gc0 gc1 gc2 gc3 glt pc0 pc1 pc2 pc3 plt
    have hT9:Hid (ja7 Pe w own (fun k=>((((k=w.heap.size\/k=(w.heap.size+1))\/k=bz)\/k=az)\/k=wz)\/k=pz) V9):=ja2 Ke hT8.out b9'
    have f90:Hid _:=(b9'.block _ (blt f80.out)).trans f80.out
    have f91:Hid _:=(b9'.block _ (blt f81.out)).trans f81.out
    have f92:Hid _:=(b9'.block _ (blt f82.out)).trans f82.out
    have f93:Hid _:=(b9'.block _ (blt f83.out)).trans f83.out
    have f94:Hid _:=(b9'.block _ (blt f84.out)).trans f84.out
    have f95:Hid _:=(b9'.block _ (blt f85.out)).trans f85.out
    clear b9' hT8 HE1 f80 f81 f82 f83 f84 f85
    obtain ⟨xc0,xc1,xc2,xc3,xc4,xc5,xc6,xc7,xc8⟩:=je2 f90.out
    have xlt:w.heap.size<V9.heap.size:=(blt f90.out)
    obtain ⟨oc0,oc1,oc2,oc3,oc4,oc5⟩:=ja1 f91.out
    have olt:(w.heap.size+1)<V9.heap.size:=(blt f91.out)
    obtain ⟨mc0,mc1,mc2,mc3,mc4⟩:=jer f92.out
    have mlt:bz<V9.heap.size:=(blt f92.out)
    obtain ⟨ac0,ac1,ac2⟩:=jb3 f93.out
    have alt:az<V9.heap.size:=(blt f93.out)
    obtain ⟨gc0,gc1,gc2,gc3⟩:=jck f94.out
    have glt:wz<V9.heap.size:=(blt f94.out)
    obtain ⟨pc0,pc1,pc2,pc3⟩:=jck f95.out
    have plt:pz<V9.heap.size:=(blt f95.out)
    by_cases h2:r1=2
    ·have HC2:Hid _:=HC1.out h2
     subst h2
     go_wp2_with fail
     go_region_held3 (fun w'=>(w'.cell? (aq w.heap.size 0)=some (iv c0)/\w'.cell? (aq w.heap.size 1)=some (iv c1)/\w'.cell? (aq w.heap.size 2)=some (iv c2)/\w'.cell? (aq w.heap.size 3)=some (iv c3)/\w'.cell? (aq w.heap.size 4)=some (iv c4)/\w'.cell? (aq w.heap.size 5)=some (iv c5)/\w'.cell? (aq w.heap.size 6)=some (iv c6)/\w'.cell? (aq w.heap.size 7)=some v7/\w'.cell? (aq w.heap.size 8)=some (.slice (some (aq b off)) n sc))/\w'.cell? (aq pz 0)=some (iv 2)/\w'.cell? (aq pz 2)=some (iv r3)/\w'.cell? (aq bz 2)=some (iv b2)) (simp [go_sem, *])
      (first
        | (go_at_call 43;refine (HC2.out _ (jag (ja2 Ke hT9.out bL))).mono ?_;rintro e W9 ⟨rfl,b10⟩
           have hT10:Hid (ja7 Pe w own (fun k=>((((k=w.heap.size\/k=(w.heap.size+1))\/k=bz)\/k=az)\/k=wz)\/k=pz) W9):=ja2 Ke hT9.out (Below.trans bL b10)
           have j0:W9.cell? (aq w.heap.size 0)=some (iv c0):=(b10.cell (p:=(aq w.heap.size 0)) (by simpa using xlt)).trans (by simp [go_sem, *])
           have j1:W9.cell? (aq w.heap.size 1)=some (iv c1):=(b10.cell (p:=(aq w.heap.size 1)) (by simpa using xlt)).trans (by simp [go_sem, *])
           have j2:W9.cell? (aq w.heap.size 2)=some (iv c2):=(b10.cell (p:=(aq w.heap.size 2)) (by simpa using xlt)).trans (by simp [go_sem, *])
           have j3:W9.cell? (aq w.heap.size 3)=some (iv c3):=(b10.cell (p:=(aq w.heap.size 3)) (by simpa using xlt)).trans (by simp [go_sem, *])
           have j4:W9.cell? (aq w.heap.size 4)=some (iv c4):=(b10.cell (p:=(aq w.heap.size 4)) (by simpa using xlt)).trans (by simp [go_sem, *])
           have j5:W9.cell? (aq w.heap.size 5)=some (iv c5):=(b10.cell (p:=(aq w.heap.size 5)) (by simpa using xlt)).trans (by simp [go_sem, *])
           have j6:W9.cell? (aq w.heap.size 6)=some (iv c6):=(b10.cell (p:=(aq w.heap.size 6)) (by simpa using xlt)).trans (by simp [go_sem, *])
           have j7:W9.cell? (aq w.heap.size 7)=some v7:=(b10.cell (p:=(aq w.heap.size 7)) (by simpa using xlt)).trans (by simp [go_sem, *])
           have j8:W9.cell? (aq w.heap.size 8)=some (.slice (some (aq b off)) n sc):=(b10.cell (p:=(aq w.heap.size 8)) (by simpa using xlt)).trans (by simp [go_sem, *])
           have jp0:W9.cell? (aq pz 0)=some (iv 2):=(b10.cell (p:=(aq pz 0)) (by simpa using plt)).trans (by simp [go_sem, *])
           have jp2:W9.cell? (aq pz 2)=some (iv r3):=(b10.cell (p:=(aq pz 2)) (by simpa using plt)).trans (by simp [go_sem, *])
           have jb2:W9.cell? (aq bz 2)=some (iv b2):=(b10.cell (p:=(aq bz 2)) (by simpa using mlt)).trans (by simp [go_sem, *])))
     clear hT9
     go_wp2
     refine bodyPost_ret (v:=.bool true) (by simp [results,Tryz.results17,go_sem]) rfl ⟨rfl,jan (ja2 Ke hT10.out bL)⟩
    ·have d2:(r1 != 2)=true:=by simpa using h2
     clear HC1 h2
     go_wp2_with fail
     go_quiet (fail)
     go_wp2
     refine bodyPost_ret (v:=.bool true) (by simp [results,Tryz.results17,go_sem]) rfl ⟨rfl,jan (ja2 Ke hT9.out bL)⟩
   ·have HD9:Hid _:=HDu.out rfl d4' rfl hfull hk1
    have dk1:(pk != 1)=true:=by simpa using hk1
    clear HFu HDu HEx HCo d4' hfull hk1
    go_wp2_with fail
    refine (HD9.out _ _ hT8.out).mono ?_
    rintro e V9 ⟨rfl,b9'⟩
    clear xc0 xc1 xc2 xc3 xc4 xc5 xc6 xc7 xc8 xlt oc0 oc1 oc2 oc3 oc4 oc5 olt mc0 mc1 mc2 mc3 mc4 mlt ac0 ac1 ac2 alt gc0 gc1 gc2 gc3 glt pc0 pc1 pc2 pc3 plt
    have hT9:Hid (ja7 Pe w own (fun k=>((((k=w.heap.size\/k=(w.heap.size+1))\/k=bz)\/k=az)\/k=wz)\/k=pz) V9):=ja2 Ke hT8.out b9'
    have f90:Hid _:=(b9'.block _ (blt f80.out)).trans f80.out
    have f91:Hid _:=(b9'.block _ (blt f81.out)).trans f81.out
    have f92:Hid _:=(b9'.block _ (blt f82.out)).trans f82.out
    have f93:Hid _:=(b9'.block _ (blt f83.out)).trans f83.out
    have f94:Hid _:=(b9'.block _ (blt f84.out)).trans f84.out
    have f95:Hid _:=(b9'.block _ (blt f85.out)).trans f85.out
    clear b9' hT8 HD9 f80 f81 f82 f83 f84 f85
    have hE9:Hid _:=jaz Ke hT9.out (.cells #[iv r1,iv r2,iv r3,iv r4] 42 (0,0))
    have ne90:V9.heap.size≠w.heap.size:=by have:=(blt f90.out);omega
    have ne91:V9.heap.size≠(w.heap.size+1):=by have:=(blt f91.out);omega
    have ne92:V9.heap.size≠bz:=by have:=(blt f92.out);omega
    have ne93:V9.heap.size≠az:=by have:=(blt f93.out);omega
    have ne94:V9.heap.size≠wz:=by have:=(blt f94.out);omega
    have ne95:V9.heap.size≠pz:=by have:=(blt f95.out);omega
    obtain ⟨xc0,xc1,xc2,xc3,xc4,xc5,xc6,xc7,xc8⟩:=je2 f90.out
    have xlt:w.heap.size<V9.heap.size:=(blt f90.out)
    obtain ⟨oc0,oc1,oc2,oc3,oc4,oc5⟩:=ja1 f91.out
    have olt:(w.heap.size+1)<V9.heap.size:=(blt f91.out)
    obtain ⟨mc0,mc1,mc2,mc3,mc4⟩:=jer f92.out
    have mlt:bz<V9.heap.size:=(blt f92.out)
    obtain ⟨ac0,ac1,ac2⟩:=jb3 f93.out
    have alt:az<V9.heap.size:=(blt f93.out)
    obtain ⟨gc0,gc1,gc2,gc3⟩:=jck f94.out
    have glt:wz<V9.heap.size:=(blt f94.out)
    obtain ⟨pc0,pc1,pc2,pc3⟩:=jck f95.out
    have plt:pz<V9.heap.size:=(blt f95.out)
    go_wp2
    refine bodyPost_ret (v:=.bool true) (by simp [results,Tryz.results17,go_sem]) rfl ⟨rfl,jan (ja2 Ke hE9.out bL)⟩
theorem juw (n:Nat) (v0 v1 v2 v3 v4 v5 v6 v7:Value) (sa:Option Addr) (sc:Nat) (w:World) (Q:Nat->World->(Nat->Prop)->Prop) (KQ:∀ x,Keeps (Q x)) (P:Nat->Nat->Nat->World->(Nat->Prop)->Prop) (KP:∀ a b j,Keeps (P a b j)) (R:World->Prop) (hn:n<=4611686018427387904)
 (HR:Hid (∀ W,Below w.heap.size w W->R W))
 (HO:Hid (∀ W,Below w.heap.size w W->Calls Tryz.prog 13 #[.agg #[v0,v1,v2,v3,v4,v5,v6,v7,.slice sa n sc]] W fun e w'=>∃ x own,e=.returned (.tuple #[pt x 0,.bool true])/\Q x w' own/\(∀ k,own k->W.heap.size<=k)/\Below W.heap.size W w'))
 (HP0:Hid (∀ a L W o1 o,Q a W o1->W.heap[L]?=some (.cells #[.slice none 0 0] 39 (0,0))->(∀ k,o1 k->k≠L)->(∀ k,o k↔o1 k\/k=L)->P a L 0 W o))
 (HAs:Hid (∀ a b j,j<n->∀ W o,P a b j W o->(∀ W',Same o W W'->R W')->Calls Tryz.prog 17 #[.agg #[v0,v1,v2,v3,v4,v5,v6,v7,.slice sa n sc],pt a 0,pt b 0,iv j] W fun e w'=>e=.returned (.bool true)/\jap (P a b (j+1)) W w' o))
 (HIt:Hid (∀ a b j,j<=n->∀ W o,P a b j W o->Calls Tryz.prog 18 #[pt b 0,pt a 0] W fun e w'=>e=.returned (.bool true)/\jap (P a b j) W w' o)) :
 Calls Tryz.prog 10 #[.agg #[v0,v1,v2,v3,v4,v5,v6,v7,.slice sa n sc]] w fun e w'=>e=.returned (.bool true)/\Below w.heap.size w w':=by
 go_enter Tryz.func10,Tryz.ntmps10
 go_wp2_with fail
 refine (HO.out _ ((Below.refl _ _).alloc (Nat.le_refl _) _)).mono ?_
 rintro e W1 ⟨xa,oa,rfl,hqa,hfa,b1⟩
 have hb1:Below w.heap.size w W1:=Below.trans ((Below.refl _ _).alloc (Nat.le_refl _) _) (b1.mono (by simp))
 have x1:Hid _:=(b1.block w.heap.size (by simp)).trans (heap_alloc_new w (.cells #[v0,v1,v2,v3,v4,v5,v6,v7,.slice sa n sc] 32))
 have hfa1:∀ k,oa k->w.heap.size+1<=k:=fun k e=>Nat.le_trans (by simp) (hfa k e)
 obtain ⟨k0,k1,k2,k3,k4,k5,k6,k7,k8⟩:=je2 x1.out
 have l1:w.heap.size<W1.heap.size:=(blt x1.out)
 replace hqa:Hid _:=hqa
 replace hfa1:Hid _:=hfa1
 replace hb1:Hid _:=hb1
 clear b1 hfa
 go_wp2_with fail
 clear k0 k1 k2 k3 k4 k5 k6 k7 k8
 have hb2:Hid (Below w.heap.size w (W1.alloc (.cells #[.slice none 0 0] 39))):=hb1.out.alloc hb1.out.size _
 have x2:Hid ((W1.alloc (.cells #[.slice none 0 0] 39)).heap[w.heap.size]?=some (.cells #[v0,v1,v2,v3,v4,v5,v6,v7,.slice sa n sc] 32 (0,0))):=(Below.heap_alloc _ _ _ l1).trans x1.out
 obtain ⟨own2,hiff⟩:∃ own2:Nat->Prop,∀ k,own2 k↔oa k\/k=W1.heap.size:=⟨fun k=>oa k\/k=W1.heap.size,fun _=>Iff.rfl⟩
 have hown:Hid (∀ k,own2 k->w.heap.size+1<=k):=fun k e=>((hiff k).1 e).elim (hfa1.out k) (fun e=>by omega)
 have hp2:Hid (P xa W1.heap.size 0 (W1.alloc (.cells #[.slice none 0 0] 39)) own2):=HP0.out xa W1.heap.size (W1.alloc (.cells #[.slice none 0 0] 39)) oa own2 ((KQ xa).keep hqa.out (by simp) (fun k e=>Below.heap_alloc _ _ _ ((KQ xa).lt hqa.out k e))) (heap_alloc_new W1 _) (fun k e c=>by have:=(KQ xa).lt hqa.out k e;omega) hiff
 generalize W1.alloc (.cells #[.slice none 0 0] 39)=W2 at hb2 x2 hp2 ⊢
 generalize hxb:W1.heap.size=xb at hp2 ⊢
 have l2:w.heap.size<W2.heap.size:=(blt x2.out)
 have HX2:Hid (∀ W,Same own2 W2 W->W.heap[w.heap.size]?=some (.cells #[v0,v1,v2,v3,v4,v5,v6,v7,.slice sa n sc] 32 (0,0))):=fun W hs=>(hs.block _ l2 (fun e=>by have:=hown.out _ e;omega)).trans x2.out
 have HE2:Hid (∀ W,Same own2 W2 W->Below w.heap.size w W):=fun W hs=>hb2.out.trans (hs.toBelow hb2.out.size (fun k e=>by have:=hown.out k e;omega))
 have HW2:Hid (∀ k,own2 k->k<W2.heap.size):=(KP xa xb 0).lt hp2.out
 obtain ⟨k0,k1,k2,k3,k4,k5,k6,k7,k8⟩:=je2 x2.out
 clear hqa hfa1 hb1 x1 hown l1 hiff hxb
 go_wp2_with fail
 clear k0 k1 k2 k3 k4 k5 k6 k7 k8
 have hT2:Hid (ja7 (P xa xb 0) W2 own2 (fun _=>False) W2):=jah (KP xa xb 0) hp2.out (Below.refl _ _) (fun _ e=>e.elim)
 go_loopw [4,6] (fun u i wr=>∃ j:Nat,j<=n/\i=iv j/\u=.bool true/\Hid (ja7 (P xa xb j) W2 own2 (fun _=>False) wr)) (fun _ i _=>n - (intOf i).toNat)
 case atStart=>exact ⟨0,Nat.zero_le _,rfl,rfl,hT2⟩
 case round =>
  obtain ⟨j,hj,rfl,rfl,HK⟩:=hrel
  clear hT2 hp2 HP0 HO hb2 x2 l2
  obtain ⟨k0,k1,k2,k3,k4,k5,k6,k7,k8⟩:=je2 (HX2.out wr (jag HK.out))
  have lx:w.heap.size<wr.heap.size:=(Array.getElem?_eq_some_iff.1 (HX2.out wr (jag HK.out))).1
  by_cases hlt:j<n
  ·have HAj:Hid (∀ W,ja7 (P xa xb j) W2 own2 (fun _=>False) W->Calls Tryz.prog 17 #[.agg #[v0,v1,v2,v3,v4,v5,v6,v7,.slice sa n sc],pt xa 0,pt xb 0,iv j] W fun e w'=>e=.returned (.bool true)/\ja7 (P xa xb (j+1)) W2 own2 (fun _=>False) w'):=fun W hW=>by
    obtain ⟨o1,a1,a2,a3,a4⟩:=hW
    refine (HAs.out xa xb j hlt W o1 a1 (fun W' hs=>HR.out W' (HE2.out W' (Same.trans a2 hs (fun k hk e=>e.elim id (fun e=>(a3 k e).elim id (fun e=>by omega))))))).mono ?_
    rintro e w' ⟨rfl,o2,c1,c2,c3⟩
    have z1:=a2.size
    exact ⟨rfl,o2,c1,Same.trans a2 c2 (fun k hk e=>e.elim id (fun e=>(a3 k e).elim id (fun e=>by omega))),fun k e=>(c3 k e).elim (fun d=>(a3 k d).imp id (fun e=>e)) (fun e=>.inr ⟨by omega,id⟩),fun _ e=>e.elim⟩
   have HIj:Hid _:=ja6 (loc:=fun _=>False) HW2.out (HIt.out xa xb (j+1) hlt)
   have bj0:(0:Int)<=(j:Int):=by omega
   have bj1:(j:Int)<(n:Int):=by omega
   have hwj:IntKind.i64.wrap ((j:Int)+1)=(j:Int)+1:=jab (by omega) (by omega)
   have KPj:=KP xa xb j
   have KPj1:=KP xa xb (j+1)
   have HNX:Hid (∀ u wr',u=Value.bool true->ja7 (P xa xb (j+1)) W2 own2 (fun _=>False) wr'->∃ j':Nat,j'<=n/\Value.int .i64 ((j:Int)+1)=iv j'/\u=.bool true/\Hid (ja7 (P xa xb j') W2 own2 (fun _=>False) wr')):=fun u wr' e h=>⟨j+1,by omega,by simp,e,h⟩
   clear HAs HIt HX2 HE2 HR
   generalize P xa xb j=Pj at HK HAj KPj
   generalize P xa xb (j+1)=Pj1 at HAj HIj KPj1 HNX
   go_wp2_with fail
   refine (HAj.out _ (ja2 KPj HK.out bL)).mono ?_
   rintro e V2 ⟨rfl,hV2⟩
   clear k0 k1 k2 k3 k4 k5 k6 k7 k8 lx HK HAj
   replace hV2:Hid _:=hV2
   go_wp2_with fail
   refine (HIj.out _ (ja2 KPj1 hV2.out bL)).mono ?_
   rintro e V4 ⟨rfl,hV4,_⟩
   replace hV4:Hid _:=hV4
   clear hV2 HIj
   go_wp2_with fail
   go_roundw
   case rel=>first|exact HNX.out _ _ rfl (ja2 KPj1 hV4.out bL)|(rw [hwj];exact HNX.out _ _ rfl (ja2 KPj1 hV4.out bL))
   case measure=>simp [intOf];omega
  ·have hje:j=n:=by omega
   subst hje
   have hE:Hid (Below w.heap.size w wr):=HE2.out _ (jag HK.out)
   clear HIt HAs HX2 HE2 HR
   go_wp2
   refine bodyPost_ret (v:=.bool true) (by simp [results,Tryz.results10,go_sem]) rfl ⟨rfl,bL⟩
theorem qc5 (v0 v1 v2 v3 v4 v5 v6 v7:Value) (sa:Option Addr) (n sc:Nat) (w:World)
 (HO:Hid (∀ W,Below w.heap.size w W->Calls Tryz.prog 13 #[.agg #[v0,v1,v2,v3,v4,v5,v6,v7,.slice sa n sc]] W fun e w'=>e=.returned (.tuple #[.pointer none,.bool true])/\Below W.heap.size W w')) :
 Calls Tryz.prog 10 #[.agg #[v0,v1,v2,v3,v4,v5,v6,v7,.slice sa n sc]] w fun e w'=>e=.returned (.bool true)/\Below w.heap.size w w':=by
 go_enter Tryz.func10,Tryz.ntmps10
 go_wp2_with fail
 refine (HO.out _ ((Below.refl _ _).alloc (Nat.le_refl _) _)).mono ?_
 rintro e W1 ⟨rfl,b1⟩
 have hb1:Hid (Below w.heap.size w W1):=Below.trans ((Below.refl _ _).alloc (Nat.le_refl _) _) (b1.mono (by simp))
 clear b1 HO
 go_wp2
 refine bodyPost_ret (v:=.bool true) (by simp [results,Tryz.results10,go_sem]) rfl ⟨rfl,bL⟩
theorem jme (L n cap:Nat) (a:Option Addr) (k t c u o r1 r2 r3 r4:Int) (w:World) (hL:L<w.heap.size) (cL:w.cell? (aq L 0)=some (.slice a n cap)) (hn:n<=4294967296) (h7:r1≠7)
 (hc:(¬ (k=1/\(r1=2\/r1=3)))\/(k=1/\(r1=2\/r1=3)/\∃ i g:Nat,r2=(i:Int)+1/\i<n/\a=some (aq g 0)/\g<w.heap.size/\w.cell? (aq g (i * 3))=some (iv c)/\w.cell? (aq g (i * 3+1))=some (iv u))) :
 Calls Tryz.prog 16 #[pt L 0,.agg #[iv k,iv t,iv c,iv u,iv o],.agg #[iv r1,iv r2,iv r3,iv r4]] w fun e w'=>e=.returned (.bool true)/\Below w.heap.size w w':=by
 have e7:(r1==7)=false:=by simpa using h7
 have hB:Hid (Below w.heap.size w ((w.alloc (.cells #[iv k,iv t,iv c,iv u,iv o] 46)).alloc (.cells #[iv r1,iv r2,iv r3,iv r4] 42))):=((Below.refl _ _).alloc (Nat.le_refl _) _).alloc (by simp) _
 go_enter Tryz.func16,Tryz.ntmps16
 rcases hc with hc|⟨hk,hr,i,g,hi,hin,ha,hg,g0,g1⟩
 ·have hcc:(k==1)=false\/((k==1)=true/\(r1==2)=false/\(r1==3)=false):=by
   by_cases e:k=1
   ·exact .inr ⟨by simpa using e,by simp;omega,by simp;omega⟩
   ·exact .inl (by simpa using e)
  rcases hcc with d1|⟨d1,d2,d3⟩
  all_goals
   go_wp2
   refine bodyPost_ret (v:=.bool true) (by simp [results,Tryz.results16,go_sem]) rfl ⟨rfl,bL⟩
 ·subst hk hi ha
  have b0:(0:Int)<=(i:Int):=by omega
  have b1:(i:Int)<(n:Int):=by omega
  have hw1:IntKind.i64.wrap ((n:Int)+1)=(n:Int)+1:=jab (by omega) (by omega)
  have hw2:IntKind.i64.wrap ((i:Int)+1 - 1)=(i:Int):=by rw [Int.add_sub_cancel];exact jab (by omega) (by omega)
  have e1:((i:Int)+1==(n:Int)+1)=false:=by simp;omega
  have e1b:¬ (i:Int)=(n:Int):=by omega
  have e1c:((i:Int)==(n:Int))=false:=by simp;omega
  have e1d:¬ i=n:=by omega
  have e2:(1:Int)<=(i:Int)+1:=by omega
  have e3:(i:Int)+1<=(n:Int):=by omega
  obtain ⟨W0,hW0⟩:∃ W0,W0=(w.alloc (.cells #[iv 1,iv t,iv c,iv u,iv o] 46)).alloc (.cells #[iv r1,iv ((i:Int)+1),iv r3,iv r4] 42):=⟨_,rfl⟩
  have qb:W0.heap[w.heap.size]?=some (.cells #[iv 1,iv t,iv c,iv u,iv o] 46 (0,0)):=by rw [hW0];exact (Below.heap_alloc _ _ _ (by simp)).trans (heap_alloc_new w _)
  have pb:W0.heap[w.heap.size+1]?=some (.cells #[iv r1,iv ((i:Int)+1),iv r3,iv r4] 42 (0,0)):=by rw [hW0];exact jbd w _ _
  obtain ⟨q0,q1,q2,q3,q4⟩:=jer qb
  obtain ⟨p0,p1,p2,p3⟩:=jck pb
  have lq:=(blt qb)
  have lp:=(blt pb)
  rw [← hW0] at hB
  have cL':=(hB.out.cell (p:=(aq L 0)) hL).trans cL
  have g0':=(hB.out.cell (p:=(aq g (i * 3))) hg).trans g0
  have g1':=(hB.out.cell (p:=(aq g (i * 3+1))) hg).trans g1
  have lL:L<W0.heap.size:=Nat.lt_of_lt_of_le hL hB.out.size
  have lg:g<W0.heap.size:=Nat.lt_of_lt_of_le hg hB.out.size
  clear g0 g1 cL qb pb
  replace hW0:Hid _:=hW0
  rcases hr with rfl|rfl
  all_goals
   go_wp2_with fail
   rw [← hW0.out]
   clear hW0
   go_quiet (fail)
   try go_wp2_with fail
   try go_quiet (fail)
   try go_wp2
   refine bodyPost_ret (v:=.bool true) (by simp [results,Tryz.results16,go_sem]) rfl ⟨rfl,bL⟩
theorem jwn (L n cap g i:Nat) (cur:Array Value) (k t c u o r3 r4:Int) (pd:Value) (w:World) (hL:L<w.heap.size) (cL:w.cell? (aq L 0)=some (.slice (some (aq g 0)) n cap)) (hn:n<=4294967296) (hin:i<n)
 (hg:w.heap[g]?=some (.cells cur 85 (0,0))) (g0:w.cell? (aq g (i * 3))=some (iv c)) (g2:w.cell? (aq g (i * 3+2))=some pd) :
 Calls Tryz.prog 16 #[pt L 0,.agg #[iv k,iv t,iv c,iv u,iv o],.agg #[iv 7,iv ((i:Int)+1),iv r3,iv r4]] w fun e w'=>e=.returned (.bool true)/\w'.heap[g]?=some (.cells (cur.setIfInBounds (i * 3+2) (.bool true)) 85 (0,0))/\Same (fun b=>b=g) w w':=by
 have lg0:g<w.heap.size:=(blt hg)
 obtain ⟨W0,hW0⟩:∃ W0,W0=(w.alloc (.cells #[iv k,iv t,iv c,iv u,iv o] 46)).alloc (.cells #[iv 7,iv ((i:Int)+1),iv r3,iv r4] 42):=⟨_,rfl⟩
 have hB:Hid (Below w.heap.size w W0):=by rw [hW0];exact ((Below.refl _ _).alloc (Nat.le_refl _) _).alloc (by simp) _
 have qb:W0.heap[w.heap.size]?=some (.cells #[iv k,iv t,iv c,iv u,iv o] 46 (0,0)):=by rw [hW0];exact (Below.heap_alloc _ _ _ (by simp)).trans (heap_alloc_new w _)
 have pb:W0.heap[w.heap.size+1]?=some (.cells #[iv 7,iv ((i:Int)+1),iv r3,iv r4] 42 (0,0)):=by rw [hW0];exact jbd w _ _
 obtain ⟨q0,q1,q2,q3,q4⟩:=jer qb
 obtain ⟨p0,p1,p2,p3⟩:=jck pb
 have lq:=(blt qb)
 have lp:=(blt pb)
 have cL':=(hB.out.cell (p:=(aq L 0)) hL).trans cL
 have g0':=(hB.out.cell (p:=(aq g (i * 3))) lg0).trans g0
 have g2':=(hB.out.cell (p:=(aq g (i * 3+2))) lg0).trans g2
 have lL:L<W0.heap.size:=Nat.lt_of_lt_of_le hL hB.out.size
 have lg:g<W0.heap.size:=Nat.lt_of_lt_of_le lg0 hB.out.size
 have hgW:W0.heap[g]?=some (.cells cur 85 (0,0)):=(hB.out.block g lg0).trans hg
 have fz:=ja0 hgW (i * 3+2)
 have HE:Hid (∀ N,((W0.drewN N).setCell (aq g (i * 3+2)) (.bool true)).heap[g]?=some (.cells (cur.setIfInBounds (i * 3+2) (.bool true)) 85 (0,0))/\Same (fun b=>b=g) w ((W0.drewN N).setCell (aq g (i * 3+2)) (.bool true))):=fun N=>⟨Joins.block_setCell (w:=W0.drewN N) (i:=i * 3+2) hgW _,by
  have h1:Same (fun b=>b=g) w (W0.drewN N):=Same.of_below (jaf hB.out)
  have hz:(W0.drewN N).heap.size=((W0.drewN N).setCell (aq g (i * 3+2)) (.bool true)).heap.size:=by simp [World.setCell]
  exact ⟨h1.os,h1.tape,h1.output,by rw [← hz];exact h1.size,fun b hb hn=>(Below.heap_setCell _ (aq g (i * 3+2)) _ _ hn).trans (h1.block b hb hn)⟩⟩
 have b0:(0:Int)<=(i:Int):=by omega
 have b1:(i:Int)<(n:Int):=by omega
 have hw2:IntKind.i64.wrap ((i:Int)+1 - 1)=(i:Int):=by rw [Int.add_sub_cancel];exact jab (by omega) (by omega)
 have e2:¬ (i:Int)+1<1:=by omega
 have e2d:decide ((i:Int)+1<1)=false:=by simp;omega
 have e3:¬ (n:Int)<(i:Int)+1:=by omega
 have e3d:decide ((n:Int)<(i:Int)+1)=false:=by simp;omega
 have hkc:(k==1)=true\/(k==1)=false:=by cases (k==1)<;>simp
 clear g0 g2 cL qb pb hg hgW
 replace hW0:Hid _:=hW0
 go_enter Tryz.func16,Tryz.ntmps16
 rcases hkc with d1|d1
 all_goals
  go_wp2_with fail
  rw [← hW0.out]
  clear hW0
  go_quiet (fail)
  go_wp2_with fail
  go_region
  go_wp2
  refine bodyPost_ret (v:=.bool true) (by simp [results,Tryz.results16,go_sem]) rfl ⟨rfl,?_⟩
  exact HE.out _
theorem Tryz.infoKnown:(Tryz.prog.info? 85).map (fun i=>(i.zero,i.size,i.bytes))=some (some (.agg #[iv 0,iv 0,.bool false]),3,24):=by kernel_rfl
def jx1 (w w':World) (L n:Nat) (v:Value) (E X:List Value):Prop :=
 ∃ g cap,w'.heap[L]?=some (.cells #[.slice (some (aq g 0)) (n+1) cap] 39 (0,0))/\w'.ownsRow 0 85 3 (.slice (some (aq g 0)) (n+1) cap) (n+1) (E++X)/\Same (fun b=>b=L\/v.ownBlock=some b) w w'/\(v.ownBlock=some g\/w.heap.size<=g)
theorem qfo {w w1 w3:World} {L n g cap:Nat} {v:Value} {E X:List Value} {O:Obj} (hB:Below w.heap.size w w1) (hL:L<w.heap.size) (hR1:w1.heap[L]?=some (.cells #[v] 39 (0,0))) (hv:v.ownBlock≠some L)
 (hown:w3.ownsRow 0 85 3 (.slice (some (aq g 0)) (n+1) cap) (n+1) (E++X)) (hg:(w1.alloc O).grownBy w3 v.ownBlock) (hat:v.ownBlock=some g\/g=w1.heap.size+1) :
 jx1 w (w3.setCell (aq L 0) (.slice (some (aq g 0)) (n+1) cap)) L n v E X:=by
 have hz:=hB.size
 have k1:∀ k,k<w1.heap.size->v.ownBlock≠some k->w3.heap[k]?=w1.heap[k]?:=fun k hk hn=>(hg.block k (by simp;omega) (fun e=>hn e.symm)).trans (Below.heap_alloc w1 O k hk)
 have z3:w1.heap.size+1<=w3.heap.size:=by have:=hg.size;simpa using this
 have hR3:w3.heap[L]?=some (.cells #[v] 39 (0,0)):=(k1 L (by omega) hv).trans hR1
 have ks:∀ k,k≠L->(w3.setCell (aq L 0) (.slice (some (aq g 0)) (n+1) cap)).heap[k]?=w3.heap[k]?:=fun k hk=>Below.heap_setCell _ (aq L 0) _ _ hk
 have hgR:g≠L:=by
  rintro rfl
  rcases hat with e|e
  ·exact hv e
  ·omega
 have hsm:Same (fun b=>b=L\/v.ownBlock=some b) w (w3.setCell (aq L 0) (.slice (some (aq g 0)) (n+1) cap)):=by
  refine ⟨hg.os.trans hB.os,hg.tape.trans hB.tape,hg.output.trans hB.output,by simp [World.setCell];omega,fun k hk hn=>?_⟩
  rw [ks k (fun e=>hn (.inl e)),k1 k (by omega) (fun e=>hn (.inr e))]
  exact hB.block k hk
 exact ⟨g,cap,Joins.block_setCell (i:=0) hR3 _,jad hown (fun k hk=>ks k (fun e=>hgR (by simp [Value.ownBlock] at hk;exact hk.trans e))),hsm,hat.imp id (fun e=>by omega)⟩
theorem juz {w w':World} {L n:Nat} {v:Value} {E X:List Value} (h:jx1 w w' L n v E X) {W:World} (hW:Below w'.heap.size w' W):jx1 w W L n v E X:=by
 obtain ⟨g,cap,a,b,c,d⟩:=h
 exact ⟨g,cap,(hW.block L (blt a)).trans a,jbg b hW (Nat.le_refl _),Same.trans c (Same.of_below (own:=fun _=>False) hW) (fun k _ e=>e.elim id (fun e=>e.elim)),d⟩
theorem jya (L n vc:Nat) (va:Option Addr) (E:List Value) (t c u o r1 r3 r4:Int) (w:World) (hLb:w.heap[L]?=some (.cells #[.slice va n vc] 39 (0,0))) (hO:w.ownsRow 0 85 3 (.slice va n vc) n E) (hv:Value.ownBlock (.slice va n vc)≠some L) (hn:n<=4294967296) (hr:r1=2\/r1=3) :
 Calls Tryz.prog 16 #[pt L 0,.agg #[iv 1,iv t,iv c,iv u,iv o],.agg #[iv r1,iv ((n:Int)+1),iv r3,iv r4]] w fun e w'=>e=.returned (.bool true)/\jx1 w w' L n (.slice va n vc) E [iv c,iv u,.bool false]:=by
 obtain ⟨i0,hi,hz0,hz1,hz2⟩:=info_parts Tryz.infoKnown
 have hL:L<w.heap.size:=(blt hLb)
 obtain ⟨W0,hW0⟩:∃ W0,W0=(w.alloc (.cells #[iv 1,iv t,iv c,iv u,iv o] 46)).alloc (.cells #[iv r1,iv ((n:Int)+1),iv r3,iv r4] 42):=⟨_,rfl⟩
 have hB:Hid (Below w.heap.size w W0):=by rw [hW0];exact ((Below.refl _ _).alloc (Nat.le_refl _) _).alloc (by simp) _
 have qb:Hid (W0.heap[w.heap.size]?=some (.cells #[iv 1,iv t,iv c,iv u,iv o] 46 (0,0))):=by rw [hW0];exact (Below.heap_alloc _ _ _ (by simp)).trans (heap_alloc_new w _)
 have pb:Hid (W0.heap[w.heap.size+1]?=some (.cells #[iv r1,iv ((n:Int)+1),iv r3,iv r4] 42 (0,0))):=by rw [hW0];exact jbd w _ _
 obtain ⟨q0,q1,q2,q3,q4⟩:=jer qb.out
 obtain ⟨p0,p1,p2,p3⟩:=jck pb.out
 have lq:=(blt qb.out)
 have lp:=(blt pb.out)
 have hLW:Hid (W0.heap[L]?=some (.cells #[.slice va n vc] 39 (0,0))):=(hB.out.block L hL).trans hLb
 have hO3:Hid (W0.ownsRow 0 85 3 (.slice va n vc) n E):=jbg hO hB.out (Nat.le_refl _)
 have cL':W0.cell? (aq L 0)=some (.slice va n vc):=by rw [Joins.cell_of_block hLW.out];rfl
 have lL:L<W0.heap.size:=Nat.lt_of_lt_of_le hL hB.out.size
 have hw1:IntKind.i64.wrap ((n:Int)+1)=(n:Int)+1:=jab (by omega) (by omega)
 clear hLb hO
 replace hW0:Hid _:=hW0
 go_enter Tryz.func16,Tryz.ntmps16
 rcases hr with rfl|rfl
 all_goals
  go_wp2_with fail
  rw [← hW0.out]
  clear hW0
  go_quiet (fail)
  have HQ:Hid (Below w.heap.size w (W0.drewN nq)/\(W0.drewN nq).heap[L]?=some (.cells #[.slice va n vc] 39 (0,0))/\(W0.drewN nq).ownsRow 0 85 3 (.slice va n vc) n E/\(W0.drewN nq).heap[w.heap.size]?=some (.cells #[iv 1,iv t,iv c,iv u,iv o] 46 (0,0))):=⟨jaf hB.out,hLW.out,hO3.out,qb.out⟩
  clear q0 q1 q2 q3 q4 p0 p1 p2 p3 lq lp hLW hO3 cL' lL qb pb hB
  generalize W0.drewN nq=wq at HQ ⊢
  obtain ⟨hB,hLb,hO3,qb⟩:=HQ.out
  replace hB:Hid _:=hB
  have qh:Hid _:=qb
  obtain ⟨q0,q1,q2,q3,q4⟩:=jer qb
  have cL':wq.cell? (aq L 0)=some (.slice va n vc):=by rw [Joins.cell_of_block hLb];rfl
  have hRwq:L<wq.heap.size:=(blt hLb)
  have howq:w.heap.size<wq.heap.size:=(blt qb)
  have hRb:Hid _:=hLb
  have hOh:Hid _:=hO3
  have HX2:Hid (∀ w3 g cap O,w3.ownsRow 0 85 3 (.slice (some (aq g 0)) (n+1) cap) (n+1) (E++[iv c,iv u,.bool false])->(wq.alloc O).grownBy w3 (Value.ownBlock (.slice va n vc))->(Value.ownBlock (.slice va n vc)=some g\/g=wq.heap.size+1)->jx1 w (w3.setCell (aq L 0) (.slice (some (aq g 0)) (n+1) cap)) L n (.slice va n vc) E [iv c,iv u,.bool false]):=fun w3 g cap O h1 h2 h3=>qfo hB.out hL hLb hv h1 h2 h3
  clear HQ hLb qb hO3
  go_wp2_with fail
  go_region_law ((refine step_append_lies _ (by rfl) _ _ _ (by rfl) 0 85 i0 (.agg #[iv 0,iv 0,.bool false]) 3 24 Tryz.underlying37 hi hz0 hz1 hz2 rfl (by omega) (.slice va n vc) n E (by rfl) ((show wq.ownsRow 0 85 3 (.slice va n vc) n E from hOh.out).alloc _).drew (aq wq.heap.size 0) 1 1 [iv c,iv u,.bool false] (by rfl) (by rfl) (World.news_of_block (cs:=#[iv c,iv u,.bool false]) (t:=85) (fr:=(0,0)) (heap_alloc_new wq _)) (by simp [Value.oneCell']) (by omega) (by unfold maxLen;omega) (by omega) (by simp) (wq.heap.size+1) (by simp) ?_
                  intro gg cap w3 hown3 hgrow hat hlt
                  have hR3:w3.heap[L]?=some (.cells #[.slice va n vc] 39 (0,0)):=(hgrow.block L (by simp;omega) (fun e=>hv e.symm)).trans ((Below.heap_alloc wq _ L hRwq).trans hRb.out)
                  have g1:w3.cell? (aq L 0)=some (.slice va n vc):=by rw [Joins.cell_of_block hR3];rfl
                  have gf:=ja0 hR3 0))
  all_goals
   have hfin:=HX2.out w3 gg cap (.cells #[iv c,iv u,.bool false] 85) hown3 ⟨hgrow.os,hgrow.tape,hgrow.output,hgrow.size,hgrow.block⟩ hat
   replace hfin:Hid _:=hfin
   clear HX2 hown3 hgrow hat
   go_wp2
   refine bodyPost_ret (v:=.bool true) (by simp [results,Tryz.results16,go_sem]) rfl ⟨rfl,juz hfin.out bL⟩
theorem jyo (kl:List Kn):(jgk kl).length=kl.length * 3:=by
 induction kl with
 | nil=>rfl
 | cons a l ih=>simp only [jgk,List.flatMap_cons,List.length_append,List.length_cons] at ih ⊢;rw [ih];simp [Kn.vals];omega
theorem jtt:∀ {kl:List Kn} {i:Nat},i<kl.length->∀ j,j<3->(jgk kl)[i * 3+j]?=(kl.getD i kn0).vals[j]?
 | [],_,h,_,_=>by simp at h
 | a :: l,0,_,j,hj=>by
   show (a.vals++jgk l)[0 * 3+j]?=_
   rw [List.getElem?_append_left (by simpa [Kn.vals] using hj)]
   simp
 | a :: l,i+1,h,j,hj=>by
   have ih:=jtt (kl:=l) (i:=i) (by simpa using h) j hj
   show (a.vals++jgk l)[(i+1) * 3+j]?=_
   rw [List.getElem?_append_right (by simp [Kn.vals];omega)]
   have e:(i+1) * 3+j - a.vals.length=i * 3+j:=by simp [Kn.vals];omega
   rw [e,ih]
   simp
theorem jw2 (kl:List Kn) (k:Kn):jgk (kl++[k])=jgk kl++k.vals:=by simp [jgk]
theorem jnz:∀ (kl:List Kn) (i:Nat),i<kl.length->(jgk kl).set (i * 3+2) (.bool true)=jgk (kl.set i { kl.getD i kn0 with paid:=true })
 | [],_,h=>by simp at h
 | a :: l,0,_=>by
   show (a.vals++jgk l).set (0 * 3+2) (.bool true)=_
   simp [jgk,Kn.vals]
 | a :: l,i+1,h=>by
   have ih:=jnz l i (by simpa using h)
   show (a.vals++jgk l).set ((i+1) * 3+2) (.bool true)=a.vals++jgk (l.set i { (a :: l).getD (i+1) kn0 with paid:=true })
   have e:(a :: l).getD (i+1) kn0=l.getD i kn0:=by simp
   have hl:a.vals.length=3:=rfl
   have e2:(i+1) * 3+2 - a.vals.length=i * 3+2:=by omega
   rw [List.set_append,if_neg (by omega),e2,ih,e]
theorem jmc {W:World} {g n c:Nat} {kl:List Kn} (h:W.ownsRow 0 85 3 (.slice (some (aq g 0)) n c) n (jgk kl)) {i:Nat} (hi:i<kl.length):W.cell? (aq g (i * 3))=some (iv (kl.getD i kn0).cust)/\W.cell? (aq g (i * 3+1))=some (iv (kl.getD i kn0).units)/\W.cell? (aq g (i * 3+2))=some (.bool (kl.getD i kn0).paid):=by
 have c:∀ k,k<3->∀ u,(kl.getD i kn0).vals[k]?=some u->W.cell? (aq g (i * 3+k))=some u:=fun k hk u hu=>by
  have:=h.cells (g:=g) rfl _ _ ((jtt hi k hk).trans hu)
  rwa [Addr.add_lit,Nat.zero_add] at this
 exact ⟨c 0 (by omega) _ rfl,c 1 (by omega) _ rfl,c 2 (by omega) _ rfl⟩
theorem joy (L:Nat) (kl:List Kn):Keeps (jho L kl):=by
 refine ⟨fun {W o} h k hk=>?_,fun {W W' o} h hz hk=>?_⟩
 ·obtain ⟨a,c,h1,h2,h3⟩:=h
  rcases (h3 k).1 hk with e|e
  ·rw [e];exact (blt h1)
  ·rcases h2.2 with ⟨hv,_⟩|⟨b,cap,cur,hv,_,hh,_⟩
   ·rw [hv] at e;simp [Value.ownBlock] at e
   ·rw [hv] at e
    simp only [Value.ownBlock,Option.some.injEq] at e
    rw [← e];exact (blt hh)
 ·obtain ⟨a,c,h1,h2,h3⟩:=h
  exact ⟨a,c,(hk L ((h3 L).2 (.inl rfl))).trans h1,jad h2 (fun k e=>hk k ((h3 k).2 (.inr e))),h3⟩
theorem jw6 {W:World} {L n:Nat} {v x:Value} {E:List Value} (hL:W.heap[L]?=some (.cells #[x] 39 (0,0))) (h:W.ownsRow 0 85 3 v n E):v.ownBlock≠some L:=by
 intro e
 rcases h.2 with ⟨hv,_⟩|⟨b,cap,cur,hv,_,hh,_⟩
 ·rw [hv] at e;simp [Value.ownBlock] at e
 ·rw [hv] at e
  simp only [Value.ownBlock,Option.some.injEq] at e
  rw [e,hL] at hh
  simp at hh
theorem qdq {L:Nat} {kl:List Kn} {p:Stp} {r:Rep} {W:World} {o:Nat->Prop} (h:jho L kl W o) (hn:kl.length<=4294967296) (hk:jg9 kl p r) :
 Calls Tryz.prog 16 #[pt L 0,.agg #[iv p.k,iv p.t,iv p.c,iv p.u,iv p.o],.agg #[iv r.kind,iv r.order,iv r.cents,iv r.upto]] W fun e w'=>e=.returned (.bool true)/\jap (jho L (jc0 kl p r)) W w' o:=by
 have KL:=joy L kl
 have hlt:=KL.lt h
 have hh:=h
 obtain ⟨a,c,h1,h2,h3⟩:=h
 have hL:L<W.heap.size:=(blt h1)
 have cL:W.cell? (aq L 0)=some (.slice a kl.length c):=by rw [Joins.cell_of_block h1];rfl
 have hap:=jw6 h1 h2
 have stay:∀ {w':World},Below W.heap.size W w'->jap (jho L kl) W w' o:=fun hb=>⟨o,KL.keep hh hb.size (fun k e=>hb.block k (hlt k e)),Same.of_below hb,fun k e=>.inl e⟩
 have jc8:∀ i,i<kl.length->∃ g cur,a=some (aq g 0)/\W.heap[g]?=some (.cells cur 85 (0,0))/\cur.toList.take (kl.length * 3)=jgk kl/\cur.size=c * 3/\kl.length<=c/\c<=maxLen:=fun i hi=>by
  rcases h2.2 with ⟨_,h0⟩|⟨g,cap,cur,hv,_,hg,x1,x2,x3,x4⟩
  ·omega
  ·simp only [Value.slice.injEq] at hv
   obtain ⟨e1,_,e3⟩:=hv
   exact ⟨g,cur,e1,hg,x4,by rw [e3];exact x3,by omega,by omega⟩
 by_cases hkk:p.k=1/\(r.kind=2\/r.kind=3)
 ·rcases hk.1 hkk.1 hkk.2 with ho|⟨o1,o2,o3,o4⟩
  ·have e1:jc0 kl p r=kl++[⟨p.c,p.u,false⟩]:=by unfold jc0;rw [if_pos hkk,if_pos ho]
   rw [e1,hkk.1,ho]
   refine (jya L kl.length c a (jgk kl) p.t p.c p.u p.o r.kind r.cents r.upto W h1 h2 hap hn hkk.2).mono ?_
   rintro e w' ⟨rfl,g,cap,k1,k2,k3,k4⟩
   refine ⟨rfl,fun k=>k=L\/Value.ownBlock (.slice (some (aq g 0)) (kl.length+1) cap)=some k,⟨some (aq g 0),cap,by simpa using k1,by rw [jw2];simpa [Kn.vals] using k2,fun k=>by simp⟩,⟨k3.os,k3.tape,k3.output,k3.size,fun k hk hn=>k3.block k hk (fun e=>hn ((h3 k).2 e))⟩,fun k e=>?_⟩
   rcases e with e|e
   ·exact .inl ((h3 k).2 (.inl e))
   ·simp only [Value.ownBlock,Option.some.injEq] at e
    rw [← e]
    exact k4.imp (fun d=>(h3 g).2 (.inr d)) id
  ·have e1:jc0 kl p r=kl:=by unfold jc0;rw [if_pos hkk,if_neg (by omega)]
   rw [e1]
   obtain ⟨g,cur,e2,hg,_⟩:=jc8 (r.order - 1).toNat (by omega)
   subst e2
   obtain ⟨c0,c1,_⟩:=jmc h2 (i:=(r.order - 1).toNat) (by omega)
   rw [o3] at c0
   rw [o4] at c1
   refine (jme L kl.length c _ p.k p.t p.c p.u p.o r.kind r.order r.cents r.upto W hL cL hn (by omega) (.inr ⟨hkk.1,hkk.2,(r.order - 1).toNat,g,by omega,by omega,rfl,(blt hg),c0,c1⟩)).mono ?_
   rintro e w' ⟨rfl,hb⟩
   exact ⟨rfl,stay hb⟩
 ·by_cases h7:r.kind=7
  ·obtain ⟨o1,o2,o3⟩:=hk.2 h7
   have e1:jc0 kl p r=kl.set (r.order - 1).toNat { kl.getD (r.order - 1).toNat kn0 with paid:=true }:=by unfold jc0;rw [if_neg hkk,if_pos h7]
   rw [e1]
   generalize hi:(r.order - 1).toNat=i at o3
   have hin:i<kl.length:=by omega
   have hr:r.order=(i:Int)+1:=by omega
   obtain ⟨g,cur,e2,hg,x1,x2,x3,x4⟩:=jc8 i hin
   subst e2
   obtain ⟨c0,_,c2⟩:=jmc h2 hin
   rw [o3] at c0
   rw [h7,hr]
   refine (jwn L kl.length c g i cur p.k p.t p.c p.u p.o r.cents r.upto _ W hL cL hn hin hg c0 c2).mono ?_
   rintro e w' ⟨rfl,k1,k2⟩
   have hgL:L≠g:=fun e=>hap (by rw [e];rfl)
   have hlen:(kl.set i { kl.getD i kn0 with paid:=true }).length=kl.length:=List.length_set
   refine ⟨rfl,o,⟨some (aq g 0),c,by rw [hlen];exact (k2.block L hL hgL).trans h1,?_,by rw [hlen];exact h3⟩,⟨k2.os,k2.tape,k2.output,k2.size,fun k hk hn=>k2.block k hk (fun e=>hn ((h3 k).2 (.inr (by rw [e];rfl))))⟩,fun k e=>.inl e⟩
   rw [hlen]
   refine ⟨by rw [jyo,hlen],.inr ⟨g,c,_,rfl,Nat.zero_le _,k1,x3,x4,by simp [x2],?_⟩⟩
   rw [Array.toList_setIfInBounds,List.take_set,x1]
   exact jnz kl i hin
  ·have e1:jc0 kl p r=kl:=by unfold jc0;rw [if_neg hkk,if_neg h7]
   rw [e1]
   refine (jme L kl.length c a p.k p.t p.c p.u p.o r.kind r.order r.cents r.upto W hL cL hn h7 (.inl hkk)).mono ?_
   rintro e w' ⟨rfl,hb⟩
   exact ⟨rfl,stay hb⟩
section
section
variable {w:World} {x:Nat} {own:Nat->Prop} {S:Sal}
theorem jxu (h:PSK w x own S):Calls Tryz.prog 19 #[pt x 0] w fun e w'=>e=.returned (iv S.now)/\jap (jm6 x S) w w' own:=by
 refine (tickW.clock h.ps h.J).mono ?_
 rintro e w' ⟨rfl,hq⟩
 exact ⟨rfl,jb7 (P:=fun W o=>PSW W x o S) hq (fun W o hp=>⟨hp,h.J,h.I⟩)⟩
theorem jze (h:PSK w x own S):Calls Tryz.prog 29 #[pt x 0] w fun e w'=>e=.returned (.agg #[iv S.free,iv (ja4 S.os 13 0),iv (ja4 S.os 14 0),iv (ja5 S.os).length,iv S.answers])/\jap (jm6 x S) w w' own:=by
 refine (bookW.books h.ps h.J).mono ?_
 rintro e w' ⟨rfl,hq⟩
 exact ⟨rfl,jb7 (P:=fun W o=>PSW W x o S) hq (fun W o hp=>⟨hp,h.J,h.I⟩)⟩
theorem jy5 (h:PSK w x own S) (c:Int):Calls Tryz.prog 31 #[pt x 0,iv c] w fun e w'=>e=.returned (.tuple #[.agg #[iv (S.acc c).1,iv (S.acc c).2.1,iv (S.acc c).2.2.1],iv (S.acc c).2.2.2])/\jap (jm6 x S) w w' own:=by
 refine (bookW.account c h.ps h.J).mono ?_
 rintro e w' ⟨rfl,hq⟩
 exact ⟨rfl,jb7 (P:=fun W o=>PSW W x o S) hq (fun W o hp=>⟨hp,h.J,h.I⟩)⟩
end
def jro (S0:Sal) (ps:List Stp):Nat->Sal
 | 0=>S0
 | j+1=>((jro S0 ps j).does (ps.getD j jaq)).2
end
section
def jlj (x L:Nat) (S:Sal) (kl:List Kn) (W:World) (o:Nat->Prop):Prop:=jty (jm6 x S) (jho L kl) W o
theorem jil (x L:Nat) (S:Sal) (kl:List Kn):Keeps (jlj x L S kl):=qbk (jed x S) (joy L kl)
section
variable {x L:Nat} {S:Sal} {kl:List Kn}
theorem onS {S':Sal} {f:FuncId} {args:Array Value} {v:Value} (h:∀ W o,jm6 x S W o->Calls Tryz.prog f args W fun e w'=>e=.returned v/\jap (jm6 x S') W w' o) (W:World) (o:Nat->Prop) (hp:jlj x L S kl W o):Calls Tryz.prog f args W fun e w'=>e=.returned v/\jap (jlj x L S' kl) W w' o:=jgq (joy L kl) h W o hp
theorem onL {kl':List Kn} {f:FuncId} {args:Array Value} {v:Value} (h:∀ W o,jho L kl W o->Calls Tryz.prog f args W fun e w'=>e=.returned v/\jap (jho L kl') W w' o) (W:World) (o:Nat->Prop) (hp:jlj x L S kl W o):Calls Tryz.prog f args W fun e w'=>e=.returned v/\jap (jlj x L S kl') W w' o:=jjs (jed x S) h W o hp
theorem jji {W:World} {o:Nat->Prop} (h:jho L kl W o):∃ a c,L<W.heap.size/\W.cell? (aq L 0)=some (.slice a kl.length c)/\∀ j,j<kl.length->∃ b,a=some (aq b 0)/\b<W.heap.size/\W.cell? (aq b (j * 3))=some (iv (kl.getD j kn0).cust)/\W.cell? (aq b (j * 3+1))=some (iv (kl.getD j kn0).units)/\W.cell? (aq b (j * 3+2))=some (.bool (kl.getD j kn0).paid):=by
 obtain ⟨a,c,h1,h2,h3⟩:=h
 refine ⟨a,c,(blt h1),by rw [Joins.cell_of_block h1];rfl,fun j hj=>?_⟩
 rcases h2.2 with ⟨_,h0⟩|⟨g,cap,cur,hv,_,hg,_⟩
 ·omega
 ·have e1:a=some (aq g 0):=by simp only [Value.slice.injEq] at hv;exact hv.1
  subst e1
  obtain ⟨c0,c1,c2⟩:=jmc h2 hj
  exact ⟨g,rfl,(blt hg),c0,c1,c2⟩
end
end
section
def sdP (x L:Nat) (S:Sal) (kl:List Kn) (W:World) (o:Nat->Prop):Prop:=jlj x L S kl W o/\kInv S kl
def sdQ (x L:Nat) (S:Sal) (kl:List Kn) (p:Stp) (r:Rep) (W:World) (o:Nat->Prop):Prop:=jlj x L S kl W o/\kInv S (jc0 kl p r)/\jg9 kl p r/\kl.length<=4294967296
theorem jml (x L:Nat) (S:Sal) (kl:List Kn):Keeps (sdP x L S kl):=⟨fun h=>(jil x L S kl).lt h.1,fun h hz hk=>⟨(jil x L S kl).keep h.1 hz hk,h.2⟩⟩
theorem qdv (x L:Nat) (S:Sal) (kl:List Kn) (p:Stp) (r:Rep):Keeps (sdQ x L S kl p r):=⟨fun h=>(jil x L S kl).lt h.1,fun h hz hk=>⟨(jil x L S kl).keep h.1 hz hk,h.2⟩⟩
section
variable {x L:Nat} {S:Sal} {kl:List Kn} {W:World} {o:Nat->Prop}
theorem qdm (h:sdP x L S kl W o) (p:Stp) (hf:p.fine) :
 Calls Tryz.prog 15 #[pt x 0,p.val] W fun e w'=>e=.returned (.tuple #[(S.does p).1.val,.bool true])/\jap (sdQ x L (S.does p).2 kl p (S.does p).1) W w' o:=by
 obtain ⟨hs,hI⟩:=h
 obtain ⟨o1,o2,a1,a2,a3,a4⟩:=id hs
 obtain ⟨k1,k2⟩:=jut hI a1.J.I.now a1.I.os p
 have hl:kl.length<=4294967296:=by rw [hI.kn.len];exact a1.J.len
 refine (onS (fun W o hq=>jpf hq p hf) W o hs).mono ?_
 rintro e w' ⟨rfl,hq⟩
 exact ⟨rfl,jb7 hq (fun _ _ h=>⟨h,k1,k2,hl⟩)⟩
theorem qbr {p:Stp} {r:Rep} (h:sdQ x L S kl p r W o) :
 Calls Tryz.prog 16 #[pt L 0,.agg #[iv p.k,iv p.t,iv p.c,iv p.u,iv p.o],.agg #[iv r.kind,iv r.order,iv r.cents,iv r.upto]] W fun e w'=>e=.returned (.bool true)/\jap (sdP x L S (jc0 kl p r)) W w' o:=by
 obtain ⟨hs,k1,k2,k3⟩:=h
 refine (onL (fun W o hq=>qdq hq k3 k2) W o hs).mono ?_
 rintro e w' ⟨rfl,hq⟩
 exact ⟨rfl,jb7 hq (fun _ _ h=>⟨h,k1⟩)⟩
end
theorem jvn {S:Sal} (h1:S.os=[]) (h2:S.ansL=[]) (hc:0<=S.C.cap) (hq:0<=S.C.queue) (ht:0<=S.C.tokens):kInv S []:=by
 refine ⟨⟨by rw [h1];rfl,fun i hi=>by rw [h1] at hi;simp at hi⟩,fun a ha=>by rw [h2] at ha;simp at ha,fun c _=>by rw [h1];exact hc,by rw [h1];exact hq,?_,fun i hi=>by rw [h1] at hi;simp at hi⟩
 unfold Sal.answers
 rw [h2]
 exact ht
theorem jwt {W:World} {L:Nat} (h:W.heap[L]?=some (.cells #[.slice none 0 0] 39 (0,0))):jho L [] W (fun k=>k=L) :=
 ⟨none,0,h,⟨rfl,.inl ⟨rfl,rfl⟩⟩,fun k=>by simp [Value.ownBlock]⟩
end
section
open Go.ChangeShapes Go.WideShapes Go.ChangeAt Go.RowKit
def klS (S0:Sal) (ps:List Stp):Nat->List Kn
 | 0=>[]
 | j+1=>jc0 (klS S0 ps j) (ps.getD j jaq) ((jro S0 ps j).does (ps.getD j jaq)).1
theorem qgc (S:Sal) (p:Stp):(S.does p).2.C=S.C:=by
 unfold Sal.does
 split
 ·split
  ·exact (jfu S p.n).1
  ·unfold Sal.sendK
   split
   ·exact (jlh S _ _ _).1
   ·rfl
 ·rfl
theorem jx2 (S0:Sal) (ps:List Stp):∀ j,(jro S0 ps j).C=S0.C
 | 0=>rfl
 | j+1=>(qgc _ _).trans (jx2 S0 ps j)
end
section
def fcP (x L:Nat) (S:Sal) (kl:List Kn) (ps:List Stp) (j:Nat) (W:World) (o:Nat->Prop):Prop:=sdP x L S kl W o/\jeq S.os/\qfm S ps j
theorem qg9 (x L:Nat) (S:Sal) (kl:List Kn) (ps:List Stp) (j:Nat):Keeps (fcP x L S kl ps j):=⟨fun h=>(jml x L S kl).lt h.1,fun h hz hk=>⟨(jml x L S kl).keep h.1 hz hk,h.2⟩⟩
section
variable {x L:Nat} {S:Sal} {kl:List Kn}
theorem jmh {f:FuncId} {args:Array Value} {v:Value} (h:∀ W o,jm6 x S W o->Calls Tryz.prog f args W fun e w'=>e=.returned v/\jap (jm6 x S) W w' o) (W:World) (o:Nat->Prop) (hp:sdP x L S kl W o):Calls Tryz.prog f args W fun e w'=>e=.returned v/\jap (sdP x L S kl) W w' o:=by
 refine (onS h W o hp.1).mono ?_
 rintro e w' ⟨rfl,hq⟩
 exact ⟨rfl,jb7 hq (fun _ _ h'=>⟨h',hp.2⟩)⟩
theorem jts {w W:World} {own loc:Nat->Prop} (h:ja7 (sdP x L S kl) w own loc W):(∃ o,jho L kl W o)/\salJ S/\kInv S kl:=by
 obtain ⟨o1,⟨⟨_,o2,a1,a2,_⟩,hI⟩,_⟩:=h
 exact ⟨⟨o2,a2⟩,a1.J,hI⟩
theorem qat (W:World) (o:Nat->Prop) (h:sdP x L S kl W o) (hline:jeq S.os) :
 Calls Tryz.prog 18 #[pt L 0,pt x 0] W fun e w'=>e=.returned (.bool true)/\jap (sdP x L S kl) W w' o:=by
 have K:=jml x L S kl
 have hw:=K.lt h
 have hI:=h.2
 have hlen:=hI.kn.len
 obtain ⟨o1,o2,a1,a2,a3,a4⟩:=id h.1
 have hJ:=a1.J
 have hR:restS S:=a1.ps.2.R
 have hz:=hJ.len
 refine jtk L x S.os.length W o (sdP x L S kl) K h (fun j=>kl.getD j kn0) (fun j=>S.pollK (kl.getD j kn0).cust ((j:Int)+1)) (jrb S.os) S.free (ja4 S.os 13 0) (ja4 S.os 14 0) (ja5 S.os).length S.answers rfl hz ?_ ?_ ?_ ?_
 ·intro j hj
  obtain ⟨t1,t2,t3⟩:=jzb hI hz hR hline hj
  refine ⟨t1,?_,fun e=>t3 (t2.1 e)⟩
  show (jrb S.os j || decide _)=_
  congr 1
  exact decide_eq_decide.2 t2.symm
 ·intro loc W' hT
  obtain ⟨⟨o',hl⟩,_⟩:=jts hT
  rw [← hlen]
  exact jji hl
 ·exact fun loc W' hT=>ja6 hw (jmh (fun W o hp=>jze hp)) W' hT
 ·intro j hj loc W' hT
  have hcu:=hI.cu j hj
  rw [← (hI.kn.at' j hj).1] at hcu
  unfold jbn at hcu
  simp only [Bool.and_eq_true,decide_eq_true_eq] at hcu
  exact ja6 hw (jmh (fun W o hp=>jph hp _ _ ⟨by omega,by omega⟩ ⟨by omega,by omega⟩)) W' hT
def qfi (sa ap:Option Addr) (n lp cp:Nat) (ps:List Stp) (ts:List (Int × Int)) (W:World):Prop:=stepsAt W sa n ps/\tiersAt W ap lp cp ts
theorem jw7 {S:Sal} {c o:Int} (hJ:salJ S) (hc:jbn c=true) (ho:jbn o=true):(S.pollK c o).kind=13->0<=(S.pollK c o).cents/\(S.pollK c o).cents<=1073741824:=by
 rw [jpn hc ho]
 unfold Sal.poll
 have ho1:1<=o:=by unfold jbn at ho;simp at ho;omega
 dsimp only
 cases hf:jfo S.os c o with
 | none=>simp
 | some i =>
   obtain ⟨hi,_,_⟩:=jas ho1 hf
   have:=(hJ.I.ords _ (jal hi)).1
   dsimp only
   generalize S.os.getD i ja3=q at *
   split
   ·simp
   split
   ·intro _;exact this
   split
   ·simp
   split
   ·simp
   ·next h13 _ _=>intro e;exact absurd e h13
theorem qep {sa ap:Option Addr} {n sc lp cp j:Nat} {ps:List Stp} (hn:n<=4611686018427387904) (hj:j<n) (hf:(ps.getD j jaq).fine) (W:World) (o:Nat->Prop) (h:fcP x L S kl ps j W o) (hR:∀ W',Same o W W'->qfi sa ap n lp cp ps S.C.prices W') :
 Calls Tryz.prog 17 #[.agg #[iv S.C.stock,iv S.C.cap,iv S.C.queue,iv S.C.lease,iv S.C.wait,iv S.C.keep,iv S.C.tokens,.slice ap lp cp,.slice sa n sc],pt x 0,pt L 0,iv j] W fun e w'=>e=.returned (.bool true)/\jap (fcP x L (S.does (ps.getD j jaq)).2 (jc0 kl (ps.getD j jaq) (S.does (ps.getD j jaq)).1) ps (j+1)) W w' o:=by
 obtain ⟨hs,hline,htok⟩:=h
 have K:=jml x L S kl
 have hw:=K.lt hs
 have hI:=hs.2
 have hlen:=hI.kn.len
 obtain ⟨o1,o2,a1,a2,a3,a4⟩:=id hs.1
 have hJ:=a1.J
 have hRS:restS S:=a1.ps.2.R
 have hO:∀ o∈S.os,jkz o:=a1.I.os
 have hu:∀ o∈S.os,0<=o.units:=fun o ho=>by have:=(hO o ho).1;omega
 have hst:=hJ.I.stock
 have hcf:=hJ.I.cfg
 have hcp:=hJ.cap
 have p13:=jcd 13 0 hu
 have p14:=jcd 14 0 hu
 have hline':=jxq hline hRS hJ.I.now (ps.getD j jaq)
 have htok':=qck htok
 have hfr:∀ m:Nat,((List.range j).all (fun k=>(ps.getD k jaq).t != (ps.getD j jaq).t)=true↔∀ k,k<j->(ps.getD k jaq).t≠(ps.getD j jaq).t):=fun _=>by simp
 have hnew:(ps.getD j jaq).ok=true->(ps.getD j jaq).k≠4->(List.range j).all (fun k=>(ps.getD k jaq).t != (ps.getD j jaq).t)=true->(S.does (ps.getD j jaq)).1=if (S.answers:Int)=S.C.tokens then ⟨11,0,0,0⟩ else (S.doS (ps.getD j jaq).req).1:=fun h1 h2 h3=>qc8 h1 h2 (jur htok ((hfr 0).1 h3))
 obtain ⟨f1,f2,f3,f4,f5,f6⟩:=hf
 refine (jvk x L n S.os.length j S.C.stock S.C.cap S.C.queue S.C.lease S.C.wait S.C.keep S.C.tokens (.slice ap lp cp) sa sc ps W o (sdP x L S kl) (sdQ x L (S.does (ps.getD j jaq)).2 kl (ps.getD j jaq) (S.does (ps.getD j jaq)).1) (sdP x L (S.does (ps.getD j jaq)).2 (jc0 kl (ps.getD j jaq) (S.does (ps.getD j jaq)).1)) K (qdv ..) (jml ..) hs S.free (ja4 S.os 13 0) (ja4 S.os 14 0) (ja5 S.os).length S.answers (S.acc (ps.getD j jaq).c).1 (S.acc (ps.getD j jaq).c).2.1 (S.acc (ps.getD j jaq).c).2.2.1 (S.acc (ps.getD j jaq).c).2.2.2 (S.pollK (ps.getD j jaq).c (ps.getD j jaq).o) (S.does (ps.getD j jaq)).1 (ps.getD j jaq).ok ((List.range j).all (fun k=>(ps.getD k jaq).t != (ps.getD j jaq).t)) (jcn (ps.getD j jaq).k (ps.getD j jaq).t) (jcs (ps.getD j jaq).k (ps.getD j jaq).u) (jcg (ps.getD j jaq).k (ps.getD j jaq).o) hj (fun W' hs=>(hR W' hs).1) ?_ ?_ ?_ ?_ ?_ ?_ ?_ ?_ ?_ ?_ ?_ ?_ ?_).mono ?_
 ·obtain ⟨a,c,q1,q2,_⟩:=jji a2
  rw [hlen] at q2
  exact ⟨a,c,q1,q2⟩
 ·exact fun loc W' hT=>ja6 hw (jmh (fun W o hp=>jze hp)) W' hT
 ·exact fun loc W' hT=>ja6 hw (jmh (fun W o hp=>jy5 hp _)) W' hT
 ·exact fun loc W' hT=>ja6 hw (jmh (fun W o hp=>jph hp _ _ f4 f6)) W' hT
 ·exact fun loc W' hT=>ja6 hw (fun W o hp=>qdm hp (ps.getD j jaq) ⟨f1,f2,f3,f4,f5,f6⟩) W' hT
 ·exact fun loc W' hT=>ja6 hw (fun W o hp=>qbr hp) W' hT
 ·exact fun W'=>jhg _ _ _ _ _ W'
 ·exact fun W'=>jy4 _ _ _ _ _ W'
 ·exact fun W' hs=>qev n j _ _ _ _ _ _ _ _ sa sc ps W' hn hj (hR W' hs).1 _ (hfr 0)
 ·intro h1 h2 h3 h4
  rw [hnew h1 h2 h3,if_pos h4]
 ·intro h1 h2 h3 h4 h5 loc W' hT
  obtain ⟨⟨o',hl⟩,hJ',hI'⟩:=jts hT
  obtain ⟨n1,_,n2⟩:=jg0 h1
  obtain ⟨d1,d2⟩:=qbe hI h1 h2 h5
  have e:(S.does (ps.getD j jaq)).1=(S.doS (ps.getD j jaq).req).1:=by rw [hnew h1 h2 h3,if_neg h4]
  have hz:=hJ'.len
  have hl':=hI'.kn.len
  refine (qe2 L _ (ps.getD j jaq).k (ps.getD j jaq).t (ps.getD j jaq).c (ps.getD j jaq).u (ps.getD j jaq).o (S.pollK (ps.getD j jaq).c (ps.getD j jaq).o) W' (jji hl) (by omega) d2 (jw7 hJ n1 (n2 h5)) (fun k hk=>?_)).mono ?_
  ·rw [(hI'.kn.at' k (by omega)).2.1]
   have:=hJ'.I.units _ (jal (show k<_ by omega))
   omega
  ·rintro e' w' ⟨rfl,hb⟩
   refine ⟨?_,hb⟩
   rw [e,← d1]
 ·intro h1 h2 h3 h4 h5 W'
  obtain ⟨n1,nu,_⟩:=jg0 h1
  have hcu0:(ps.getD j jaq).c≠0:=fun c=>by rw [c] at n1;exact absurd n1 (by decide)
  have hc:=hI.cap _ hcu0
  have hd:jun S.os (ps.getD j jaq).c=ja4 S.os 12 (ps.getD j jaq).c+ja4 S.os 13 (ps.getD j jaq).c+ja4 S.os 14 (ps.getD j jaq).c:=rfl
  have x1:=jcd 12 (ps.getD j jaq).c hu
  have x2:=jcd 13 (ps.getD j jaq).c hu
  have x3:=jcd 14 (ps.getD j jaq).c hu
  have ha:S.acc (ps.getD j jaq).c=(ja4 S.os 13 (ps.getD j jaq).c,ja4 S.os 14 (ps.getD j jaq).c,ja4 S.os 12 (ps.getD j jaq).c,0):=by unfold Sal.acc;rw [if_pos n1];rfl
  have hnu:=nu h5
  unfold jbn at hnu
  simp only [Bool.and_eq_true,decide_eq_true_eq] at hnu
  obtain ⟨w1,_⟩:=jry (S:=S) h1 h5
  have e:(S.does (ps.getD j jaq)).1=(S.doS (ps.getD j jaq).req).1:=by rw [hnew h1 h2 h3,if_neg h4]
  refine (jq5 S.C.stock S.C.cap S.C.queue _ _ _ _ _ _ _ _ _ _ _ S.free (ja4 S.os 13 0) (ja4 S.os 14 0) (ja5 S.os).length S.answers (S.acc (ps.getD j jaq).c).1 (S.acc (ps.getD j jaq).c).2.1 (S.acc (ps.getD j jaq).c).2.2.1 S.os.length W' (by rw [ha];dsimp only;omega) (by rw [ha];dsimp only;omega) (by rw [ha];dsimp only;omega) (by omega) (by omega) (by omega)).mono ?_
  rintro e' w' ⟨rfl,hb⟩
  refine ⟨?_,hb⟩
  rw [e,w1]
 ·intro h1 h2 h3 h4 h5 h6 W' hs
  obtain ⟨_,w2⟩:=jry (S:=S) h1 h5
  have e:(S.does (ps.getD j jaq)).1=(S.doS (ps.getD j jaq).req).1:=by rw [hnew h1 h2 h3,if_neg h4]
  rw [e] at h6 ⊢
  rw [w2 h6]
  exact qd3 _ _ _ _ _ _ _ _ ap lp cp S.C.prices (ja4 S.os 14 0) W' (hR W' hs).2
 ·rintro e w' ⟨rfl,hq⟩
  exact ⟨rfl,jb7 hq (fun _ _ h'=>⟨h',hline',htok'⟩)⟩
end
theorem jn7 (n0 n1 n2 n3 n4 n5 n6:Int) (a:Option Addr) (len cap:Nat) (ts:List (Int × Int)) (sa:Option Addr) (sl sc:Nat) (ps:List Stp) (w:World) (ht:tiersAt w a len cap ts) (hps:stepsAt w sa sl ps) (hfine:∀ p∈ps,p.fine) (hl:sl * 48<=140737488351232) :
 Calls Tryz.prog 10 #[.agg #[iv n0,iv n1,iv n2,iv n3,iv n4,iv n5,iv n6,.slice a len cap,.slice sa sl sc]] w fun e w'=>e=.returned (.bool true)/\Below w.heap.size w w':=by
 cases hc:jh2 [n0,n1,n2,n3,n4,n5,n6] ts
 ·refine qc5 _ _ _ _ _ _ _ _ sa sl sc w (fun W hW=>?_)
  refine (jlc (sa:=sa) (sl:=sl) (sc:=sc) (ht.below hW (Nat.le_refl _))).mono ?_
  rintro e w' (⟨_,rfl,hb⟩|⟨hc',_⟩)
  ·exact ⟨rfl,hb⟩
  ·rw [hc] at hc';cases hc'
 ·have hfj:∀ j,j<sl->(ps.getD j jaq).fine:=fun j hj=>by
   have hj':j<ps.length:=by rw [hps.1];exact hj
   refine hfine _ ?_
   simp [List.getD,List.getElem?_eq_getElem hj']
  have hcc:=hc
  unfold jh2 at hcc
  simp only [List.all_cons,List.all_nil,Bool.and_true,Bool.and_eq_true] at hcc
  obtain ⟨⟨_,g1,g2,_,_,_,g6⟩,_⟩:=hcc
  have pos:∀ n:Int,jbn n=true->0<=n:=fun n h=>by unfold jbn at h;simp at h;omega
  have hstart:kInv (jht ⟨n0,n1,n2,n3,n4,n5,n6,ts⟩) []:=jvn rfl rfl (pos n1 g1) (pos n2 g2) (pos n6 g6)
  refine juw sl _ _ _ _ _ _ _ _ sa sc w (fun x=>jm6 x (jht ⟨n0,n1,n2,n3,n4,n5,n6,ts⟩)) (fun x=>jed x _) (fun a b j=>fcP a b (jro (jht ⟨n0,n1,n2,n3,n4,n5,n6,ts⟩) ps j) (klS (jht ⟨n0,n1,n2,n3,n4,n5,n6,ts⟩) ps j) ps j) (fun _ _ _=>qg9 _ _ _ _ _ _) (qfi sa a sl len cap ps ts) (by omega) (fun W hW=>⟨hps.below hW,ht.below hW (Nat.le_refl _)⟩) ?_ ?_ ?_ ?_
  ·intro W hW
   refine (jlc (sa:=sa) (sl:=sl) (sc:=sc) (ht.below hW (Nat.le_refl _))).mono ?_
   rintro e w' (⟨hc',_⟩|⟨_,h⟩)
   ·rw [hc] at hc';cases hc'
   ·exact h
  ·intro a L W o1 o h1 h2 h3 h4
   exact ⟨⟨⟨o1,fun k=>k=L,h1,jwt h2,fun k e c=>h3 k e c,h4⟩,hstart⟩,fun i j _ hj=>by simp [jro,jht] at hj,fun a ha=>by simp [jro,jht] at ha⟩
  ·intro xa xb j hj W o hp hR
   have hC:=jx2 (jht ⟨n0,n1,n2,n3,n4,n5,n6,ts⟩) ps j
   have:=qep (sc:=sc) (by omega) hj (hfj j hj) W o hp (by rw [hC];exact hR)
   rw [hC] at this
   exact this
  ·intro a b j hj W o hp
   refine (qat W o hp.1 hp.2.1).mono ?_
   rintro e w' ⟨rfl,hq⟩
   exact ⟨rfl,jb7 hq (fun _ _ h'=>⟨h',hp.2⟩)⟩
end
section
open Go.ChangeShapes Go.WideShapes Go.ChangeAt Go.RowKit
theorem jl0 (os:Os) (started:os.Started) (H:Type) (enc:TypeId × Value->H) :
 ReturnsInHanded {} Tryz.checked os 10 .any (Rows.firstComeSpec.pre6 enc Tryz.prog Tryz.f10 Rows.firstComeRow.domain false) (Rows.firstComeSpec.post enc Tryz.prog Tryz.f10 false true false false):=by
 refine returnsInHanded_of_change_sized (C:=Tryz.checked) own started (by kernel_rfl) Tryz.func10
  (ChangeSpec.witness6 (enc:=enc) (C:=Tryz.checked) false ⟨#[],#[.agg #[iv 0,iv 0,iv 0,iv 0,iv 0,iv 0,iv 0,.slice none 0 0,.slice none 0 0]],[]⟩ 8 (by kernel_rfl) (by kernel_rfl) (by kernel_rfl) (by kernel_rfl)) ?_
 intro W base args ds gs before hval0 hW hcnd hsz0 _
 have hval:∀ (j:Nat) t v,Tryz.f10.params[j]?=some t->args[j]?=some v->Value.okWide Tryz.prog W .any base t v:=hval0
 have hsz:(DataW.weightsEach Tryz.prog (Tryz.f10.params.toList++Rows.firstComeSpec.plain.varTypes Tryz.prog) (ds++gs)).all (·<=reachBytes)=true:=hsz0
 have hW':=hW
 obtain ⟨p,q,hA0,hV,rfl,hfz,hnd⟩:=hW
 have hA:DataW.TrodAll enc Tryz.prog W 0 (fun _=>true) true Tryz.f10.params.toList args.toList ds p:=hA0
 rw [Tryz.params10] at hA hval hsz
 obtain ⟨v0,vs0,d0,ds0,p0,q0,hargs,rfl,rfl,h0,r0⟩:=trodAll_cons hA
 obtain ⟨rfl,rfl,rfl⟩:=trodAll_nil r0
 obtain rfl:args=#[v0]:=by cases args;simp_all
 obtain ⟨rfl,rfl⟩:=trodVars_none hV
 have k0:=h0
 have lt0:∀ x∈p0,x.block<W.heap.size:=by obtain ⟨m,hm⟩:=k0;exact DataW.trod_lt m _ _ _ hm
 have w0:wOK 32 d0:=fun x hx=>by simpa using List.all_eq_true.1 hsz x (DataW.weights_mem_each (j:=0) rfl rfl x hx)
 obtain ⟨n0,n1,n2,n3,n4,n5,n6,a,len,cap,ts,sa,sl,sc,ps,rfl,ht,hps,hfine,hl⟩:=jrn (hval 0 32 v0 rfl rfl) h0 w0
 clear hA0 hval0
 refine (jn7 n0 n1 n2 n3 n4 n5 n6 a len cap ts sa sl sc ps  W ht hps hfine hl).mono fun e W' ⟨he,bel⟩=>?_
 subst he
 exact ⟨_,rfl,_,_,_,[],_,[],hW',trodAll_mk1 (shut_bool Tryz.underlying4 _),(trodAll_cons_mk (Below.trod jz6 (by kernel_rfl) (of_decide_eq_true (by kernel_rfl)) k0 bel lt0) trodAll_mk0),rfl,bel.frame _,fun h=>by cases h⟩
theorem firstCome_holds:Rows.FirstComeSaid :=
 OpenClaim.holds_of_wide 10 Tryz.f10 rfl rfl rfl rfl rfl rfl rfl ⟨rfl,rfl,rfl,rfl,rfl⟩ rfl rfl rfl rfl rfl (by kernel_rfl) Tryz.func10 (by kernel_rfl)
  (of_decide_eq_true (by kernel_rfl)) (by unfold Func.isWrapper;first|(rw [if_pos (by decide +kernel)];kernel_rfl)|(rw [if_neg (by decide +kernel)];exact ⟨rfl,rfl⟩))
  (fun os started H enc _=>jl0 os started H enc)
end
def goD (S S':Sal) (r:Rep) (j:Nat) (o o':Ord):Prop:=o'.cust=o.cust/\o'.units=o.units ∧
 (o'=o
 ∨ (o.state=12/\o'.state=13/\o'.upto<=S'.now+S.C.lease)
 ∨ (o.state=12/\o'.state=15/\r.kind=0/\S.now+S.C.lease<S'.now/\S.now<=o'.ended/\o'.ended<=S'.now)
 ∨ (o.state=12/\o'.state=17/\r.kind=0/\o.upto<=S'.now/\S.now<=o'.ended/\o'.ended<=S'.now)
 ∨ (o.state=13/\o'.state=15/\r.kind=0/\o.upto<=S'.now/\S.now<=o'.ended/\o'.ended<=S'.now)
 ∨ (o.state=13/\o'.state=14/\o'.cents=o.cents/\r.kind=7/\r.order=(j:Int)+1/\S.now<=o'.ended/\o'.ended<=S'.now)
 ∨ ((o.state=12\/o.state=13)/\o'.state=16/\r.kind=8/\r.order=(j:Int)+1/\S.now<=o'.ended/\o'.ended<=S'.now)
 ∨ (o.state=12/\o'.state=18/\r.kind=7/\S.now<=o'.ended/\o'.ended<=S'.now))
def jf8 (S S':Sal) (r:Rep):Prop:=S'.C=S.C/\S.now<=S'.now/\S'.os.length=S.os.length/\∀ j,j<S.os.length->goD S S' r j (S.os.getD j ja3) (S'.os.getD j ja3)
theorem ju5 (S S':Sal) (r:Rep) (j:Nat) (o:Ord):goD S S' r j o o:=⟨rfl,rfl,.inl rfl⟩
theorem jdl (S:Sal) (r:Rep):jf8 S S r:=⟨rfl,Int.le_refl _,rfl,fun _ _=>ju5 ..⟩
theorem qek (S:Sal) (i:Nat) (o:Ord):(S.put i o).os.length=S.os.length:=List.length_set
theorem jtp {S:Sal} {i:Nat} (hi:i<S.os.length) (o:Ord) (j:Nat):(S.put i o).os.getD j ja3=if j=i then o else S.os.getD j ja3:=jar o hi
theorem jgp {S T:Sal} {r:Rep} (h:jf8 S T r) {i:Nat} (hi:i<T.os.length) {o:Ord} (ho:goD S T r i (S.os.getD i ja3) (T.os.getD i ja3)->goD S T r i (S.os.getD i ja3) o):jf8 S (T.put i o) r:=by
 obtain ⟨a,b,c,d⟩:=h
 refine ⟨a,b,(qek ..).trans c,fun j hj=>?_⟩
 rw [jtp hi]
 split
 ·next e=>subst e;exact ho (d j hj)
 ·exact d j hj
theorem jym {S T:Sal} {r:Rep} {j:Nat} {o o':Ord} (t:Int) (ht:T.now<=t) (h:goD S T r j o o'):goD S { T with now:=t } r j o o':=by
 obtain ⟨a,b,c⟩:=h
 refine ⟨a,b,?_⟩
 dsimp only
 rcases c with c|c|c|c|c|c|c|c
 ·exact .inl c
 ·exact .inr (.inl ⟨c.1,c.2.1,by omega⟩)
 ·exact .inr (.inr (.inl ⟨c.1,c.2.1,c.2.2.1,by omega,c.2.2.2.2.1,by omega⟩))
 ·exact .inr (.inr (.inr (.inl ⟨c.1,c.2.1,c.2.2.1,by omega,c.2.2.2.2.1,by omega⟩)))
 ·exact .inr (.inr (.inr (.inr (.inl ⟨c.1,c.2.1,c.2.2.1,by omega,c.2.2.2.2.1,by omega⟩))))
 ·exact .inr (.inr (.inr (.inr (.inr (.inl ⟨c.1,c.2.1,c.2.2.1,c.2.2.2.1,c.2.2.2.2.1,c.2.2.2.2.2.1,by omega⟩)))))
 ·exact .inr (.inr (.inr (.inr (.inr (.inr (.inl ⟨c.1,c.2.1,c.2.2.1,c.2.2.2.1,c.2.2.2.2.1,by omega⟩))))))
 ·exact .inr (.inr (.inr (.inr (.inr (.inr (.inr ⟨c.1,c.2.1,c.2.2.1,c.2.2.2.1,by omega⟩))))))
theorem jn0 {S T:Sal} {r:Rep} (h:jf8 S T r) (t:Int) (ht:T.now<=t):jf8 S { T with now:=t } r:=by
 obtain ⟨a,b,c,d⟩:=h
 exact ⟨a,Int.le_trans b ht,c,fun j hj=>jym t ht (d j hj)⟩
theorem jyb {S T:Sal} {r:Rep} (h:jf8 S T r) (q:Nat) (qs:List Nat) (hq:ja5 T.os=q :: qs):jf8 S (T.holds q) r:=by
 obtain ⟨_,hl,hs⟩:=jbh hq ja3 (by decide)
 have hC:T.C=S.C:=h.1
 refine jgp h hl (fun g=>?_)
 obtain ⟨a,b,c⟩:=g
 refine ⟨a,b,?_⟩
 have e:(S.os.getD q ja3).state=12:=by
  rcases c with c|c|c|c|c|c|c|c
  ·rw [← c];exact hs
  all_goals omega
 exact .inr (.inl ⟨e,rfl,by show T.now+T.C.lease<=T.now+S.C.lease;rw [hC];exact Int.le_refl _⟩)
theorem jod {S T:Sal} {r:Rep} (h:jf8 S T r):jf8 S T.promote r:=jdn (Q:=fun T=>jf8 S T r) (fun _ q qs h hq _=>jyb h q qs hq) _ T h
def qfv (S T:Sal):Prop:=jf8 S T jks/\∀ j,j<S.os.length->(S.os.getD j ja3).state=12->(T.os.getD j ja3).state=13->S.now+S.C.lease<(T.os.getD j ja3).upto
theorem jum {S:Sal} (hR:restS S) (h0:0<=S.now/\S.now<=4611686018427387904) (n:Int):jf8 S (S.tick n).2 jks:=by
 have hl:=hR.lease
 obtain ⟨a,b⟩:=jtr (Q:=qfv S) (Q':=fun T=>qfv S T/\S.now<T.now) (R:=fun T=>jf8 S T jks)
  (fun T q qs h hq hf=>by
    obtain ⟨⟨g,k⟩,hn⟩:=h
    obtain ⟨_,hl,hs⟩:=jbh hq ja3 (by decide)
    refine ⟨⟨jyb g q qs hq,fun j hj h12=>?_⟩,hn⟩
    show ((T.put q _).os.getD j ja3).state=13->_<((T.put q _).os.getD j ja3).upto
    rw [jtp hl]
    split
    ·intro _
     show S.now+S.C.lease<T.now+T.C.lease
     rw [g.1];omega
    ·exact k j hj h12)
  (fun T i h hi hs hu=>by
    obtain ⟨⟨g,k⟩,hn⟩:=h
    have hi':i<S.os.length:=by rw [← g.2.2.1];exact hi
    refine ⟨⟨jgp g hi (fun e=>?_),fun j hj h12=>?_⟩,hn⟩
    ·obtain ⟨x,y,c⟩:=e
     refine ⟨x,y,?_⟩
     rcases c with c|c|c|c|c|c|c|c
     ·rw [c] at hs hu
      exact .inr (.inr (.inr (.inr (.inl ⟨hs,rfl,rfl,by omega,by show S.now<=T.now;omega,Int.le_refl _⟩))))
     ·have:=k i hi' c.1 hs
      exact .inr (.inr (.inl ⟨c.1,rfl,rfl,by omega,by show S.now<=T.now;omega,Int.le_refl _⟩))
     all_goals omega
    ·show ((T.put i _).os.getD j ja3).state=13->_<((T.put i _).os.getD j ja3).upto
     rw [jtp hi]
     split
     ·intro c;exact absurd (show (15:Int)=13 from c) (by decide)
     ·exact k j hj h12)
  (fun T i h hi hs hu=>by
    obtain ⟨⟨g,k⟩,hn⟩:=h
    have hi':i<S.os.length:=by rw [← g.2.2.1];exact hi
    refine ⟨⟨jgp g hi (fun e=>?_),fun j hj h12=>?_⟩,hn⟩
    ·obtain ⟨x,y,c⟩:=e
     refine ⟨x,y,?_⟩
     rcases c with c|c|c|c|c|c|c|c
     ·rw [c] at hs hu
      exact .inr (.inr (.inr (.inl ⟨hs,rfl,rfl,by omega,by show S.now<=T.now;omega,Int.le_refl _⟩)))
     all_goals omega
    ·show ((T.put i _).os.getD j ja3).state=13->_<((T.put i _).os.getD j ja3).upto
     rw [jtp hi]
     split
     ·intro c;exact absurd (show (17:Int)=13 from c) (by decide)
     ·exact k j hj h12)
  (fun T t h _ hn=>⟨⟨jn0 h.1 t (by omega),h.2⟩,by have:=h.1.2.1;show S.now<t;omega⟩)
  (fun T h=>h.1) (fun T t h ht=>jn0 h.1 t ht) hR h0 ⟨jdl S jks,fun j hj a b=>by omega⟩ n
 by_cases hn:0<=n
 ·exact a hn
 ·rw [b (by omega)];exact jdl S jks
theorem qa9 {S:Sal} {i:Nat} (hi:i<S.os.length) (hs:(S.os.getD i ja3).state=12\/(S.os.getD i ja3).state=13):jf8 S (S.ends i 16).promote ⟨8,(i:Int)+1,0,0⟩ :=
 jod (jgp (jdl S _) hi (fun _=>⟨rfl,rfl,.inr (.inr (.inr (.inr (.inr (.inr (.inl ⟨hs,rfl,rfl,rfl,Int.le_refl _,Int.le_refl _⟩))))))⟩))
theorem jvq {S:Sal} {i:Nat} (hi:i<S.os.length) (hs:(S.os.getD i ja3).state=13) (x:Int):jf8 S (S.ends i 14).drained.promote ⟨7,(i:Int)+1,x,0⟩:=by
 have h1:jf8 S (S.ends i 14) ⟨7,(i:Int)+1,x,0⟩:=jgp (jdl S _) hi (fun _=>⟨rfl,rfl,.inr (.inr (.inr (.inr (.inr (.inl ⟨hs,rfl,rfl,rfl,rfl,Int.le_refl _,Int.le_refl _⟩)))))⟩)
 refine jod ?_
 obtain ⟨a,b,c,d⟩:=h1
 refine ⟨a,b,(List.length_map ..).trans c,fun j hj=>?_⟩
 have e:(S.ends i 14).drained.os.getD j ja3=dry (S.ends i 14).left (S.ends i 14).now ((S.ends i 14).os.getD j ja3):=by
  show ((S.ends i 14).os.map (dry (S.ends i 14).left (S.ends i 14).now)).getD j ja3=_
  simp [List.getD,List.getElem?_eq_getElem (show j<(S.ends i 14).os.length by omega)]
 rw [e]
 have g:=d j hj
 unfold dry
 split
 ·next hd =>
  obtain ⟨x1,x2,c⟩:=g
  refine ⟨x1,x2,?_⟩
  have e12:(S.os.getD j ja3).state=12:=by
   rcases c with c|c|c|c|c|c|c|c
   ·rw [← c];exact hd.1
   all_goals omega
  exact .inr (.inr (.inr (.inr (.inr (.inr (.inr ⟨e12,rfl,rfl,Int.le_refl _,Int.le_refl _⟩))))))
 ·exact g
def qde (S S':Sal) (p:Stp) (r:Rep):Prop:=∃ o,S'.os=S.os++[o]/\S'.C=S.C/\S'.now=S.now/\p.k=1/\o.cust=p.c/\o.units=p.u/\r.order=(S.os.length:Int)+1/\r.upto=o.upto ∧
 ((r.kind=2/\o.state=13/\r.cents=o.cents/\o.upto=S.now+S.C.lease)\/(r.kind=3/\o.state=12/\o.upto=S.now+S.C.wait))
def qgo (os:List Ord) (r:Rep):Prop:=r.order<=os.length/\(r.kind=7->1<=r.order/\((os.getD (r.order - 1).toNat ja3).state=13\/(os.getD (r.order - 1).toNat ja3).state=14)/\r.cents=(os.getD (r.order - 1).toNat ja3).units * (os.getD (r.order - 1).toNat ja3).cents)
def qaq (os:List Ord) (r:Rep):Prop:=r.order<=os.length/\(r.kind=7->1<=r.order/\(os.getD (r.order - 1).toNat ja3).state=14/\r.cents=(os.getD (r.order - 1).toNat ja3).units * (os.getD (r.order - 1).toNat ja3).cents)
theorem qan {S S':Sal} {r q:Rep} (h:qaq S.os q) (g:jf8 S S' r):qaq S'.os q:=by
 obtain ⟨a,b,c,d⟩:=g
 refine ⟨by rw [c];exact h.1,fun h7=>?_⟩
 obtain ⟨x,y,z⟩:=h.2 h7
 have hl:=h.1
 obtain ⟨e1,e2,e3⟩:=d (q.order - 1).toNat (by omega)
 rcases e3 with e|e|e|e|e|e|e|e
 ·rw [e];exact ⟨x,y,z⟩
 all_goals omega
theorem qc6 {S S':Sal} {p:Stp} {r q:Rep} (h:qaq S.os q) (g:qde S S' p r):qaq S'.os q:=by
 obtain ⟨o,ho,_⟩:=g
 have hl:=h.1
 rw [ho]
 refine ⟨by rw [List.length_append];simp;omega,fun h7=>?_⟩
 obtain ⟨x,y,z⟩:=h.2 h7
 rw [jfc,if_pos (by omega)]
 exact ⟨x,y,z⟩
theorem qfl {S:Sal} {p:Stp} (hok:p.ok=true) :
 ((jf8 S (S.doS p.req).2 (S.doS p.req).1/\qgo S.os (S.doS p.req).1)\/qde S (S.doS p.req).2 p (S.doS p.req).1)/\qaq (S.doS p.req).2.os (S.doS p.req).1:=by
 have hpart:=jep (show isB p.k (jcn p.k p.t) p.c (jcs p.k p.u) (jcg p.k p.o)=true from hok)
 have plain:∀ k:Int,k≠7->((jf8 S S ⟨k,0,0,0⟩/\qgo S.os ⟨k,0,0,0⟩)\/qde S S p ⟨k,0,0,0⟩)/\qaq S.os ⟨k,0,0,0⟩:=fun k hk=>⟨.inl ⟨jdl ..,by show (0:Int)<=_;omega,fun c=>absurd c hk⟩,by show (0:Int)<=_;omega,fun c=>absurd c hk⟩
 unfold Sal.doS
 split
 ·next hk1 =>
  have hk1':p.k=1:=hk1
  have hU:p.req.units=p.u:=if_pos hk1'
  unfold Sal.ask
  split
  ·exact plain 4 (by decide)
  split
  ·exact plain 5 (by decide)
  split
  ·exact plain 6 (by decide)
  split
  ·obtain ⟨e1,e2⟩:=jcw S p.req.cust p.req.units
   rw [e1,e2]
   have hg:(S.more ⟨p.req.cust,p.req.units,13,S.price,S.now+S.C.lease,0⟩).os.getD S.os.length ja3=⟨p.req.cust,p.req.units,13,S.price,S.now+S.C.lease,0⟩:=by
    show (S.os++[_]).getD S.os.length ja3=_
    rw [jaw (by omega),if_pos rfl]
   rw [hg]
   refine ⟨.inr ⟨_,rfl,rfl,rfl,hk1',rfl,hU,rfl,rfl,.inl ⟨rfl,rfl,rfl,rfl⟩⟩,?_,fun c=>absurd (show (2:Int)=7 from c) (by decide)⟩
   show (S.os.length:Int)+1<=((S.os++[_]).length:Nat)
   rw [List.length_append];simp
  split
  ·exact plain 6 (by decide)
  ·refine ⟨.inr ⟨_,rfl,rfl,rfl,hk1',rfl,hU,rfl,rfl,.inr ⟨rfl,rfl,rfl⟩⟩,?_,fun c=>absurd (show (3:Int)=7 from c) (by decide)⟩
   show (S.os.length:Int)+1<=((S.os++[_]).length:Nat)
   rw [List.length_append];simp
 ·next hk1 =>
  have ho1:1<=p.req.order:=by
   rcases hpart with c|c
   ·exact absurd c.1 hk1
   ·exact c.2.1
  split
  ·unfold Sal.confirm
   split
   ·exact plain 9 (by decide)
   ·next i hf =>
    obtain ⟨hi,hcu,hio⟩:=jas ho1 hf
    split
    ·exact plain 9 (by decide)
    ·next hs =>
     have hs':(S.os.getD i ja3).state=13:=Classical.not_not.1 hs
     rw [jbj]
     obtain ⟨u1,u2,u3⟩:=jof hi
     have hii:(p.req.order - 1).toNat=i:=by omega
     have g:=jvq hi hs' (((S.ends i 14).drained.promote.os.getD i ja3).units * ((S.ends i 14).drained.promote.os.getD i ja3).cents)
     rw [← hio] at g
     refine ⟨.inl ⟨g,by show p.req.order<=_;omega,fun _=>?_⟩,?_,fun _=>?_⟩
     ·show 1<=p.req.order/\((S.os.getD (p.req.order - 1).toNat ja3).state=13\/_)/\_ * _=(S.os.getD (p.req.order - 1).toNat ja3).units * (S.os.getD (p.req.order - 1).toNat ja3).cents
      rw [hii,u1,u2]
      exact ⟨ho1,.inl hs',rfl⟩
     ·show p.req.order<=_
      rw [g.2.2.1];omega
     ·show 1<=p.req.order/\((S.ends i 14).drained.promote.os.getD (p.req.order - 1).toNat ja3).state=14/\_ * _=((S.ends i 14).drained.promote.os.getD (p.req.order - 1).toNat ja3).units * ((S.ends i 14).drained.promote.os.getD (p.req.order - 1).toNat ja3).cents
      rw [hii]
      exact ⟨ho1,u3,rfl⟩
  ·unfold Sal.cancel
   split
   ·exact plain 9 (by decide)
   ·next i hf =>
    obtain ⟨hi,hcu,hio⟩:=jas ho1 hf
    split
    ·exact plain 9 (by decide)
    ·next hs =>
     have g:=qa9 hi (by omega)
     rw [← hio] at g
     exact ⟨.inl ⟨g,by show p.req.order<=_;omega,fun c=>absurd (show (8:Int)=7 from c) (by decide)⟩,by show p.req.order<=_;rw [g.2.2.1];omega,fun c=>absurd (show (8:Int)=7 from c) (by decide)⟩
theorem jyz {S T:Sal} {r:Rep} (l:List Ans) (h:jf8 S T r):jf8 S { T with ansL:=l } r:=h
theorem qby {S T:Sal} {p:Stp} {r:Rep} (l:List Ans) (h:qde S T p r):qde S { T with ansL:=l } p r:=h
theorem qeo {S:Sal} (hR:restS S) (h0:0<=S.now/\S.now<=4611686018427387904) (hO:∀ o∈S.os,jkz o) (hA:∀ a∈S.ansL,qaq S.os a.rep) (p:Stp) :
 ((jf8 S (S.does p).2 (S.does p).1/\qgo S.os (S.does p).1)\/qde S (S.does p).2 p (S.does p).1)/\∀ a∈(S.does p).2.ansL,qaq (S.does p).2.os a.rep:=by
 have plain:∀ k:Int,k≠7->((jf8 S S ⟨k,0,0,0⟩/\qgo S.os ⟨k,0,0,0⟩)\/qde S S p ⟨k,0,0,0⟩)/\∀ a∈S.ansL,qaq S.os a.rep:=fun k hk=>⟨.inl ⟨jdl ..,by show (0:Int)<=_;omega,fun c=>absurd c hk⟩,hA⟩
 unfold Sal.does
 split
 ·split
  ·have g:=jum hR h0 p.n
   refine ⟨.inl ⟨g,by show (0:Int)<=_;omega,fun c=>absurd (show (0:Int)=7 from c) (by decide)⟩,fun a ha=>?_⟩
   rw [(jfu S p.n).2.1] at ha
   exact qan (hA a ha) g
  ·unfold Sal.sendK
   split
   ·next hok =>
    unfold Sal.send
    rw [if_neg (fun c=>c rfl)]
    split
    ·next h4 =>
     refine ⟨.inl ⟨jdl ..,?_⟩,hA⟩
     have ho1:1<=p.req.order:=by
      rcases jep (show isB p.k (jcn p.k p.t) p.c (jcs p.k p.u) (jcg p.k p.o)=true from hok) with c|c
      ·have h4':p.k=4:=h4
       omega
      ·exact c.2.1
     unfold Sal.poll
     split
     ·exact ⟨by show (0:Int)<=_;omega,fun c=>absurd (show (19:Int)=7 from c) (by decide)⟩
     ·next i hf =>
      obtain ⟨hi,_,hio⟩:=jas ho1 hf
      have hst:=(hO _ (jal hi)).2.1
      generalize S.os.getD i ja3=o at *
      split
      ·exact ⟨by show p.req.order<=_;omega,fun c=>absurd (show (12:Int)=7 from c) (by decide)⟩
      split
      ·exact ⟨by show p.req.order<=_;omega,fun c=>absurd (show (13:Int)=7 from c) (by decide)⟩
      split
      ·exact ⟨by show (0:Int)<=_;omega,fun c=>absurd (show (19:Int)=7 from c) (by decide)⟩
      split
      ·exact ⟨by show p.req.order<=_;omega,fun c=>absurd (show (14:Int)=7 from c) (by decide)⟩
      ·exact ⟨by show p.req.order<=_;omega,fun c=>by
        have c':o.state=7:=c
        omega⟩
    ·split
     ·next a ha =>
      obtain ⟨m1,_,_⟩:=jl5 ha
      split
      ·obtain ⟨x,y⟩:=hA a m1
       exact ⟨.inl ⟨jdl ..,x,fun c=>⟨(y c).1,.inr (y c).2.1,(y c).2.2⟩⟩,hA⟩
      ·exact plain 10 (by decide)
     ·split
      ·exact plain 11 (by decide)
      ·obtain ⟨h1,h2⟩:=qfl (S:=S) hok
       refine ⟨h1.imp (fun c=>⟨jyz _ c.1,c.2⟩) (qby _),fun a ha=>?_⟩
       rcases List.mem_append.1 (show a∈(S.doS p.req).2.ansL++[_] from ha) with ha|ha
       ·rw [(jew S p.req).2.2] at ha
        rcases h1 with c|c
        ·exact qan (hA a ha) c.1
        ·exact qc6 (hA a ha) c
       ·rw [List.mem_singleton.1 ha];exact h2
   ·exact plain 1 (by decide)
 ·exact plain 0 (by decide)
structure Lf where
 cust:Int
 units:Int
 kind:Int
 wait:Int
 cents:Int
 upto:Int
 alive:Int
 fin:Int
 over:Bool
def lf0:Lf:=⟨0,0,0,0,0,0,0,0,false⟩
def je7 (f:Lf) (p:Rep) (clock:Int):Lf :=
 if p.kind=12 then { f with kind:=12,alive:=clock }
 else if p.kind=13 then { f with kind:=13,cents:=p.cents,upto:=p.upto,alive:=clock }
 else if p.kind=19 then { f with kind:=19 }
 else if f.over then { f with kind:=p.kind } else { f with kind:=p.kind,fin:=clock,over:=true }
def jqj (lease:Int) (f:Lf) (p:Rep) (clock:Int) (r:Rep):Prop :=
 (p.kind=14/\r.kind=7/\r.order=p.order)\/(p.kind=16/\r.kind=8/\r.order=p.order)\/(p.kind=18/\r.kind=7/\f.kind=12)\/(p.kind=17/\r.kind=0/\f.wait<=clock)\/(p.kind=15/\r.kind=0/\f.kind=13/\f.upto<=clock)\/(p.kind=15/\r.kind=0/\f.kind=12/\f.alive+lease<clock)
def jn4 (lease keep:Int) (f:Lf) (p:Rep) (clock:Int) (r:Rep):Prop :=
 (p.kind=12/\f.kind=12/\p.upto=f.wait/\clock<f.wait)
 ∨ (p.kind=13/\f.kind=12/\clock<p.upto/\p.upto<=clock+lease)
 ∨ (p.kind=13/\f.kind=13/\p.cents=f.cents/\p.upto=f.upto/\clock<p.upto/\p.upto<=clock+lease)
 ∨ (p.kind=19/\f.alive+keep<=clock)
 ∨ ((14<=p.kind/\p.kind<=18)/\f.over=true/\f.kind=p.kind/\clock<f.fin+keep/\(p.kind=14->p.cents=f.cents * f.units))
 ∨ ((14<=p.kind/\p.kind<=18)/\f.over=false/\(f.kind=12\/(f.kind=13/\p.kind<=16))/\jqj lease f p clock r/\(p.kind=14->p.cents=f.cents * f.units))
def ji8 (C:Cfg) (now:Int) (f:Lf) (o:Ord):Prop :=
 f.cust=o.cust/\f.units=o.units/\(0<=f.alive/\f.alive<=now)/\(0<=f.fin/\f.fin<=now) ∧
 ((o.state=12/\f.kind=12/\f.wait=o.upto/\f.alive=now/\f.over=false)
 ∨ (o.state=13/\f.kind=13/\f.cents=o.cents/\f.upto=o.upto/\f.alive=now/\f.over=false/\o.upto<=now+C.lease)
 ∨ ((14<=o.state/\o.state<=18)/\f.alive<=o.ended/\o.ended<=now/\(o.state=14->f.cents=o.cents) ∧
     ((f.kind=o.state/\f.over=true/\o.ended<=f.fin)\/(f.kind=19/\C.keep<=now - o.ended))))
def jch (S:Sal) (j:Nat) (o:Ord):Rep :=
 if o.state=12 then ⟨12,(j:Int)+1,0,o.upto⟩
 else if o.state=13 then ⟨13,(j:Int)+1,o.cents,o.upto⟩
 else if S.C.keep<=S.now - o.ended then { jks with kind:=19 }
 else if o.state=14 then ⟨14,(j:Int)+1,o.units * o.cents,0⟩
 else ⟨o.state,(j:Int)+1,0,0⟩
theorem qbn {S:Sal} (hl:S.os.length<=4294967296) {i:Nat} (hi:i<S.os.length) (hc:jbn (S.os.getD i ja3).cust=true):S.pollK (S.os.getD i ja3).cust ((i:Int)+1)=jch S i (S.os.getD i ja3):=by
 rw [jpn hc (by unfold jbn;simp;omega)]
 unfold Sal.poll
 have hf:jfo S.os (S.os.getD i ja3).cust ((i:Int)+1)=some i:=by
  have e:((i:Int)+1 - 1).toNat=i:=by omega
  unfold jfo
  rw [e,if_pos ⟨by omega,rfl⟩]
 dsimp only
 rw [hf]
 rfl
theorem je8 {S':Sal} {r:Rep} {j:Nat} {f:Lf} {o':Ord} (h0:0<=S'.now) (hc:f.cust=o'.cust) (hu:f.units=o'.units) (ha:0<=f.alive/\f.alive<=S'.now) (hf:0<=f.fin/\f.fin<=S'.now) (hov:f.over=false) (hs:14<=o'.state/\o'.state<=18) (hae:f.alive<=o'.ended) (hen:o'.ended<=S'.now) (h14:o'.state=14->f.cents=o'.cents) (hkind:f.kind=12\/(f.kind=13/\o'.state<=16)) (hend:∀ x,jqj S'.C.lease f ⟨o'.state,(j:Int)+1,x,0⟩ S'.now r) :
 jn4 S'.C.lease S'.C.keep f (jch S' j o') S'.now r/\ji8 S'.C S'.now (je7 f (jch S' j o') S'.now) o':=by
 have n12:¬ o'.state=12:=by omega
 have n13:¬ o'.state=13:=by omega
 by_cases hkp:S'.C.keep<=S'.now - o'.ended
 ·have e:jch S' j o'={ jks with kind:=19 }:=by unfold jch;rw [if_neg n12,if_neg n13,if_pos hkp]
  rw [e]
  refine ⟨.inr (.inr (.inr (.inl ⟨rfl,by omega⟩))),?_⟩
  have e2:je7 f { jks with kind:=19 } S'.now={ f with kind:=19 }:=rfl
  rw [e2]
  exact ⟨hc,hu,ha,hf,.inr (.inr ⟨hs,hae,hen,h14,.inr ⟨rfl,hkp⟩⟩)⟩
 ·have e:∃ x,jch S' j o'=⟨o'.state,(j:Int)+1,x,0⟩/\(o'.state=14->x=o'.units * o'.cents):=by
   unfold jch
   rw [if_neg n12,if_neg n13,if_neg hkp]
   by_cases e14:o'.state=14
   ·exact ⟨o'.units * o'.cents,by rw [if_pos e14,e14],fun _=>rfl⟩
   ·exact ⟨0,by rw [if_neg e14],fun c=>absurd c e14⟩
  obtain ⟨x,e,hx⟩:=e
  rw [e]
  refine ⟨.inr (.inr (.inr (.inr (.inr ⟨hs,hov,hkind,hend x,fun c=>?_⟩)))),?_⟩
  ·show x=f.cents * f.units
   rw [hx c,h14 c,hu,Int.mul_comm]
  ·have n19:¬ o'.state=19:=by omega
   have e2:je7 f ⟨o'.state,(j:Int)+1,x,0⟩ S'.now={ f with kind:=o'.state,fin:=S'.now,over:=true }:=by
    unfold je7
    dsimp only
    rw [if_neg n12,if_neg n13,if_neg n19,hov]
    rfl
   rw [e2]
   exact ⟨hc,hu,ha,⟨h0,Int.le_refl _⟩,.inr (.inr ⟨hs,hae,hen,h14,.inl ⟨rfl,rfl,hen⟩⟩)⟩
theorem jrh {S S':Sal} {r:Rep} {j:Nat} {f:Lf} {o o':Ord} (hC:S'.C=S.C) (h0:0<=S.now) (hn:S.now<=S'.now) (hk:1<=S'.C.keep) (hfut:o'.alive->S'.now<o'.upto) (h:ji8 S.C S.now f o) (g:goD S S' r j o o') :
 jn4 S'.C.lease S'.C.keep f (jch S' j o') S'.now r/\ji8 S'.C S'.now (je7 f (jch S' j o') S'.now) o':=by
 obtain ⟨hc,hu,ha,hf,hst⟩:=h
 obtain ⟨g1,g2,g3⟩:=g
 rw [← hC] at hst g3
 rcases g3 with g|g|g|g|g|g|g|g
 ·subst g
  rcases hst with c|c|c
  ·obtain ⟨c1,c2,c3,c4,c5⟩:=c
   have e:jch S' j o'=⟨12,(j:Int)+1,0,o'.upto⟩:=by unfold jch;rw [if_pos c1]
   have:=hfut (.inl c1)
   rw [e]
   exact ⟨.inl ⟨rfl,c2,c3.symm,by omega⟩,hc,hu,⟨by show 0<=S'.now;omega,Int.le_refl _⟩,⟨hf.1,by show f.fin<=S'.now;omega⟩,.inl ⟨c1,rfl,c3,rfl,c5⟩⟩
  ·obtain ⟨c1,c2,c3,c4,c5,c6,c7⟩:=c
   have n12:¬ o'.state=12:=by omega
   have e:jch S' j o'=⟨13,(j:Int)+1,o'.cents,o'.upto⟩:=by unfold jch;rw [if_neg n12,if_pos c1]
   have:=hfut (.inr c1)
   rw [e]
   exact ⟨.inr (.inr (.inl ⟨rfl,c2,c3.symm,c4.symm,this,by show o'.upto<=_;omega⟩)),hc,hu,⟨by show 0<=S'.now;omega,Int.le_refl _⟩,⟨hf.1,by show f.fin<=S'.now;omega⟩,.inr (.inl ⟨c1,rfl,rfl,rfl,rfl,c6,by omega⟩)⟩
  ·obtain ⟨c1,c2,c3,c4,c5⟩:=c
   have n12:¬ o'.state=12:=by omega
   have n13:¬ o'.state=13:=by omega
   by_cases hkp:S'.C.keep<=S'.now - o'.ended
   ·have e:jch S' j o'={ jks with kind:=19 }:=by unfold jch;rw [if_neg n12,if_neg n13,if_pos hkp]
    rw [e]
    exact ⟨.inr (.inr (.inr (.inl ⟨rfl,by omega⟩))),hc,hu,⟨ha.1,by show f.alive<=S'.now;omega⟩,⟨hf.1,by show f.fin<=S'.now;omega⟩,.inr (.inr ⟨c1,c2,by omega,c4,.inr ⟨rfl,hkp⟩⟩)⟩
   ·obtain ⟨d1,d2,d3⟩:=c5.resolve_right (fun c=>by omega)
    have n19:¬ o'.state=19:=by omega
    have e:∃ x,jch S' j o'=⟨o'.state,(j:Int)+1,x,0⟩/\(o'.state=14->x=o'.units * o'.cents):=by
     unfold jch
     rw [if_neg n12,if_neg n13,if_neg hkp]
     by_cases e14:o'.state=14
     ·exact ⟨o'.units * o'.cents,by rw [if_pos e14,e14],fun _=>rfl⟩
     ·exact ⟨0,by rw [if_neg e14],fun c=>absurd c e14⟩
    obtain ⟨x,e,hx⟩:=e
    rw [e]
    refine ⟨.inr (.inr (.inr (.inr (.inl ⟨c1,d2,d1,by omega,fun c=>?_⟩)))),?_⟩
    ·show x=f.cents * f.units
     rw [hx c,c4 c,hu,Int.mul_comm]
    ·have e2:je7 f ⟨o'.state,(j:Int)+1,x,0⟩ S'.now={ f with kind:=o'.state }:=by
      unfold je7
      dsimp only
      rw [if_neg n12,if_neg n13,if_neg n19,d2]
      rfl
     rw [e2]
     exact ⟨hc,hu,⟨ha.1,by show f.alive<=S'.now;omega⟩,⟨hf.1,by show f.fin<=S'.now;omega⟩,.inr (.inr ⟨c1,c2,by omega,c4,.inl ⟨rfl,d2,d3⟩⟩)⟩
 ·obtain ⟨d1,d2,d3⟩:=g
  obtain ⟨c1,c2,c3,c4,c5⟩:=hst.resolve_right (fun c=>by omega)
  have n12:¬ o'.state=12:=by omega
  have e:jch S' j o'=⟨13,(j:Int)+1,o'.cents,o'.upto⟩:=by unfold jch;rw [if_neg n12,if_pos d2]
  have:=hfut (.inr d2)
  rw [e]
  exact ⟨.inr (.inl ⟨rfl,c2,this,d3⟩),hc.trans g1.symm,hu.trans g2.symm,⟨by show 0<=S'.now;omega,Int.le_refl _⟩,⟨hf.1,by show f.fin<=S'.now;omega⟩,.inr (.inl ⟨d2,rfl,rfl,rfl,rfl,c5,d3⟩)⟩
 ·obtain ⟨d1,d2,d3,d4,d5,d6⟩:=g
  obtain ⟨c1,c2,c3,c4,c5⟩:=hst.resolve_right (fun c=>by omega)
  exact je8 (by omega) (hc.trans g1.symm) (hu.trans g2.symm) ⟨ha.1,by omega⟩ ⟨hf.1,by omega⟩ c5 (by omega) (by omega) d6 (fun c=>by omega) (.inl c2) (fun x=>by rw [d2];exact .inr (.inr (.inr (.inr (.inr ⟨rfl,d3,c2,by omega⟩)))))
 ·obtain ⟨d1,d2,d3,d4,d5,d6⟩:=g
  obtain ⟨c1,c2,c3,c4,c5⟩:=hst.resolve_right (fun c=>by omega)
  exact je8 (by omega) (hc.trans g1.symm) (hu.trans g2.symm) ⟨ha.1,by omega⟩ ⟨hf.1,by omega⟩ c5 (by omega) (by omega) d6 (fun c=>by omega) (.inl c2) (fun x=>by rw [d2];exact .inr (.inr (.inr (.inl ⟨rfl,d3,by omega⟩))))
 ·obtain ⟨d1,d2,d3,d4,d5,d6⟩:=g
  obtain ⟨c1,c2,c3,c4,c5,c6,c7⟩:=(hst.resolve_left (fun c=>by omega)).resolve_right (fun c=>by omega)
  exact je8 (by omega) (hc.trans g1.symm) (hu.trans g2.symm) ⟨ha.1,by omega⟩ ⟨hf.1,by omega⟩ c6 (by omega) (by omega) d6 (fun c=>by omega) (.inr ⟨c2,by omega⟩) (fun x=>by rw [d2];exact .inr (.inr (.inr (.inr (.inl ⟨rfl,d3,c2,by omega⟩)))))
 ·obtain ⟨d1,d2,d3,d4,d5,d6,d7⟩:=g
  obtain ⟨c1,c2,c3,c4,c5,c6,c7⟩:=(hst.resolve_left (fun c=>by omega)).resolve_right (fun c=>by omega)
  exact je8 (by omega) (hc.trans g1.symm) (hu.trans g2.symm) ⟨ha.1,by omega⟩ ⟨hf.1,by omega⟩ c6 (by omega) (by omega) d7 (fun _=>c3.trans d3.symm) (.inr ⟨c2,by omega⟩) (fun x=>by rw [d2];exact .inl ⟨rfl,d4,d5⟩)
 ·obtain ⟨d1,d2,d3,d4,d5,d6⟩:=g
  rcases d1 with d1|d1
  ·obtain ⟨c1,c2,c3,c4,c5⟩:=hst.resolve_right (fun c=>by omega)
   exact je8 (by omega) (hc.trans g1.symm) (hu.trans g2.symm) ⟨ha.1,by omega⟩ ⟨hf.1,by omega⟩ c5 (by omega) (by omega) d6 (fun c=>by omega) (.inl c2) (fun x=>by rw [d2];exact .inr (.inl ⟨rfl,d3,d4⟩))
  ·obtain ⟨c1,c2,c3,c4,c5,c6,c7⟩:=(hst.resolve_left (fun c=>by omega)).resolve_right (fun c=>by omega)
   exact je8 (by omega) (hc.trans g1.symm) (hu.trans g2.symm) ⟨ha.1,by omega⟩ ⟨hf.1,by omega⟩ c6 (by omega) (by omega) d6 (fun c=>by omega) (.inr ⟨c2,by omega⟩) (fun x=>by rw [d2];exact .inr (.inl ⟨rfl,d3,d4⟩))
 ·obtain ⟨d1,d2,d3,d4,d5⟩:=g
  obtain ⟨c1,c2,c3,c4,c5⟩:=hst.resolve_right (fun c=>by omega)
  exact je8 (by omega) (hc.trans g1.symm) (hu.trans g2.symm) ⟨ha.1,by omega⟩ ⟨hf.1,by omega⟩ c5 (by omega) (by omega) d5 (fun c=>by omega) (.inl c2) (fun x=>by rw [d2];exact .inr (.inr (.inl ⟨rfl,d3,c2⟩)))
def jjd (r:Rep) (p:Stp) (clock:Int):Lf:=if r.kind=2 then ⟨p.c,p.u,13,0,r.cents,r.upto,clock,0,false⟩ else ⟨p.c,p.u,12,r.upto,0,0,clock,0,false⟩
structure dInv (S:Sal) (fl:List Lf):Prop where
 len:fl.length=S.os.length
 life:∀ i,i<S.os.length->ji8 S.C S.now (fl.getD i lf0) (S.os.getD i ja3)
 an:∀ a∈S.ansL,qaq S.os a.rep
 cu:∀ i,i<S.os.length->jbn (S.os.getD i ja3).cust=true
def je1 (fl:List Lf) (p:Stp) (r:Rep) (clock:Int):List Lf:=if (r.kind=2\/r.kind=3)/\r.order=fl.length+1 then fl++[jjd r p clock] else fl
def qdw (fl:List Lf) (r:Rep):Prop:=((r.kind=2\/r.kind=3)/\r.order=fl.length+1)\/(r.order<=fl.length/\(r.kind=7->1<=r.order/\(0<(fl.getD (r.order - 1).toNat lf0).cents/\(fl.getD (r.order - 1).toNat lf0).cents<=1073741824)/\(0<=(fl.getD (r.order - 1).toNat lf0).units/\(fl.getD (r.order - 1).toNat lf0).units<=4294967296)/\r.cents=(fl.getD (r.order - 1).toNat lf0).cents * (fl.getD (r.order - 1).toNat lf0).units))
def qgl (C:Cfg) (r:Rep) (clock:Int) (n:Nat):Prop:=r.order=(n:Int)+1->(r.kind=3->r.upto=clock+C.wait)/\(r.kind=2->r.upto=clock+C.lease)
theorem jub {fl:List Lf} {f:Lf} {i:Nat} (hi:i<=fl.length):(fl++[f]).getD i lf0=if i<fl.length then fl.getD i lf0 else f:=by
 simp only [List.getD,List.getElem?_append]
 split
 ·rfl
 ·next h =>
  have:i - fl.length=0:=by omega
  simp [this]
def jhm (S:Sal) (fl:List Lf):List Lf:=(List.range fl.length).map (fun i=>je7 (fl.getD i lf0) (jch S i (S.os.getD i ja3)) S.now)
theorem jl2 (S:Sal) (fl:List Lf) {i:Nat} (hi:i<fl.length):(jhm S fl).getD i lf0=je7 (fl.getD i lf0) (jch S i (S.os.getD i ja3)) S.now:=by
 unfold jhm
 simp [List.getD,hi]
theorem jzq {S:Sal} {fl:List Lf} (h:dInv S fl) (hR:restS S) (h0:0<=S.now/\S.now<=4611686018427387904) (hO:∀ o∈S.os,jkz o) (hI:salI S) (p:Stp) (hR':restS (S.does p).2) :
 qgl (S.does p).2.C (S.does p).1 (S.does p).2.now fl.length/\qdw fl (S.does p).1/\(je1 fl p (S.does p).1 (S.does p).2.now).length=(S.does p).2.os.length ∧
 (∀ i,i<(S.does p).2.os.length->((je1 fl p (S.does p).1 (S.does p).2.now).getD i lf0).cust=((S.does p).2.os.getD i ja3).cust/\jn4 (S.does p).2.C.lease (S.does p).2.C.keep ((je1 fl p (S.does p).1 (S.does p).2.now).getD i lf0) (jch (S.does p).2 i ((S.does p).2.os.getD i ja3)) (S.does p).2.now (S.does p).1/\(0<=((je1 fl p (S.does p).1 (S.does p).2.now).getD i lf0).alive/\((je1 fl p (S.does p).1 (S.does p).2.now).getD i lf0).alive<=(S.does p).2.now)/\(0<=((je1 fl p (S.does p).1 (S.does p).2.now).getD i lf0).fin/\((je1 fl p (S.does p).1 (S.does p).2.now).getD i lf0).fin<=(S.does p).2.now)) ∧
 dInv (S.does p).2 (jhm (S.does p).2 (je1 fl p (S.does p).1 (S.does p).2.now)):=by
 obtain ⟨hgo,hans⟩:=qeo hR h0 hO h.an p
 have hcu:=fun (hk:p.k=1) (hok:p.ok=true)=>(jg0 hok).1
 have hlen:=h.len
 have hok1:qde S (S.does p).2 p (S.does p).1->jbn p.c=true:=fun g=>by
  obtain ⟨o,ho,_,_,hk,hcc,huu,hro,_,hkind⟩:=g
  have hk2:(S.does p).1.kind=2\/(S.does p).1.kind=3:=by omega
  by_cases hok:p.ok=true
  ·exact (jg0 hok).1
  ·exfalso
   have hl:(S.does p).2.os.length=S.os.length:=by
    unfold Sal.does Sal.sendK
    rw [if_pos (by omega),if_neg (by omega),if_neg hok]
   rw [ho] at hl
   simp at hl
 generalize hS':(S.does p).2=S' at *
 generalize (S.does p).1=r at *
 have keep1:=hR'.keep.1
 rcases hgo with ⟨g,hr⟩|g
 ·obtain ⟨gC,gN,gL,gA⟩:=g
  have e1:je1 fl p r S'.now=fl:=by
   unfold je1
   rw [if_neg]
   have:=hr.1
   omega
  rw [e1]
  have all:∀ i,i<S'.os.length->jn4 S'.C.lease S'.C.keep (fl.getD i lf0) (jch S' i (S'.os.getD i ja3)) S'.now r/\ji8 S'.C S'.now (je7 (fl.getD i lf0) (jch S' i (S'.os.getD i ja3)) S'.now) (S'.os.getD i ja3):=fun i hi =>
   jrh gC h0.1 gN keep1 (hR'.fut _ (jal hi)) (h.life i (by omega)) (gA i (by omega))
  refine ⟨fun c=>by have:=hr.1;omega,.inr ⟨by have:=hr.1;omega,fun h7=>?_⟩,by omega,fun i hi=>⟨?_,(all i hi).1,⟨(h.life i (by omega)).2.2.1.1,by have:=(h.life i (by omega)).2.2.1.2;omega⟩,(h.life i (by omega)).2.2.2.1.1,by have:=(h.life i (by omega)).2.2.2.1.2;omega⟩,⟨by unfold jhm;simp;omega,fun i hi=>by rw [jl2 S' fl (by omega)];exact (all i hi).2,hans,fun i hi=>by rw [(gA i (by omega)).1];exact h.cu i (by omega)⟩⟩
  ·obtain ⟨a1,a2,a3⟩:=hr.2 h7
   have hb:=hr.1
   have hl:=h.life (r.order - 1).toNat (by omega)
   have hm:=(hO _ (jal (show (r.order - 1).toNat<S.os.length by omega))).2.2
   obtain ⟨l1,l2,_,_,l5⟩:=hl
   have hcents:(fl.getD (r.order - 1).toNat lf0).cents=(S.os.getD (r.order - 1).toNat ja3).cents:=by
    rcases l5 with c|c|c
    ·omega
    ·exact c.2.2.1
    ·exact c.2.2.2.1 (by omega)
   have hcb:=(hI.ords _ (jal (show (r.order - 1).toNat<S.os.length by omega))).1
   have hub:=hI.units _ (jal (show (r.order - 1).toNat<S.os.length by omega))
   have hm2:=hm a2
   refine ⟨a1,by rw [hcents];omega,by rw [l2];omega,by rw [a3,hcents,l2,Int.mul_comm]⟩
  ·rw [(h.life i (by omega)).1,(gA i (by omega)).1]
 ·have hnum:=hok1 g
  obtain ⟨o,ho,gC,gN,hk,hcc,huu,hro,hup,hkind⟩:=g
  have hk2:r.kind=2\/r.kind=3:=by omega
  have e1:je1 fl p r S'.now=fl++[jjd r p S'.now]:=by
   unfold je1
   rw [if_pos ⟨hk2,by omega⟩]
  have hL':S'.os.length=S.os.length+1:=by rw [ho];simp
  rw [e1]
  have hnew:ji8 S'.C S'.now (jjd r p S'.now) o:=by
   unfold jjd
   rcases hkind with ⟨k1,k2,k3,k4⟩|⟨k1,k2,k3⟩
   ·rw [if_pos k1]
    exact ⟨hcc.symm,huu.symm,⟨by show 0<=S'.now;omega,Int.le_refl _⟩,⟨Int.le_refl _,by show 0<=S'.now;omega⟩,.inr (.inl ⟨k2,rfl,k3,hup,rfl,rfl,by rw [gC,gN];omega⟩)⟩
   ·rw [if_neg (by omega)]
    exact ⟨hcc.symm,huu.symm,⟨by show 0<=S'.now;omega,Int.le_refl _⟩,⟨Int.le_refl _,by show 0<=S'.now;omega⟩,.inl ⟨k2,rfl,hup,rfl,rfl⟩⟩
  have hlife:∀ i,i<S'.os.length->ji8 S'.C S'.now ((fl++[jjd r p S'.now]).getD i lf0) (S'.os.getD i ja3):=fun i hi=>by
   rw [jub (by omega),ho,jfc,hlen]
   by_cases e:i<S.os.length
   ·rw [if_pos e,if_pos e,gC,gN];exact h.life i e
   ·rw [if_neg e,if_neg e,if_pos (by omega)];exact hnew
  have all:∀ i,i<S'.os.length->jn4 S'.C.lease S'.C.keep ((fl++[jjd r p S'.now]).getD i lf0) (jch S' i (S'.os.getD i ja3)) S'.now r/\ji8 S'.C S'.now (je7 ((fl++[jjd r p S'.now]).getD i lf0) (jch S' i (S'.os.getD i ja3)) S'.now) (S'.os.getD i ja3):=fun i hi =>
   jrh rfl (by omega) (Int.le_refl _) keep1 (hR'.fut _ (jal hi)) (hlife i hi) (ju5 S' S' r i _)
  refine ⟨fun _=>⟨fun c=>?_,fun c=>?_⟩,.inl ⟨hk2,by omega⟩,by simp;omega,fun i hi=>⟨(hlife i hi).1,(all i hi).1,(hlife i hi).2.2.1,(hlife i hi).2.2.2.1⟩,⟨by unfold jhm;simp;omega,fun i hi=>by rw [jl2 S' _ (by simp;omega)];exact (all i hi).2,hans,fun i hi=>?_⟩⟩
  ·rcases hkind with k|k
   ·omega
   ·rw [gC,gN];omega
  ·rcases hkind with k|k
   ·rw [gC,gN];omega
   ·omega
  ·rw [ho,jfc]
   by_cases e:i<S.os.length
   ·rw [if_pos e];exact h.cu i e
   ·rw [if_neg e,if_pos (by omega),hcc];exact hnum
theorem jwu {S:Sal} {j:Nat} {f:Lf} {o:Ord} (h:ji8 S.C S.now (je7 f (jch S j o) S.now) o) (hk:(jch S j o).kind=14):f.cents=o.cents/\f.units=o.units:=by
 have h14:o.state=14:=by
  revert hk
  unfold jch
  split
  ·simp
  split
  ·simp
  split
  ·simp
  split
  ·next e=>intro _;exact e
  ·exact id
 have e:(je7 f (jch S j o) S.now).cents=f.cents/\(je7 f (jch S j o) S.now).units=f.units:=by
  unfold je7
  rw [if_neg (by omega),if_neg (by omega),if_neg (by omega)]
  split<;>exact ⟨rfl,rfl⟩
 obtain ⟨_,h2,_,_,h5⟩:=h
 refine ⟨?_,e.2.symm.trans h2⟩
 rw [← e.1]
 rcases h5 with c|c|c
 ·omega
 ·omega
 ·exact c.2.2.2.1 h14
end Go.Proofs.YtfhncfghblkgeaaGreat
