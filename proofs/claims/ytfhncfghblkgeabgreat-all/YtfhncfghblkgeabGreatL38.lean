import Derived.Test.YtfhncfghblkgeabGreatL37
set_option maxRecDepth 100000
set_option maxHeartbeats 2000000
namespace Go.Proofs.YtfhncfghblkgeabGreat
open Go.RowKit
section
def qX (P:World->(Nat->Prop)->Prop) (w:World) (own loc:Nat->Prop) (W:World):Prop :=
 ∃ own',P W own'/\Same own w W/\(∀ k,own' k->own k\/(w.heap.size<=k/\¬ loc k))/\∀ k,loc k->w.heap.size<=k/\k<W.heap.size
section
variable {P P':World->(Nat->Prop)->Prop} {w W W':World} {own loc:Nat->Prop}
theorem yH (K:Keeps P) (h:P w own) (hb:Below w.heap.size w W) (hl:∀ k,loc k->w.heap.size<=k/\k<W.heap.size):qX P w own loc W :=
 ⟨own,K.keep h hb.size (fun k e=>hb.block k (K.lt h k e)),Same.of_below hb,fun _ e=>.inl e,hl⟩
theorem qI (K:Keeps P) (h:qX P w own loc W) (hb:Below W.heap.size W W'):qX P w own loc W':=by
 obtain ⟨o1,a1,a2,a3,a4⟩:=h
 have z:=hb.size
 exact ⟨o1,K.keep a1 hb.size (fun k e=>hb.block k (K.lt a1 k e)),Same.trans a2 (Same.of_below (own:=own) hb) (fun k _ e=>e.elim id id),a3,fun k e=>⟨(a4 k e).1,by have:=(a4 k e).2;omega⟩⟩
theorem xI (K:Keeps P) (h:qX P w own loc W) (O:Obj):qX P w own (fun k=>loc k\/k=W.heap.size) (W.alloc O):=by
 obtain ⟨o1,a1,a2,a3,a4⟩:=h
 have hb:Below W.heap.size W (W.alloc O):=(uM _ _).alloc (uA _) _
 have z:=a2.size
 refine ⟨o1,K.keep a1 hb.size (fun k e=>hb.block k (K.lt a1 k e)),Same.trans a2 (Same.of_below (own:=own) hb) (fun k _ e=>e.elim id id),fun k e=>?_,fun k e=>?_⟩
 ·have:=K.lt a1 k e
  exact (a3 k e).imp id (fun c=>⟨c.1,fun d=>d.elim c.2 (fun d=>uO)⟩)
 ·rcases e with e|e
  ·have:=a4 k e;exact ⟨this.1,by simp;omega⟩
  ·subst e;exact ⟨z,by simp⟩
theorem xY (K:Keeps P) (h:qX P w own loc W) (hw:∀ k,own k->k<w.heap.size) {b i:Nat} (hb:loc b) (v:Value):qX P w own loc (W.sc b i v):=by
 obtain ⟨o1,a1,a2,a3,a4⟩:=h
 have hk:∀ k,k≠b->(W.sc b i v).heap[k]?=W.heap[k]?:=fun k e=>uG _ (aq b i) _ _ e
 have hz:(W.sc b i v).heap.size=W.heap.size:=by simp [World.setCell]
 have hbl:=a4 b hb
 refine ⟨o1,K.keep a1 uO (fun k e=>hk k (fun c=>?_)),⟨a2.os,a2.tape,a2.output,by have:=a2.size;omega,fun k hk' hn=>(hk k uO).trans (a2.block k hk' hn)⟩,a3,fun k e=>by rw [hz];exact a4 k e⟩
 subst c
 rcases a3 k e with e|e
 ·have:=hw k e;omega
 ·exact e.2 hb
theorem zX (K:Keeps P) (h:qX P w own loc W) (hw:∀ k,own k->k<w.heap.size) {b:Nat} (hb:loc b) (v0 v1 v2 v3:Value):qX P w own loc ((((W.sc b 0 v0).sc b 1 v1).sc b 2 v2).sc b 3 v3) :=
 xY K (xY K (xY K (xY K h hw hb v0) hw hb v1) hw hb v2) hw hb v3
theorem zE (h:qX P w own loc W):zQ P w W own:=by
 obtain ⟨o1,a1,a2,a3,_⟩:=h
 exact ⟨o1,a1,a2,fun k e=>(a3 k e).imp id (fun e=>e.1)⟩
theorem qS (hw:∀ k,own k->k<w.heap.size) {f:FuncId} {args:Array Value} {v:Value} (h:∀ W o,P W o->Ca f args W fun e w'=>e=.returned v/\zQ P' W w' o) (W:World) (hT:qX P w own loc W) :
 Ca f args W fun e w'=>e=.returned v/\qX P' w own loc w'/\∀ b,loc b->w'.heap[b]?=W.heap[b]?:=by
 obtain ⟨o1,a1,a2,a3,a4⟩:=hT
 refine (h W o1 a1).mono ?_
 rintro e w' ⟨rfl,o2,b1,b2,b3⟩
 have z1:=a2.size
 have z2:=b2.size
 refine ⟨rfl,⟨o2,b1,Same.trans a2 b2 (fun k hk e=>e.elim id (fun e=>(a3 k e).elim id (fun e=>uO))),fun k e=>(b3 k e).elim (a3 k) (fun e=>.inr ⟨uO,fun c=>by have:=(a4 k c).2;omega⟩),fun k e=>⟨(a4 k e).1,by have:=(a4 k e).2;omega⟩⟩,fun b hb=>b2.block b (a4 b hb).2 (fun e=>?_)⟩
 rcases a3 b e with e|e
 ·have:=hw b e;have:=(a4 b hb).1;omega
 ·exact e.2 hb
theorem fV (K:Keeps P) (hw:∀ k,own k->k<w.heap.size) {f:FuncId} {args:Array Value} {v:Value} (h:∀ W o,P W o->Ca f args W fun e w'=>e=.returned v/\Below W.heap.size W w') (W:World) (hT:qX P w own loc W) :
 Ca f args W fun e w'=>e=.returned v/\qX P w own loc w'/\∀ b,loc b->w'.heap[b]?=W.heap[b]?:=by
 refine qS hw (fun W o hp=>(h W o hp).mono ?_) W hT
 rintro e w' ⟨rfl,hb⟩
 exact ⟨rfl,yY K hp hb⟩
end
def jX (w:World) (own:Nat->Prop) (P P':World->(Nat->Prop)->Prop) (f:FuncId) (args:Array Value) (v:Value):Prop :=
 ∀ loc W,qX P w own loc W->Ca f args W fun e w'=>e=.returned v/\qX P' w own loc w'/\∀ b,loc b->w'.heap[b]?=W.heap[b]?
theorem aK (W:World) (b k:Nat) (h:k≠b) (v0 v1 v2 v3 v4 v5:Value):((((((W.sc b 0 v0).sc b 1 v1).sc b 2 v2).sc b 3 v3).sc b 4 v4).sc b 5 v5).heap[k]?=W.heap[k]?:=by
 rw [uG _ (aq b 5) _ _ h,uG _ (aq b 4) _ _ h,uG _ (aq b 3) _ _ h,uG _ (aq b 2) _ _ h,uG _ (aq b 1) _ _ h,uG _ (aq b 0) _ _ h]
theorem Sz (x:Nat) (k t c u o:Int) (w:World)
 (HG:Hid (∀ W,Below w.heap.size w W->Ca 95 #[pt x 11,iv o] W fun e w'=>e=.returned (.tuple #[.agg #[iv 0,iv 0,iv 0,iv 0,iv 0,iv 0],.bool false])/\Below W.heap.size W w')) :
 Ca 66 #[pt x 0,.agg #[iv k,iv t,iv c,iv u,iv o]] w fun e w'=>e=.returned (.tuple #[.agg #[iv 0,iv 0,iv 0,iv 0,iv 0,iv 0],.bool false])/\Below w.heap.size w w':=by
 go_enter Tryz.func66,Tryz.ntmps66
 go_wp2_with fail
 have qb:=zq1 w #[iv k,iv t,iv c,iv u,iv o] 39 #[iv 0,iv 0,iv 0,iv 0,iv 0,iv 0] 142
 have rb:=zq2 w #[iv k,iv t,iv c,iv u,iv o] 39 #[iv 0,iv 0,iv 0,iv 0,iv 0,iv 0] 142
 have hbl:=zq3 w #[iv k,iv t,iv c,iv u,iv o] 39 #[iv 0,iv 0,iv 0,iv 0,iv 0,iv 0] 142
 generalize (w.alloc (.cells #[iv k,iv t,iv c,iv u,iv o] 39)).alloc (.cells #[iv 0,iv 0,iv 0,iv 0,iv 0,iv 0] 142)=W0 at qb rb hbl ⊢
 obtain ⟨p0,p1,p2,p3,p4⟩:=qU qb.out
 have lw:w.heap.size<W0.heap.size:=(blt qb.out)
 have lv:w.heap.size+1<W0.heap.size:=(blt rb.out)
 go_region_with
  (first
    | (go_at_call 95;refine (HG.out _ (by repeat (first|exact hbl.out|refine Below.drew ?_|refine qY ?_|refine Below.alloc ?_ (by have:=hbl.out.size;omega) _))).mono ?_;rintro e W1 ⟨rfl,b⟩
       have hb1:Below W0.heap.size W0 W1:=by first|exact b|exact uL (show Below W0.heap.size W0 _ from bL) (b.mono vS)
       first
        | (have nb:Hid (W1.heap[W0.heap.size]?=some (.cells #[iv 0,iv 0,iv 0,iv 0,iv 0,iv 0] 142)):=(b.block W0.heap.size (by simp;done)).trans (uF W0 _)
           have e0:=qA nb.out 0
           have e1:=qA nb.out 1
           have e2:=qA nb.out 2
           have e3:=qA nb.out 3
           have e4:=qA nb.out 4
           have e5:=qA nb.out 5
           obtain ⟨n0,n1,n2,n3,n4,n5⟩:=qB nb.out
           have ln:W0.heap.size<W1.heap.size:=(blt nb.out))
        | skip
       have hbl1:Hid (Below w.heap.size w W1):=uL hbl.out (hb1.mono hbl.out.size)
       have qb1:Hid _:=(hb1.block w.heap.size lw).trans qb.out
       have rb1:Hid _:=(hb1.block (w.heap.size+1) lv).trans rb.out
       obtain ⟨q0,q1,q2,q3,q4⟩:=qU qb1.out
       have lw1:w.heap.size<W1.heap.size:=uB lw hb1.size
       have lv1:w.heap.size+1<W1.heap.size:=uB lv hb1.size
       clear b hb1))
 all_goals clear p0 p1 p2 p3 p4 HG
 all_goals (first
  | (have ob2:Hid (((((((W1.setCell (aq W0.heap.size 0) (iv 0)).setCell (aq W0.heap.size 1) (iv 0)).setCell (aq W0.heap.size 2) (iv 0)).setCell (aq W0.heap.size 3) (iv 0)).setCell (aq W0.heap.size 4) (iv 0)).setCell (aq W0.heap.size 5) (iv 0)).heap[W0.heap.size]?=some (.cells #[iv 0,iv 0,iv 0,iv 0,iv 0,iv 0] 142)):=gA nb.out _ _ _ _ _ _
     have hb2:Hid (Below w.heap.size w ((((((W1.setCell (aq W0.heap.size 0) (iv 0)).setCell (aq W0.heap.size 1) (iv 0)).setCell (aq W0.heap.size 2) (iv 0)).setCell (aq W0.heap.size 3) (iv 0)).setCell (aq W0.heap.size 4) (iv 0)).setCell (aq W0.heap.size 5) (iv 0))):=zL hbl1.out (by have:=hbl.out.size;omega)
     have qb2:Hid (((((((W1.setCell (aq W0.heap.size 0) (iv 0)).setCell (aq W0.heap.size 1) (iv 0)).setCell (aq W0.heap.size 2) (iv 0)).setCell (aq W0.heap.size 3) (iv 0)).setCell (aq W0.heap.size 4) (iv 0)).setCell (aq W0.heap.size 5) (iv 0)).heap[w.heap.size]?=_):=(aK W1 W0.heap.size _ uO _ _ _ _ _ _).trans qb1.out
     have rb2:Hid (((((((W1.setCell (aq W0.heap.size 0) (iv 0)).setCell (aq W0.heap.size 1) (iv 0)).setCell (aq W0.heap.size 2) (iv 0)).setCell (aq W0.heap.size 3) (iv 0)).setCell (aq W0.heap.size 4) (iv 0)).setCell (aq W0.heap.size 5) (iv 0)).heap[w.heap.size+1]?=_):=(aK W1 W0.heap.size _ uO _ _ _ _ _ _).trans rb1.out
     clear e0 e1 e2 e3 e4 e5 n0 n1 n2 n3 n4 n5
     generalize (((((W1.setCell (aq W0.heap.size 0) (iv 0)).setCell (aq W0.heap.size 1) (iv 0)).setCell (aq W0.heap.size 2) (iv 0)).setCell (aq W0.heap.size 3) (iv 0)).setCell (aq W0.heap.size 4) (iv 0)).setCell (aq W0.heap.size 5) (iv 0)=W2 at ob2 hb2 qb2 rb2 ⊢)
  | (have ob2:Hid ((W1.alloc (.cells #[iv 0,iv 0,iv 0,iv 0,iv 0,iv 0] 142)).heap[W1.heap.size]?=some (.cells #[iv 0,iv 0,iv 0,iv 0,iv 0,iv 0] 142)):=uF W1 _
     have hb2:Hid (Below w.heap.size w (W1.alloc (.cells #[iv 0,iv 0,iv 0,iv 0,iv 0,iv 0] 142))):=hbl1.out.alloc uO _
     have qb2:Hid ((W1.alloc (.cells #[iv 0,iv 0,iv 0,iv 0,iv 0,iv 0] 142)).heap[w.heap.size]?=_):=(uE _ _ _ lw1).trans qb1.out
     have rb2:Hid ((W1.alloc (.cells #[iv 0,iv 0,iv 0,iv 0,iv 0,iv 0] 142)).heap[w.heap.size+1]?=_):=(uE _ _ _ lv1).trans rb1.out
     generalize W1.alloc (.cells #[iv 0,iv 0,iv 0,iv 0,iv 0,iv 0] 142)=W2 at ob2 hb2 qb2 rb2 ⊢))
 all_goals
  clear q0 q1 q2 q3 q4
  obtain ⟨p0,p1,p2,p3,p4⟩:=qU qb2.out
  obtain ⟨m0,m1,m2,m3,m4,m5⟩:=qB ob2.out
  obtain ⟨s0,s1,s2,s3,s4,s5⟩:=qB rb2.out
  have f0:=qA rb2.out 0
  have f1:=qA rb2.out 1
  have f2:=qA rb2.out 2
  have f3:=qA rb2.out 3
  have f4:=qA rb2.out 4
  have f5:=qA rb2.out 5
  have lv2:w.heap.size+1<W2.heap.size:=(blt rb2.out)
  have HE:Hid (∀ v0 v1 v2 v3 v4 v5,Below w.heap.size w ((((((W2.setCell (aq (w.heap.size+1) 0) v0).setCell (aq (w.heap.size+1) 1) v1).setCell (aq (w.heap.size+1) 2) v2).setCell (aq (w.heap.size+1) 3) v3).setCell (aq (w.heap.size+1) 4) v4).setCell (aq (w.heap.size+1) 5) v5)):=fun v0 v1 v2 v3 v4 v5=>zL hb2.out uO
  go_wp2
  refine uK (v:=.tuple #[.agg #[iv 0,iv 0,iv 0,iv 0,iv 0,iv 0],.bool false]) (by simp [results,Tryz.results66,go_sem,s0,s1,s2,s3,s4,s5]) rfl ⟨rfl,?_⟩
  exact HE.out _ _ _ _ _ _
theorem Fo (x:Nat) (k t c u o num cust units st cents up:Int) (w:World) (hc:cust≠c)
 (HG:Hid (∀ W,Below w.heap.size w W->Ca 95 #[pt x 11,iv o] W fun e w'=>e=.returned (.tuple #[.agg #[iv num,iv cust,iv units,iv st,iv cents,iv up],.bool true])/\Below W.heap.size W w')) :
 Ca 66 #[pt x 0,.agg #[iv k,iv t,iv c,iv u,iv o]] w fun e w'=>e=.returned (.tuple #[.agg #[iv 0,iv 0,iv 0,iv 0,iv 0,iv 0],.bool false])/\Below w.heap.size w w':=by
 go_enter Tryz.func66,Tryz.ntmps66
 go_wp2_with fail
 have qb:=zq1 w #[iv k,iv t,iv c,iv u,iv o] 39 #[iv 0,iv 0,iv 0,iv 0,iv 0,iv 0] 142
 have rb:=zq2 w #[iv k,iv t,iv c,iv u,iv o] 39 #[iv 0,iv 0,iv 0,iv 0,iv 0,iv 0] 142
 have hbl:=zq3 w #[iv k,iv t,iv c,iv u,iv o] 39 #[iv 0,iv 0,iv 0,iv 0,iv 0,iv 0] 142
 generalize (w.alloc (.cells #[iv k,iv t,iv c,iv u,iv o] 39)).alloc (.cells #[iv 0,iv 0,iv 0,iv 0,iv 0,iv 0] 142)=W0 at qb rb hbl ⊢
 obtain ⟨p0,p1,p2,p3,p4⟩:=qU qb.out
 have lw:w.heap.size<W0.heap.size:=(blt qb.out)
 have lv:w.heap.size+1<W0.heap.size:=(blt rb.out)
 go_region_with
  (first
    | (go_at_call 95;refine (HG.out _ (by repeat (first|exact hbl.out|refine Below.drew ?_|refine qY ?_|refine Below.alloc ?_ (by have:=hbl.out.size;omega) _))).mono ?_;rintro e W1 ⟨rfl,b⟩
       have hb1:Below W0.heap.size W0 W1:=by first|exact b|exact uL (show Below W0.heap.size W0 _ from bL) (b.mono vS)
       first
        | (have nb:Hid (W1.heap[W0.heap.size]?=some (.cells #[iv 0,iv 0,iv 0,iv 0,iv 0,iv 0] 142)):=(b.block W0.heap.size (by simp;done)).trans (uF W0 _)
           have e0:=qA nb.out 0
           have e1:=qA nb.out 1
           have e2:=qA nb.out 2
           have e3:=qA nb.out 3
           have e4:=qA nb.out 4
           have e5:=qA nb.out 5
           obtain ⟨n0,n1,n2,n3,n4,n5⟩:=qB nb.out
           have ln:W0.heap.size<W1.heap.size:=(blt nb.out))
        | skip
       have hbl1:Hid (Below w.heap.size w W1):=uL hbl.out (hb1.mono hbl.out.size)
       have qb1:Hid _:=(hb1.block w.heap.size lw).trans qb.out
       have rb1:Hid _:=(hb1.block (w.heap.size+1) lv).trans rb.out
       obtain ⟨q0,q1,q2,q3,q4⟩:=qU qb1.out
       have lw1:w.heap.size<W1.heap.size:=uB lw hb1.size
       have lv1:w.heap.size+1<W1.heap.size:=uB lv hb1.size
       clear b hb1))
 all_goals clear p0 p1 p2 p3 p4 HG
 all_goals (first
  | (have ob2:Hid (((((((W1.setCell (aq W0.heap.size 0) (iv num)).setCell (aq W0.heap.size 1) (iv cust)).setCell (aq W0.heap.size 2) (iv units)).setCell (aq W0.heap.size 3) (iv st)).setCell (aq W0.heap.size 4) (iv cents)).setCell (aq W0.heap.size 5) (iv up)).heap[W0.heap.size]?=some (.cells #[iv num,iv cust,iv units,iv st,iv cents,iv up] 142)):=gA nb.out _ _ _ _ _ _
     have hb2:Hid (Below w.heap.size w ((((((W1.setCell (aq W0.heap.size 0) (iv num)).setCell (aq W0.heap.size 1) (iv cust)).setCell (aq W0.heap.size 2) (iv units)).setCell (aq W0.heap.size 3) (iv st)).setCell (aq W0.heap.size 4) (iv cents)).setCell (aq W0.heap.size 5) (iv up))):=zL hbl1.out (by have:=hbl.out.size;omega)
     have qb2:Hid (((((((W1.setCell (aq W0.heap.size 0) (iv num)).setCell (aq W0.heap.size 1) (iv cust)).setCell (aq W0.heap.size 2) (iv units)).setCell (aq W0.heap.size 3) (iv st)).setCell (aq W0.heap.size 4) (iv cents)).setCell (aq W0.heap.size 5) (iv up)).heap[w.heap.size]?=_):=(aK W1 W0.heap.size _ uO _ _ _ _ _ _).trans qb1.out
     have rb2:Hid (((((((W1.setCell (aq W0.heap.size 0) (iv num)).setCell (aq W0.heap.size 1) (iv cust)).setCell (aq W0.heap.size 2) (iv units)).setCell (aq W0.heap.size 3) (iv st)).setCell (aq W0.heap.size 4) (iv cents)).setCell (aq W0.heap.size 5) (iv up)).heap[w.heap.size+1]?=_):=(aK W1 W0.heap.size _ uO _ _ _ _ _ _).trans rb1.out
     clear e0 e1 e2 e3 e4 e5 n0 n1 n2 n3 n4 n5
     generalize (((((W1.setCell (aq W0.heap.size 0) (iv num)).setCell (aq W0.heap.size 1) (iv cust)).setCell (aq W0.heap.size 2) (iv units)).setCell (aq W0.heap.size 3) (iv st)).setCell (aq W0.heap.size 4) (iv cents)).setCell (aq W0.heap.size 5) (iv up)=W2 at ob2 hb2 qb2 rb2 ⊢)
  | (have ob2:Hid ((W1.alloc (.cells #[iv num,iv cust,iv units,iv st,iv cents,iv up] 142)).heap[W1.heap.size]?=some (.cells #[iv num,iv cust,iv units,iv st,iv cents,iv up] 142)):=uF W1 _
     have hb2:Hid (Below w.heap.size w (W1.alloc (.cells #[iv num,iv cust,iv units,iv st,iv cents,iv up] 142))):=hbl1.out.alloc uO _
     have qb2:Hid ((W1.alloc (.cells #[iv num,iv cust,iv units,iv st,iv cents,iv up] 142)).heap[w.heap.size]?=_):=(uE _ _ _ lw1).trans qb1.out
     have rb2:Hid ((W1.alloc (.cells #[iv num,iv cust,iv units,iv st,iv cents,iv up] 142)).heap[w.heap.size+1]?=_):=(uE _ _ _ lv1).trans rb1.out
     generalize W1.alloc (.cells #[iv num,iv cust,iv units,iv st,iv cents,iv up] 142)=W2 at ob2 hb2 qb2 rb2 ⊢))
 all_goals
  clear q0 q1 q2 q3 q4
  obtain ⟨p0,p1,p2,p3,p4⟩:=qU qb2.out
  obtain ⟨m0,m1,m2,m3,m4,m5⟩:=qB ob2.out
  obtain ⟨s0,s1,s2,s3,s4,s5⟩:=qB rb2.out
  have f0:=qA rb2.out 0
  have f1:=qA rb2.out 1
  have f2:=qA rb2.out 2
  have f3:=qA rb2.out 3
  have f4:=qA rb2.out 4
  have f5:=qA rb2.out 5
  have lv2:w.heap.size+1<W2.heap.size:=(blt rb2.out)
  have HE:Hid (∀ v0 v1 v2 v3 v4 v5,Below w.heap.size w ((((((W2.setCell (aq (w.heap.size+1) 0) v0).setCell (aq (w.heap.size+1) 1) v1).setCell (aq (w.heap.size+1) 2) v2).setCell (aq (w.heap.size+1) 3) v3).setCell (aq (w.heap.size+1) 4) v4).setCell (aq (w.heap.size+1) 5) v5)):=fun v0 v1 v2 v3 v4 v5=>zL hb2.out uO
  go_wp2
  refine uK (v:=.tuple #[.agg #[iv 0,iv 0,iv 0,iv 0,iv 0,iv 0],.bool false]) (by simp [results,Tryz.results66,go_sem,s0,s1,s2,s3,s4,s5]) rfl ⟨rfl,?_⟩
  exact HE.out _ _ _ _ _ _
theorem Bu (x:Nat) (k t c u o num units st cents up:Int) (w:World)
 (HG:Hid (∀ W,Below w.heap.size w W->Ca 95 #[pt x 11,iv o] W fun e w'=>e=.returned (.tuple #[.agg #[iv num,iv c,iv units,iv st,iv cents,iv up],.bool true])/\Below W.heap.size W w')) :
 Ca 66 #[pt x 0,.agg #[iv k,iv t,iv c,iv u,iv o]] w fun e w'=>e=.returned (.tuple #[.agg #[iv num,iv c,iv units,iv st,iv cents,iv up],.bool true])/\Below w.heap.size w w':=by
 go_enter Tryz.func66,Tryz.ntmps66
 go_wp2_with fail
 have qb:=zq1 w #[iv k,iv t,iv c,iv u,iv o] 39 #[iv 0,iv 0,iv 0,iv 0,iv 0,iv 0] 142
 have rb:=zq2 w #[iv k,iv t,iv c,iv u,iv o] 39 #[iv 0,iv 0,iv 0,iv 0,iv 0,iv 0] 142
 have hbl:=zq3 w #[iv k,iv t,iv c,iv u,iv o] 39 #[iv 0,iv 0,iv 0,iv 0,iv 0,iv 0] 142
 generalize (w.alloc (.cells #[iv k,iv t,iv c,iv u,iv o] 39)).alloc (.cells #[iv 0,iv 0,iv 0,iv 0,iv 0,iv 0] 142)=W0 at qb rb hbl ⊢
 obtain ⟨p0,p1,p2,p3,p4⟩:=qU qb.out
 have lw:w.heap.size<W0.heap.size:=(blt qb.out)
 have lv:w.heap.size+1<W0.heap.size:=(blt rb.out)
 go_region_with
  (first
    | (go_at_call 95;refine (HG.out _ (by repeat (first|exact hbl.out|refine Below.drew ?_|refine qY ?_|refine Below.alloc ?_ (by have:=hbl.out.size;omega) _))).mono ?_;rintro e W1 ⟨rfl,b⟩
       have hb1:Below W0.heap.size W0 W1:=by first|exact b|exact uL (show Below W0.heap.size W0 _ from bL) (b.mono vS)
       first
        | (have nb:Hid (W1.heap[W0.heap.size]?=some (.cells #[iv 0,iv 0,iv 0,iv 0,iv 0,iv 0] 142)):=(b.block W0.heap.size (by simp;done)).trans (uF W0 _)
           have e0:=qA nb.out 0
           have e1:=qA nb.out 1
           have e2:=qA nb.out 2
           have e3:=qA nb.out 3
           have e4:=qA nb.out 4
           have e5:=qA nb.out 5
           obtain ⟨n0,n1,n2,n3,n4,n5⟩:=qB nb.out
           have ln:W0.heap.size<W1.heap.size:=(blt nb.out))
        | skip
       have hbl1:Hid (Below w.heap.size w W1):=uL hbl.out (hb1.mono hbl.out.size)
       have qb1:Hid _:=(hb1.block w.heap.size lw).trans qb.out
       have rb1:Hid _:=(hb1.block (w.heap.size+1) lv).trans rb.out
       obtain ⟨q0,q1,q2,q3,q4⟩:=qU qb1.out
       have lw1:w.heap.size<W1.heap.size:=uB lw hb1.size
       have lv1:w.heap.size+1<W1.heap.size:=uB lv hb1.size
       clear b hb1))
 all_goals clear p0 p1 p2 p3 p4 HG
 all_goals (first
  | (have ob2:Hid (((((((W1.setCell (aq W0.heap.size 0) (iv num)).setCell (aq W0.heap.size 1) (iv c)).setCell (aq W0.heap.size 2) (iv units)).setCell (aq W0.heap.size 3) (iv st)).setCell (aq W0.heap.size 4) (iv cents)).setCell (aq W0.heap.size 5) (iv up)).heap[W0.heap.size]?=some (.cells #[iv num,iv c,iv units,iv st,iv cents,iv up] 142)):=gA nb.out _ _ _ _ _ _
     have hb2:Hid (Below w.heap.size w ((((((W1.setCell (aq W0.heap.size 0) (iv num)).setCell (aq W0.heap.size 1) (iv c)).setCell (aq W0.heap.size 2) (iv units)).setCell (aq W0.heap.size 3) (iv st)).setCell (aq W0.heap.size 4) (iv cents)).setCell (aq W0.heap.size 5) (iv up))):=zL hbl1.out (by have:=hbl.out.size;omega)
     have qb2:Hid (((((((W1.setCell (aq W0.heap.size 0) (iv num)).setCell (aq W0.heap.size 1) (iv c)).setCell (aq W0.heap.size 2) (iv units)).setCell (aq W0.heap.size 3) (iv st)).setCell (aq W0.heap.size 4) (iv cents)).setCell (aq W0.heap.size 5) (iv up)).heap[w.heap.size]?=_):=(aK W1 W0.heap.size _ uO _ _ _ _ _ _).trans qb1.out
     have rb2:Hid (((((((W1.setCell (aq W0.heap.size 0) (iv num)).setCell (aq W0.heap.size 1) (iv c)).setCell (aq W0.heap.size 2) (iv units)).setCell (aq W0.heap.size 3) (iv st)).setCell (aq W0.heap.size 4) (iv cents)).setCell (aq W0.heap.size 5) (iv up)).heap[w.heap.size+1]?=_):=(aK W1 W0.heap.size _ uO _ _ _ _ _ _).trans rb1.out
     clear e0 e1 e2 e3 e4 e5 n0 n1 n2 n3 n4 n5
     generalize (((((W1.setCell (aq W0.heap.size 0) (iv num)).setCell (aq W0.heap.size 1) (iv c)).setCell (aq W0.heap.size 2) (iv units)).setCell (aq W0.heap.size 3) (iv st)).setCell (aq W0.heap.size 4) (iv cents)).setCell (aq W0.heap.size 5) (iv up)=W2 at ob2 hb2 qb2 rb2 ⊢)
  | (have ob2:Hid ((W1.alloc (.cells #[iv num,iv c,iv units,iv st,iv cents,iv up] 142)).heap[W1.heap.size]?=some (.cells #[iv num,iv c,iv units,iv st,iv cents,iv up] 142)):=uF W1 _
     have hb2:Hid (Below w.heap.size w (W1.alloc (.cells #[iv num,iv c,iv units,iv st,iv cents,iv up] 142))):=hbl1.out.alloc uO _
     have qb2:Hid ((W1.alloc (.cells #[iv num,iv c,iv units,iv st,iv cents,iv up] 142)).heap[w.heap.size]?=_):=(uE _ _ _ lw1).trans qb1.out
     have rb2:Hid ((W1.alloc (.cells #[iv num,iv c,iv units,iv st,iv cents,iv up] 142)).heap[w.heap.size+1]?=_):=(uE _ _ _ lv1).trans rb1.out
     generalize W1.alloc (.cells #[iv num,iv c,iv units,iv st,iv cents,iv up] 142)=W2 at ob2 hb2 qb2 rb2 ⊢))
 all_goals
  clear q0 q1 q2 q3 q4
  obtain ⟨p0,p1,p2,p3,p4⟩:=qU qb2.out
  obtain ⟨m0,m1,m2,m3,m4,m5⟩:=qB ob2.out
  obtain ⟨s0,s1,s2,s3,s4,s5⟩:=qB rb2.out
  have f0:=qA rb2.out 0
  have f1:=qA rb2.out 1
  have f2:=qA rb2.out 2
  have f3:=qA rb2.out 3
  have f4:=qA rb2.out 4
  have f5:=qA rb2.out 5
  have lv2:w.heap.size+1<W2.heap.size:=(blt rb2.out)
  have HE:Hid (∀ v0 v1 v2 v3 v4 v5,Below w.heap.size w ((((((W2.setCell (aq (w.heap.size+1) 0) v0).setCell (aq (w.heap.size+1) 1) v1).setCell (aq (w.heap.size+1) 2) v2).setCell (aq (w.heap.size+1) 3) v3).setCell (aq (w.heap.size+1) 4) v4).setCell (aq (w.heap.size+1) 5) v5)):=fun v0 v1 v2 v3 v4 v5=>zL hb2.out uO
  go_wp2
  refine uK (v:=.tuple #[.agg #[iv num,iv c,iv units,iv st,iv cents,iv up],.bool true]) (by simp [results,Tryz.results66,go_sem,s0,s1,s2,s3,s4,s5]) rfl ⟨rfl,?_⟩
  exact HE.out _ _ _ _ _ _
end
