import Derived.Test.YtfhncfghblkgeabGreatL32
import Derived.Test.YtfhncfghblkgeabGreatL35
set_option maxRecDepth 100000
set_option maxHeartbeats 2000000
namespace Go.Proofs.YtfhncfghblkgeabGreat
open Go.RowKit
theorem Tryz.infoPOrder:(Tryz.prog.info? 142).map (fun i=>(i.zero,i.size,i.bytes))=some (some (.agg #[iv 0,iv 0,iv 0,iv 0,iv 0,iv 0]),6,48):=by kernel_rfl
def Zl (w w':World) (B x p:Nat) (C:Array Value) (T:TypeId) (t:Tr) (s num:Int) (v:Value) (n:Nat) (E L:List Value):Prop :=
 ∃ (t':Tr) (g cap:Nat),w'.heap[x]?=some (.cells (((C.setIfInBounds (p+1) (iv (s+1))).setIfInBounds p (.pointer t'.addr)).setIfInBounds (p+2) (.slice (some (aq g 0)) (n+1) cap)) T (0,0))/\t'.at w'/\t'.toL=zD (num,0) n t.toL/\w'.ownsRow B 142 6 (.slice (some (aq g 0)) (n+1) cap) (n+1) (E++L)/\Same (fun b=>b=x\/v.ownBlock=some b) w w'/\(∀ k,t'.has k->t.has k\/w.heap.size<=k)/\(v.ownBlock=some g\/w.heap.size<=g)
def gQ (w w':World) (B x p:Nat) (C:Array Value) (T:TypeId) (t:Tr) (s num:Int) (v:Value) (n:Nat) (E L:List Value) (rm:Int):Prop :=
 ∃ (t':Tr) (g cap:Nat),w'.heap[x]?=some (.cells ((((C.setIfInBounds (p+1) (iv (s+1))).setIfInBounds p (.pointer t'.addr)).setIfInBounds (p+2) (.slice (some (aq g 0)) (n+1) cap)).setIfInBounds (p+3) (iv rm)) T (0,0))/\t'.at w'/\t'.toL=zD (num,0) n t.toL/\w'.ownsRow B 142 6 (.slice (some (aq g 0)) (n+1) cap) (n+1) (E++L)/\Same (fun b=>b=x\/v.ownBlock=some b) w w'/\(∀ k,t'.has k->t.has k\/w.heap.size<=k)/\(v.ownBlock=some g\/w.heap.size<=g)
theorem Ti {w w':World} {B x p n:Nat} {C:Array Value} {T:TypeId} (hT:T≠178) (hT2:T≠142) {t:Tr} {s num:Int} {v:Value} {E L:List Value} {rm rm':Int} (h2:C[p+2]?=some v) (h3:C[p+3]?=some (iv rm)) (hA:Zl w w' B x p C T t s num v n E L) :
 ∃ gg cp:Nat,w'.cell? (aq x (p+2))=some (.slice (some (aq gg 0)) (n+1) cp)/\w'.cell? (aq x (p+3))=some (iv rm)/\w'.frozen? (aq x (p+3))=false/\x<w'.heap.size/\(rm'=rm->gQ w w' B x p C T t s num v n E L rm')/\gQ w (w'.setCell (aq x (p+3)) (iv rm')) B x p C T t s num v n E L rm':=by
 obtain ⟨t',g,cap,a1,a2,a3,a4,a5,a6,a7⟩:=hA
 have z2:p+2<C.size:=(blt h2)
 have e2:((((C.setIfInBounds (p+1) (iv (s+1))).setIfInBounds p (.pointer t'.addr)).setIfInBounds (p+2) (.slice (some (aq g 0)) (n+1) cap)))[p+2]?=some (.slice (some (aq g 0)) (n+1) cap):=by
  rw [vE,uQ rfl,uQ (by simpa using z2)]
 have e3:((((C.setIfInBounds (p+1) (iv (s+1))).setIfInBounds p (.pointer t'.addr)).setIfInBounds (p+2) (.slice (some (aq g 0)) (n+1) cap)))[p+3]?=some (iv rm):=by
  rw [vE,uP uO,vE,uP uO,vE,uP uO];exact h3
 refine ⟨g,cap,by rw [uI a1];exact e2,by rw [uI a1];exact e3,qA a1 _,(blt a1),fun e=>⟨t',g,cap,?_,a2,a3,a4,a5,a6,a7⟩,⟨t',g,cap,uH a1 _,t'.at_set a2 a1 hT,a3,?_,jI a5 x _ _ (.inl rfl),a6,a7⟩⟩
 ·rw [e,gM e3];exact a1
 ·exact qG a4 (fun k hk=>uG _ (aq x (p+3)) _ _ (fun e=>qP a4 a1 (fun e=>hT2 e.symm) (by rw [hk,show k=x from e])))
theorem pW {w w':World} {B x p n:Nat} {C:Array Value} {T:TypeId} {t:Tr} {s num:Int} {v:Value} {E L:List Value} {rm:Int} (h:gQ w w' B x p C T t s num v n E L rm):gQ w w'.drew B x p C T t s num v n E L rm:=by
 obtain ⟨t',g,cap,a1,a2,a3,a4,a5,a6,a7⟩:=h
 exact ⟨t',g,cap,a1,t'.at_keep a2 (fun _ _=>rfl),a3,a4.drew,rX a5,a6,a7⟩
theorem Cv {w W w4 w5:World} {B x p n g cap:Nat} {C:Array Value} {T:TypeId} (hT:T≠178) (hT2:T≠142) {t:Tr} {s num:Int} {v:Value} {E L:List Value} {O:Obj} (hW:Below w.heap.size w W) (hA:zC W w4 x p C T (s+1) t (zD (num,0) n t.toL)) (hvn:∀ k,v.ownBlock=some k->∃ Co,w4.heap[k]?=some (.cells Co 142 (0,0)))
 (hown:w5.ownsRow B 142 6 (.slice (some (aq g 0)) (n+1) cap) (n+1) (E++L)) (hg:(w4.alloc O).grownBy w5 v.ownBlock) (hat:v.ownBlock=some g\/g=w4.heap.size+1) :
 Zl w (w5.setCell (aq x (p+2)) (.slice (some (aq g 0)) (n+1) cap)) B x p C T t s num v n E L:=by
 obtain ⟨t',a1,a2,a3,a4,a5⟩:=hA
 have zW:=hW.size
 have z4:=a4.size
 have hx4:x<w4.heap.size:=(blt a1)
 have k1:∀ k,k<w4.heap.size->v.ownBlock≠some k->w5.heap[k]?=w4.heap[k]?:=fun k hk hn=>(hg.block k uT (fun e=>hn e.symm)).trans (uE w4 O k hk)
 have z5:w4.heap.size+1<=w5.heap.size:=by have:=hg.size;simpa using this
 have hvx:v.ownBlock≠some x:=fun e=>by
  obtain ⟨Co,hC⟩:=hvn x e
  rw [a1] at hC
  simp only [Option.some.injEq,Obj.cells.injEq] at hC
  exact hT2 hC.2.1
 have hx5:=(k1 x hx4 hvx).trans a1
 have ks:∀ k,k≠x->(w5.setCell (aq x (p+2)) (.slice (some (aq g 0)) (n+1) cap)).heap[k]?=w5.heap[k]?:=fun k hk=>uG _ (aq x (p+2)) _ _ hk
 have hgx:g≠x:=by
  rintro rfl
  rcases hat with e|e
  ·exact hvx e
  ·omega
 refine ⟨t',g,cap,uH hx5 _,t'.at_keep a2 (fun k hk=>?_),a3,qG hown (fun k hk=>ks k (fun e=>hgx (by simp [Value.ownBlock] at hk;exact hk.trans e))),⟨hg.os.trans (a4.os.trans hW.os),hg.tape.trans (a4.tape.trans hW.tape),hg.output.trans (a4.output.trans hW.output),by simp [World.setCell];omega,fun k hk hn=>?_⟩,fun k hk=>(a5 k hk).imp id (fun e=>uO),hat.imp id (fun e=>uO)⟩
 ·have hk4:=t'.at_lt a2 hk
  obtain ⟨C',hC⟩:=t'.at_type a2 hk
  have hkx:k≠x:=fun e=>by
   rw [e,a1] at hC
   simp only [Option.some.injEq,Obj.cells.injEq] at hC
   exact hT hC.2.1
  refine (ks k hkx).trans (k1 k hk4 (fun e=>?_))
  obtain ⟨Co,hCo⟩:=hvn k e
  rw [hCo] at hC
  simp only [Option.some.injEq,Obj.cells.injEq] at hC
  exact absurd hC.2.1 vO
 ·rw [ks k (fun e=>hn (.inl e)),k1 k uO (fun e=>hn (.inr e)),a4.block k uO (fun e=>hn (.inl e))]
  exact hW.block k hk
theorem Cc (B x p n oc:Nat) (oo:Option Addr) (C:Array Value) (T:TypeId) (hT:T≠178) (hT2:T≠142) (t:Tr) (s num cust units st cents upto:Int) (E:List Value) (w:World) (hx:w.heap[x]?=some (.cells C T (0,0))) (h0:C[p]?=some (.pointer t.addr)) (h1:C[p+1]?=some (iv s)) (h2:C[p+2]?=some (.slice oo n oc)) (rm rm':Int) (h3:C[p+3]?=some (iv rm)) (hrm:rm'=if rm<(n:Int)+1 then (n:Int)+1 else rm) (ht:t.at w) (hs:srt t.toL) (hn:yO (num,0) t.toL=none) (hsz:0<=s/\s<9223372036854775807) (hO:w.ownsRow B 142 6 (.slice oo n oc) n E) (hl:n * 48+48<=140737488351232) (hB:B<=w.heap.size) :
 Calls Tryz.prog 156 #[pt x p,.agg #[iv num,iv cust,iv units,iv st,iv cents,iv upto]] w fun e w'=>e=.returned (.tuple #[])/\gQ w w' B x p C T t s num (.slice oo n oc) n E [iv num,iv cust,iv units,iv st,iv cents,iv upto] rm':=by
 have hxw:x<w.heap.size:=(blt hx)
 have HG:Hid (∀ W,Below w.heap.size w W->Calls Tryz.prog 62 #[pt x p,.agg #[iv num,iv 0]] W fun e w'=>e=.returned (.tuple #[iv 0,.bool false])/\Below W.heap.size W w'):=fun W hW=>by
  have:=xE x p t num 0 W ((hW.cell (p:=(aq x p)) hxw).trans (by rw [uI hx];exact h0)) (t.at_below ht hW) hs
  rw [hn] at this
  exact this
 have HP:Hid (∀ W,Below w.heap.size w W->Calls Tryz.prog 99 #[pt x p,.agg #[iv num,iv 0],iv n] W fun e w'=>e=.returned (.tuple #[])/\zC W w' x p C T (s+1) t (zD (num,0) n t.toL)):=fun W hW=>nO x p C T hT t s num 0 n W ((hW.block x hxw).trans hx) h0 h1 (t.at_below ht hW) hs hn hsz
 have kl:w.cell? (aq x (p+2))=some (.slice oo n oc):=by rw [uI hx];exact h2
 have hvx:Value.ownBlock (.slice oo n oc)≠some x:=qP hO hx (fun e=>hT2 e.symm)
 have HAPP:Hid (∀ W w4,Below w.heap.size w W->zC W w4 x p C T (s+1) t (zD (num,0) n t.toL)->w4.ownsRow B 142 6 (.slice oo n oc) n E/\B<=w4.heap.size/\w4.cell? (aq x (p+2))=some (.slice oo n oc)/\w4.frozen? (aq x (p+2))=false/\x<w4.heap.size/\(∀ w5 O,(w4.alloc O).drew.grownBy w5 (Value.ownBlock (.slice oo n oc))->w5.cell? (aq x (p+2))=some (.slice oo n oc)/\w5.frozen? (aq x (p+2))=false)/\∀ w5 g cp O,w5.ownsRow B 142 6 (.slice (some (aq g 0)) (n+1) cp) (n+1) (E++[iv num,iv cust,iv units,iv st,iv cents,iv upto])->(w4.alloc O).grownBy w5 (Value.ownBlock (.slice oo n oc))->(Value.ownBlock (.slice oo n oc)=some g\/g=w4.heap.size+1)->Zl w (w5.setCell (aq x (p+2)) (.slice (some (aq g 0)) (n+1) cp)) B x p C T t s num (.slice oo n oc) n E [iv num,iv cust,iv units,iv st,iv cents,iv upto]):=fun W w4 hW hA=>by
  have hA0:=hA
  obtain ⟨t',a1,a2,a3,a4,a5⟩:=hA
  have zW:=hW.size
  have z4:=a4.size
  have hOW:=qH hO hW (uA _)
  have hO4:w4.ownsRow B 142 6 (.slice oo n oc) n E:=qG hOW (fun k hk=>a4.block k (uJ hOW k hk).2 (fun e=>hvx (by rw [hk];exact congrArg some e)))
  have e2:((C.setIfInBounds (p+1) (iv (s+1))).setIfInBounds p (.pointer t'.addr))[p+2]?=some (.slice oo n oc):=by
   rw [vE,uP uO,vE,uP uO];exact h2
  have hx4:x<w4.heap.size:=(blt a1)
  refine ⟨hO4,uO,by rw [uI a1];exact e2,qA a1 _,hx4,fun w5 O hg=>?_,fun w5 g cp O q1 q2 q3=>Cv hT hT2 hW hA0 (fun k hk=>?_) q1 q2 q3⟩
  ·have hx5:w5.heap[x]?=_:=(hg.block x uT (fun e=>hvx e.symm)).trans ((uE w4 O x hx4).trans a1)
   exact ⟨by rw [uI hx5];exact e2,qA hx5 _⟩
  ·rcases hO4.2 with ⟨hh,_⟩|⟨g',cp',cur,hh,_,hgg,_⟩
   ·rw [hh] at hk;simp [Value.ownBlock] at hk
   ·rw [hh] at hk
    have e:g'=k:=by simpa [Value.ownBlock] using hk
    rw [← e]
    exact ⟨_,hgg⟩
 have HROOM:Hid (∀ W6,Zl w W6 B x p C T t s num (.slice oo n oc) n E [iv num,iv cust,iv units,iv st,iv cents,iv upto]->∃ gg cp:Nat,W6.cell? (aq x (p+2))=some (.slice (some (aq gg 0)) (n+1) cp)/\W6.cell? (aq x (p+3))=some (iv rm)/\W6.frozen? (aq x (p+3))=false/\x<W6.heap.size/\(rm'=rm->gQ w W6 B x p C T t s num (.slice oo n oc) n E [iv num,iv cust,iv units,iv st,iv cents,iv upto] rm')/\gQ w (W6.setCell (aq x (p+3)) (iv rm')) B x p C T t s num (.slice oo n oc) n E [iv num,iv cust,iv units,iv st,iv cents,iv upto] rm'):=fun W6 hA=>Ti hT hT2 h2 h3 hA
 obtain ⟨i0,j0,j1,j2,j3⟩:=info_parts Tryz.infoPOrder
 clear h3
 clear hx h0 h1 h2 ht hs hn hsz hO hvx
 go_enter Tryz.func156,Tryz.ntmps156
 go_wp2_with fail
 have ob:Hid (((w.alloc (.cells #[iv num,iv cust,iv units,iv st,iv cents,iv upto] 142)).alloc (.cells #[iv num,iv 0] 136)).heap[w.heap.size]?=some (.cells #[iv num,iv cust,iv units,iv st,iv cents,iv upto] 142 (0,0))):=(uE _ _ _ vS).trans (uF w _)
 have kb:Hid (((w.alloc (.cells #[iv num,iv cust,iv units,iv st,iv cents,iv upto] 142)).alloc (.cells #[iv num,iv 0] 136)).heap[w.heap.size+1]?=some (.cells #[iv num,iv 0] 136 (0,0))):=by
  have h:=uF (w.alloc (.cells #[iv num,iv cust,iv units,iv st,iv cents,iv upto] 142)) (.cells #[iv num,iv 0] 136)
  rwa [show (w.alloc (.cells #[iv num,iv cust,iv units,iv st,iv cents,iv upto] 142)).heap.size=w.heap.size+1 by simp] at h
 have hbl:Hid (Below w.heap.size w ((w.alloc (.cells #[iv num,iv cust,iv units,iv st,iv cents,iv upto] 142)).alloc (.cells #[iv num,iv 0] 136))):=((uM _ _).alloc (uA _) _).alloc vS _
 generalize (w.alloc (.cells #[iv num,iv cust,iv units,iv st,iv cents,iv upto] 142)).alloc (.cells #[iv num,iv 0] 136)=W0 at ob kb hbl ⊢
 obtain ⟨y0,y1⟩:=qQ kb.out
 have hz:w.heap.size+1<W0.heap.size:=(blt kb.out)
 have hxW:x<W0.heap.size:=uO
 replace kl:Hid _:=kl
 go_region_held3 (fun w'=>w'.cell? (aq (w.heap.size+1) 0)=some (iv num)/\w'.cell? (aq (w.heap.size+1) 1)=some (iv 0)) (simp [go_sem, *])
  (first
    | (go_at_call 62;refine (HG.out _ bL).mono ?_;rintro e w1 ⟨rfl,b⟩
       have hb1:Below W0.heap.size W0 w1:=by first|exact b|exact uL (show Below W0.heap.size W0 _ from bL) b
       have hbl1:Hid (Below w.heap.size w w1):=uL hbl.out (hb1.mono hbl.out.size)
       have ob1:Hid _:=(hb1.block w.heap.size uO).trans ob.out
       have kb1:Hid _:=(hb1.block (w.heap.size+1) hz).trans kb.out
       obtain ⟨q0,q1⟩:=qQ kb1.out
       have hz1:w.heap.size+1<w1.heap.size:=uB hz hb1.size
       clear b hb1))
 have kl1:=(hbl1.out.cell (p:=(aq x (p+2))) hxw).trans kl.out
 have hx1:x<w1.heap.size:=uO
 go_wp2_with fail
 go_region_held3 (fun w'=>w'.cell? (aq (w.heap.size+1) 0)=some (iv num)/\w'.cell? (aq (w.heap.size+1) 1)=some (iv 0)/\w'.cell? (aq x (p+2))=some (.slice oo n oc)) (simp [go_sem, *])
  (first
    | (go_at_call 99;refine (HP.out _ bL).mono ?_;rintro e w4 ⟨rfl,hq⟩
       obtain ⟨m1,m2,m3,m4,m5,m6,m7⟩:=HAPP.out _ w4 bL hq
       have hsm:=hq.choose_spec.2.2.2.1
       have ob4:Hid _:=(hsm.block w.heap.size (by first|omega|(simp;omega)) (show w.heap.size≠x by omega)).trans ob1.out
       obtain ⟨r0,r1⟩:=qQ ((hsm.block (w.heap.size+1) (by first|exact hz1|simpa using hz1) (show w.heap.size+1≠x by omega)).trans kb1.out)
       replace m1:Hid (w4.ownsRow B 142 6 (.slice oo n oc) n E):=m1
       replace m6:Hid _:=m6
       replace m7:Hid _:=m7
       clear hsm hq))
 obtain ⟨s0,s1,s2,s3,s4,s5⟩:=qB ob4.out
 have hz4:w.heap.size<w4.heap.size:=(blt ob4.out)
 have hnb:Hid ((w4.alloc (.cells #[iv num,iv cust,iv units,iv st,iv cents,iv upto] 142)).heap[w4.heap.size]?=some (.cells #[iv num,iv cust,iv units,iv st,iv cents,iv upto] 142 (0,0))):=uF _ _
 clear y0 y1 q0 q1 r0 r1 HG HP HAPP kl1
 go_wp2_with fail
 go_region_law ((refine step_append_lies _ (by rfl) _ _ _ (by rfl) B 142 i0 (.agg #[iv 0,iv 0,iv 0,iv 0,iv 0,iv 0]) 6 48 Tryz.underlying97 j0 j1 j2 j3 rfl uO (.slice oo n oc) n E (by rfl) ((show w4.ownsRow B 142 6 (.slice oo n oc) n E from m1.out).alloc _).drew (aq w4.heap.size 0) 1 1 [iv num,iv cust,iv units,iv st,iv cents,iv upto] (by rfl) (by rfl) (World.news_of_block (cs:=#[iv num,iv cust,iv units,iv st,iv cents,iv upto]) (t:=142) (fr:=(0,0)) hnb.out) (by simp [Value.oneCell']) uO (by unfold maxLen;omega) uO uT (w4.heap.size+1) vS ?_
                 intro gg cp w5 hown3 hgrow hat hlt
                 obtain ⟨g1,gf⟩:=m6.out w5 _ hgrow
                 replace hown3:Hid _:=hown3
                 replace hgrow:Hid _:=hgrow
                 replace hat:Hid _:=hat))
 all_goals
  have hA:=m7.out w5 gg cp _ hown3.out ⟨hgrow.out.os,hgrow.out.tape,hgrow.out.output,hgrow.out.size,hgrow.out.block⟩ hat.out
  obtain ⟨g6,c6,k2,k3,kf,kx,kn,ks⟩:=HROOM.out _ hA
  clear hA g1 gf
  generalize w5.setCell (aq x (p+2)) (.slice (some (aq gg 0)) (n+1) cp)=W6 at k2 k3 kf kx kn ks ⊢
  replace kn:Hid _:=kn
  replace ks:Hid _:=ks
 all_goals
  by_cases hr:rm<(n:Int)+1
  ·have dr:decide (rm<(n:Int)+1)=true:=by simpa using hr
   have er:rm'=(n:Int)+1:=by rw [hrm,uQ hr]
   subst er
   clear hrm
   go_wp2_with fail
   go_region
   all_goals (first|go_end0|(go_wp2;go_end0)|(go_wp2;refine uK (uR rfl _ _ _) rfl ?_))
   all_goals exact ⟨rfl,pW ks.out⟩
  ·have dr:decide (rm<(n:Int)+1)=false:=by simpa using hr
   have er:rm'=rm:=by rw [hrm,uP hr]
   clear hrm
   go_wp2_with fail
   go_region
   all_goals (first|go_end0|(go_wp2;go_end0)|(go_wp2;refine uK (uR rfl _ _ _) rfl ?_))
   all_goals exact ⟨rfl,pW (kn.out er)⟩
section
theorem YX (x:Nat) (st l wt kp:Int) (w:World) (h3:w.cell? (aq x 3)=some (iv l)) (h4:w.cell? (aq x 4)=some (iv wt)) (h5:w.cell? (aq x 5)=some (iv kp)) :
 Ca 155 #[pt x 0,iv st] w fun e w'=>e=.returned (iv (if st=13 then l else if st=12 then wt else kp))/\Below w.heap.size w w':=by
 by_cases e1:st=13
 ·subst e1
  rw [uQ rfl]
  go_enter Tryz.func155,Tryz.ntmps155
  go_wp2
  go_ret
  exact ⟨rfl,uM _ _⟩
 ·rw [uP e1]
  have q1:(st==13)=false:=by simpa using e1
  by_cases e2:st=12
  ·subst e2
   rw [uQ rfl]
   go_enter Tryz.func155,Tryz.ntmps155
   go_wp2
   go_ret
   exact ⟨rfl,uM _ _⟩
  ·rw [uP e2]
   have q2:(st==12)=false:=by simpa using e2
   go_enter Tryz.func155,Tryz.ntmps155
   go_wp2
   go_ret
   exact ⟨rfl,uM _ _⟩
theorem YC (x:Nat) (a b:Int) (w:World) (h0:w.cell? (aq x 0)=some (iv a)) (h1:w.cell? (aq x 20)=some (iv b)) (ha:0<=a/\a<=4611686018427387904) (hb:-2305843009213693952<=b/\b<=2305843009213693952) :
 Ca 126 #[pt x 0] w fun e w'=>e=.returned (iv (a - b))/\Below w.heap.size w w':=by
 have hw:IntKind.i64.wrap (a - b)=a - b:=yA uO uO
 go_enter Tryz.func126,Tryz.ntmps126
 go_wp2_with fail
 go_quiet (fail)
 go_wp2
 go_ret
 exact ⟨rfl,bL⟩
theorem YR (x:Nat) (a b c:Int) (w:World) (h0:w.cell? (aq x 0)=some (iv a)) (h1:w.cell? (aq x 20)=some (iv b)) (h2:w.cell? (aq x 19)=some (iv c)) (ha:0<=a/\a<=4611686018427387904) (hb:-1152921504606846976<=b/\b<=1152921504606846976) (hc:-1152921504606846976<=c/\c<=1152921504606846976) :
 Ca 38 #[pt x 0] w fun e w'=>e=.returned (iv (a - b - c))/\Below w.heap.size w w':=by
 have hw:IntKind.i64.wrap (a - b)=a - b:=yA uO uO
 have hw2:IntKind.i64.wrap (a - b - c)=a - b - c:=yA uO uO
 go_enter Tryz.func38,Tryz.ntmps38
 go_wp2_with fail
 go_quiet (fail)
 go_wp2
 go_ret
 exact ⟨rfl,bL⟩
theorem Wi (R:Nat) (ap:Option Addr) (lp cp:Nat) (ps:List (Int × Int)) (sold:Int) (w:World) (h7:w.cell? (aq R 7)=some (.slice ap lp cp)) (h20:w.cell? (aq R 20)=some (iv sold)) (ht:Oy w ap lp ps) :
 Ca 162 #[pt R 0] w fun e w'=>e=.returned (iv (xG ps sold ps.length))/\Below w.heap.size w w':=by
 have hRw:R<w.heap.size:=uC w _ h7
 obtain ⟨⟨t1,t2⟩,t5⟩:=ht
 subst t1
 have HT:Hid (0<ps.length->∃ b off,ap=some (aq b off)/\b<w.heap.size/\∀ i,i<ps.length->w.cell? (aq b (off+i * 2))=some (iv (ps.getD i (0,0)).1)/\w.cell? (aq b (off+i * 2+1))=some (iv (ps.getD i (0,0)).2)):=fun h=>t5 (List.length_pos_iff.1 h)
 have H7:Hid (w.cell? (aq R 7)=some (.slice ap ps.length cp)):=h7
 have H20:Hid (w.cell? (aq R 20)=some (iv sold)):=h20
 clear t5 h7 h20
 go_enter Tryz.func162,Tryz.ntmps162
 go_wp2_with fail
 go_loopw [3,4] (fun c i wr=>∃ k:Nat,k<=ps.length/\i=iv k/\c=iv (xG ps sold k)/\Below w.heap.size w wr) (fun _ i _=>ps.length - (intOf i).toNat)
 case atStart=>exact ⟨0,Nat.zero_le _,rfl,rfl,uM _ _⟩
 case round =>
  obtain ⟨k,hk,rfl,rfl,hbel⟩:=hrel
  have c7:=(hbel.cell (p:=(aq R 7)) hRw).trans H7.out
  have c20:=(hbel.cell (p:=(aq R 20)) hRw).trans H20.out
  by_cases hlt:k<ps.length
  ·obtain ⟨b,off,rfl,hbw,hcell⟩:=HT.out uO
   obtain ⟨k0,k1⟩:=hcell k hlt
   have d0:=(hbel.cell (p:=(aq b (off+k * 2))) hbw).trans k0
   have d1:=(hbel.cell (p:=(aq b (off+k * 2+1))) hbw).trans k1
   have HP:Hid (xG ps sold (k+1)=if (ps.getD k (0,0)).1<=sold then (ps.getD k (0,0)).2 else xG ps sold k):=rfl
   have b0:(0:Int)<=(k:Int):=uO
   have b1':(k:Int)<(ps.length:Int):=uO
   clear k0 k1 hcell HT
   generalize ps.getD k (0,0)=p at d0 d1 HP
   obtain ⟨p0,p1⟩:=p
   simp only at d0 d1 HP
   by_cases hle:p0<=sold
   ·have HP2:Hid (xG ps sold (k+1)=p1):=by rw [Hid,HP.out,uQ hle]
    go_wp2_with fail
    go_quiet (fail)
    go_wp2
    exact ⟨⟨k+1,uO,vN,by rw [HP2.out],bL⟩,by simp [intOf];omega⟩
   ·have HP2:Hid (xG ps sold (k+1)=xG ps sold k):=by rw [Hid,HP.out,uP hle]
    have hle':decide (p0<=sold)=false:=by simpa using hle
    go_wp2_with fail
    go_quiet (fail)
    go_wp2
    exact ⟨⟨k+1,uO,vN,by rw [HP2.out],bL⟩,by simp [intOf];omega⟩
  ·have hke:k=ps.length:=uO
   subst hke
   go_wp2
   go_ret
   exact ⟨rfl,hbel⟩
section
variable {W:World} {x:Nat} {own:Nat->Prop} {V:PV}
theorem Od (st:Int) (h:QE W x own V) :
 Ca 155 #[pt x 0,iv st] W fun e w'=>e=.returned (iv (yC V.C st))/\Below W.heap.size W w':=by
 obtain ⟨g,h⟩:=h
 exact YX x st V.C.lease V.C.wait V.C.keep W (h.cell 3 _ rfl) (h.cell 4 _ rfl) (h.cell 5 _ rfl)
theorem YZ (h:QE W x own V) (ha:0<=V.C.stock/\V.C.stock<=4294967296) (hb:0<=V.sold/\V.sold<=4294967296) :
 Ca 126 #[pt x 0] W fun e w'=>e=.returned (iv (V.C.stock - V.sold))/\Below W.heap.size W w':=by
 obtain ⟨g,h⟩:=h
 exact YC x V.C.stock V.sold W (h.cell 0 _ rfl) (h.cell 20 _ rfl) ⟨ha.1,uO⟩ ⟨uO,uO⟩
theorem Wx (h:QE W x own V) (ha:0<=V.C.stock/\V.C.stock<=4294967296) (hb:0<=V.sold/\V.sold<=4294967296) (hc:0<=V.held/\V.held<=4294967296) :
 Ca 38 #[pt x 0] W fun e w'=>e=.returned (iv (V.C.stock - V.sold - V.held))/\Below W.heap.size W w':=by
 obtain ⟨g,h⟩:=h
 exact YR x V.C.stock V.sold V.held W (h.cell 0 _ rfl) (h.cell 20 _ rfl) (h.cell 19 _ rfl) ⟨ha.1,uO⟩ ⟨uO,uO⟩ ⟨uO,uO⟩
theorem Sq (h:QE W x own V) :
 Ca 162 #[pt x 0] W fun e w'=>e=.returned (iv (xG V.C.prices V.sold V.C.prices.length))/\Below W.heap.size W w':=by
 obtain ⟨g,h⟩:=h
 exact Wi x V.pa V.pl V.pc V.C.prices V.sold W (h.cell 7 _ rfl) (h.cell 20 _ rfl) h.tiers
theorem Aq (o:POrd) (h:QE W x own V) (hs:srt V.ot) (hg:yO (o.num,0) V.ot=none) (hl:V.ot.length=V.ol.length) (hz:V.ol.length<=4294967296) :
 Ca 156 #[pt x 11,o.val] W fun e w'=>e=.returned (.tuple #[])/\yN W w' x own { V with ot:=zD (o.num,0) V.ol.length V.ot,ol:=V.ol++[o],orm:=if V.orm<(V.ol.length:Int)+1 then (V.ol.length:Int)+1 else V.orm }:=by
 obtain ⟨g,h⟩:=h
 refine (Cc 0 x 11 V.ol.length g.oc g.oo (yS V g) 105 vO vO g.ot V.ot.length o.num o.cust o.units o.st o.cents o.upto (kV V.ol) W h.blk rfl rfl rfl V.orm _ rfl rfl h.ot.1 (by rw [h.ot.2];exact hs) (by rw [h.ot.2];exact hg) ⟨uO,uO⟩ h.orow uO (Nat.zero_le _)).mono ?_
 rintro e w' ⟨rfl,t',b,cap,a1,a2,a3,a4,a5,a6,a7⟩
 rw [h.ot.2] at a3
 have e1:(V.ot.length:Int)+1=((zD (o.num,0) V.ol.length V.ot).length:Int):=by rw [eB hg];omega
 have e2:(V.ol++[o]).length=V.ol.length+1:=by simp
 rw [e1] at a1
 have hs':Same (g.xs V x) W w':=jO a5 (fun k e=>e.elim .inl (fun e=>.inr (.inl e)))
 refine ⟨rfl,h.turn hs' (V':={ V with ot:=zD (o.num,0) V.ol.length V.ot,ol:=V.ol++[o],orm:=if V.orm<(V.ol.length:Int)+1 then (V.ol.length:Int)+1 else V.orm }) (g':={ g with ot:=t',oo:=some (aq b 0),oc:=cap }) ?_ rfl ⟨rfl,rfl,rfl⟩ ⟨rfl,rfl,rfl,rfl⟩ ⟨rfl,rfl,rfl,rfl⟩ ⟨a2,a3,a6⟩ ⟨h.stay hs' h.qt.1,h.qt.2,fun _ e=>.inl e⟩ ⟨h.stay hs' h.qz.1,h.qz.2,fun _ e=>.inl e⟩ ⟨h.stay hs' h.lu.1,h.lu.2,fun _ e=>.inl e⟩ ⟨h.stay hs' h.att.1,h.att.2,fun _ e=>.inl e⟩ ?_ ?_⟩
 ·rw [a1]
  unfold yS
  simp only [e2]
  rfl
 ·show w'.ownsRow 0 142 6 (.slice (some (aq b 0)) (V.ol++[o]).length cap) (V.ol++[o]).length (kV (V.ol++[o]))/\∀ k,Value.ownBlock (.slice (some (aq b 0)) (V.ol++[o]).length cap)=some k->_
  rw [e2]
  refine ⟨?_,fun k e=>?_⟩
  ·have e3:kV (V.ol++[o])=kV V.ol++o.vals:=by simp [kV]
   rw [e3]
   exact a4
  ·have e4:b=k:=by simpa [Value.ownBlock] using e
   rw [← e4]
   exact a7
 ·refine ⟨qG h.arow (fun k e=>a5.block k (uJ h.arow k e).2 (fun c=>?_)),fun k e=>.inl e⟩
  rcases c with c|c
  ·exact qP h.arow h.blk vO (by rw [e,show k=x from c])
  ·obtain ⟨Co,hCo⟩:=lX h.orow c
   exact qP h.arow hCo vO e
end
end
def Ord.alive (o:Ord):Prop:=o.state=12\/o.state=13
def Sal.knows (S:Sal) (i:Nat):Prop:=i<S.os.length/\((S.os.getD i qD).alive\/S.now<(S.os.getD i qD).untl S.C)
theorem kI {C:Cfg} {o:Ord} (h:o.alive):o.untl C=o.upto:=uQ h
theorem aZ {C:Cfg} {o:Ord} (h:¬ o.alive):o.untl C=o.ended+C.keep:=uP h
theorem Mn {S:Sal} {i:Nat} {o:Ord} (hk:S.knows i) (ho:o.alive\/S.now<o.untl S.C):(S.put i o).knows=S.knows:=by
 funext k
 have hg:(S.put i o).os.getD k qD=if k=i then o else S.os.getD k qD:=zK o hk.1
 have hl:(S.put i o).os.length=S.os.length:=by show (S.os.set i o).length=_;simp
 unfold Sal.knows
 rw [hg,hl]
 by_cases e:k=i
 ·rw [uQ e,e]
  exact propext ⟨fun _=>hk,fun _=>⟨hk.1,ho⟩⟩
 ·rw [uP e]
  rfl
theorem Hu {S:Sal} {o:Ord} (ho:o.alive):(S.more o).knows=fun k=>S.knows k\/k=S.os.length:=by
 funext k
 have hl:(S.more o).os.length=S.os.length+1:=by show (S.os++[o]).length=_;simp
 unfold Sal.knows
 rw [hl]
 by_cases hk:k<S.os.length+1
 ·have hg:(S.more o).os.getD k qD=if k=S.os.length then o else S.os.getD k qD:=yI hk
  rw [hg]
  by_cases e:k=S.os.length
  ·rw [uQ e]
   exact propext ⟨fun _=>.inr e,fun _=>⟨hk,.inl ho⟩⟩
  ·rw [uP e]
   exact propext ⟨fun h=>.inl ⟨uO,h.2⟩,fun h=>h.elim (fun h=>⟨hk,h.2⟩) (fun h=>absurd h e)⟩
 ·exact propext ⟨fun h=>absurd h.1 hk,fun h=>h.elim (fun h=>by have:=h.1;omega) (fun h=>uO)⟩
def Sal.stable (S:Sal):Prop:=∀ q qs,qK S.os=q :: qs->S.free<(S.os.getD q qD).units
theorem cF {S:Sal} (h:S.stable):S.promote=S:=by
 cases hq:qK S.os with
 | nil=>exact nX hq
 | cons q qs=>exact gZ hq (h q qs hq)
theorem lL:∀ (n:Nat) (S:Sal),(qK S.os).length<=n->(yJ n S).stable
 | 0,S,h=>by
   have:qK S.os=[]:=List.length_eq_zero_iff.1 uO
   intro q qs hq
   rw [show yJ 0 S=S from rfl,this] at hq
   cases hq
 | n+1,S,h=>by
   unfold yJ
   split
   ·next hq=>intro q qs hq';rw [hq] at hq';cases hq'
   ·next q qs hq =>
    split
    ·next hf =>
     intro q' qs' hq'
     rw [hq] at hq'
     simp only [List.cons.injEq] at hq'
     rw [← hq'.1]
     exact hf
    ·refine lL n _ ?_
     rw [dE hq]
     rw [hq] at h
     simpa using h
theorem mT (S:Sal):S.promote.stable:=lL _ S (uA _)
theorem lK {Q:Ord->Prop} (now:Int) (C:Cfg) (hq:∀ o c,Q o->o.state=12->Q { o with state:=13,cents:=c,upto:=now+C.lease }):∀ (n:Nat) (S:Sal),S.now=now->S.C=C->(∀ o∈S.os,Q o)->∀ o∈(yJ n S).os,Q o
 | 0,S,_,_,h=>h
 | n+1,S,hn,hC,h=>by
   unfold yJ
   split
   ·exact h
   ·next q qs hqq =>
    split
    ·exact h
    ·obtain ⟨_,hl,hs⟩:=jY hqq qD vO
     refine lK now C hq n _ hn hC (fun o ho=>?_)
     rcases nF (show o∈S.os.set q _ from ho) with rfl|ho
     ·rw [hn,hC]
      exact hq _ _ (h _ (zG hl)) hs
     ·exact h o ho
theorem mX {Q:Ord->Prop} (S:Sal) (hq:∀ o c,Q o->o.state=12->Q { o with state:=13,cents:=c,upto:=S.now+S.C.lease }) (h:∀ o∈S.os,Q o):∀ o∈S.promote.os,Q o:=lK S.now S.C hq _ S rfl rfl h
theorem kF {os:List Ord} {o:Ord} (h:o∈os):∃ i,i<os.length/\os.getD i qD=o:=by
 obtain ⟨i,hi,rfl⟩:=List.getElem_of_mem h
 exact ⟨i,hi,by simp [List.getD,uD hi]⟩
theorem lU (S:Sal) (st en:Int):∀ n,n<=S.os.length->∀ k,(zA S st en n).os.getD k qD=if k<n/\(S.os.getD k qD).state=st/\(S.os.getD k qD).upto=S.now then { S.os.getD k qD with state:=en,ended:=S.now } else S.os.getD k qD
 | 0,_,k=>by rw [uP uO];rfl
 | n+1,hn,k=>by
   have ih:=lU S st en n uO
   obtain ⟨_,hnow,_⟩:=vL S st en n
   have hi:=ih n
   rw [uP uO] at hi
   unfold zA
   rw [hi]
   by_cases hc:(S.os.getD n qD).state=st/\(S.os.getD n qD).upto=S.now
   ·rw [uQ hc]
    have hl:n<(zA S st en n).os.length:=by rw [jA];omega
    have hg:((zA S st en n).ends n en).os.getD k qD=if k=n then { (zA S st en n).os.getD n qD with state:=en,ended:=(zA S st en n).now } else (zA S st en n).os.getD k qD:=zK _ hl
    rw [hg,hi,hnow]
    by_cases e:k=n
    ·rw [uQ e,uQ ⟨uO,by rw [e];exact hc⟩,e]
    ·rw [uP e,ih k]
     by_cases hk:k<n
     ·simp only [hk,show k<n+1 by omega,true_and]
     ·rw [uP (fun c=>hk c.1),uP (fun c=>e uO)]
   ·rw [uP hc,ih k]
    by_cases hk:k<n
    ·simp only [hk,show k<n+1 by omega,true_and]
    ·rw [uP (fun c=>hk c.1)]
     by_cases e:k=n
     ·rw [uP (fun c=>hc (by rw [← e];exact c.2))]
     ·rw [uP (fun c=>e uO)]
theorem Oo {a b:List Ord} (hl:a.length=b.length) (h:∀ k,k<a.length->a.getD k qD=b.getD k qD):a=b:=by
 apply List.ext_getElem hl
 intro k h1 h2
 have:=h k h1
 simpa [List.getD,uD h1,uD h2] using this
theorem As {a b:Sal} (h1:a.C=b.C) (h2:a.now=b.now) (h3:a.os=b.os) (h4:a.ansL=b.ansL):a=b:=by
 cases a;cases b;simp_all
def gV (S:Sal) (st en:Int) (ds:List Nat):Sal:=ds.foldl (fun S k=>if (S.os.getD k qD).state=st then S.ends k en else S) S
theorem Qb (S:Sal) (st en:Int) (ds:List Nat) (k:Nat):gV S st en (ds++[k])=if ((gV S st en ds).os.getD k qD).state=st then (gV S st en ds).ends k en else gV S st en ds:=by
 unfold gV
 rw [List.foldl_append]
 rfl
theorem iU (st en:Int):∀ (ds:List Nat) (S:Sal),(gV S st en ds).C=S.C/\(gV S st en ds).now=S.now/\(gV S st en ds).ansL=S.ansL/\(gV S st en ds).os.length=S.os.length
 | [],S=>⟨rfl,rfl,rfl,rfl⟩
 | d :: ds,S=>by
   have e:gV S st en (d :: ds)=gV (if (S.os.getD d qD).state=st then S.ends d en else S) st en ds:=rfl
   rw [e]
   obtain ⟨a,b,c,d'⟩:=iU st en ds (if (S.os.getD d qD).state=st then S.ends d en else S)
   rw [a,b,c,d']
   split
   ·exact ⟨rfl,rfl,rfl,jU S d en⟩
   ·exact ⟨rfl,rfl,rfl,rfl⟩
theorem Zj {st en:Int} (hne:en≠st):∀ (ds:List Nat) (S:Sal),(∀ d∈ds,d<S.os.length)->∀ k,(gV S st en ds).os.getD k qD=if k∈ds/\(S.os.getD k qD).state=st then { S.os.getD k qD with state:=en,ended:=S.now } else S.os.getD k qD
 | [],S,_,k=>by rw [uP vS];rfl
 | d :: ds,S,h,k=>by
   have e:gV S st en (d :: ds)=gV (if (S.os.getD d qD).state=st then S.ends d en else S) st en ds:=rfl
   have hd:=h d List.mem_cons_self
   have h':∀ x∈ds,x<S.os.length:=fun x hx=>h x (List.mem_cons_of_mem _ hx)
   rw [e]
   by_cases hs:(S.os.getD d qD).state=st
   ·rw [uQ hs,Zj hne ds _ (fun x hx=>by rw [jU];exact h' x hx) k]
    have hg:(S.ends d en).os.getD k qD=if k=d then { S.os.getD d qD with state:=en,ended:=S.now } else S.os.getD k qD:=zK _ hd
    rw [hg]
    by_cases ek:k=d
    ·subst ek
     rw [uQ rfl,uP (fun c=>hne c.2),uQ ⟨List.mem_cons_self,hs⟩]
    ·rw [uP ek]
     have hi:(k∈d :: ds)↔k∈ds:=by simp [ek]
     by_cases hm:k∈ds/\(S.os.getD k qD).state=st
     ·rw [uQ hm,uQ ⟨hi.2 hm.1,hm.2⟩]
      rfl
     ·rw [uP hm,uP (fun c=>hm ⟨hi.1 c.1,c.2⟩)]
   ·rw [uP hs,Zj hne ds S h' k]
    by_cases ek:k=d
    ·subst ek
     rw [uP (fun c=>hs c.2),uP (fun c=>hs c.2)]
    ·have hi:(k∈d :: ds)↔k∈ds:=by simp [ek]
     by_cases hm:k∈ds/\(S.os.getD k qD).state=st
     ·rw [uQ hm,uQ ⟨hi.2 hm.1,hm.2⟩]
     ·rw [uP hm,uP (fun c=>hm ⟨hi.1 c.1,c.2⟩)]
theorem Jb {S:Sal} {st en:Int} (hne:en≠st) {ds:List Nat} (hd:∀ d∈ds,d<S.os.length) (h1:∀ k,k<S.os.length->(S.os.getD k qD).state=st->(k∈ds↔(S.os.getD k qD).upto=S.now)):gV S st en ds=zA S st en S.os.length:=by
 obtain ⟨a,b,c,d⟩:=iU st en ds S
 obtain ⟨a',b',c'⟩:=vL S st en S.os.length
 refine As (a.trans a'.symm) (b.trans b'.symm) (Oo (d.trans (jA S st en _).symm) (fun k hk=>?_)) (c.trans c'.symm)
 rw [d] at hk
 rw [Zj hne ds S hd,lU S st en _ (uA _)]
 by_cases hs:(S.os.getD k qD).state=st
 ·have:=h1 k hk hs
  by_cases hm:k∈ds
  ·rw [uQ ⟨hm,hs⟩,uQ ⟨hk,hs,this.1 hm⟩]
  ·rw [uP (fun c=>hm c.1),uP (fun c=>hm (this.2 c.2.2))]
 ·rw [uP (fun c=>hs c.2),uP (fun c=>hs c.2.1)]
structure restS (S:Sal):Prop where
 fut:∀ o∈S.os,o.alive->S.now<o.upto
 stable:S.stable
 lease:1<=S.C.lease/\S.C.lease<=4294967296
 wait:1<=S.C.wait/\S.C.wait<=4294967296
 keep:1<=S.C.keep/\S.C.keep<=4294967296
 tokens:1<=S.C.tokens/\S.C.tokens<=4294967296
 queue:1<=S.C.queue/\S.C.queue<=4294967296
theorem Zb (os:List Ord) (to:Int) (h0:∀ o∈os,o.alive->0<=o.upto):∀ k,k<=os.length->∀ i,i<k->(os.getD i qD).alive->(os.getD i qD).upto<=to->0<=cL os to k/\cL os to k<=(os.getD i qD).upto
 | 0,_,i,h,_,_=>by omega
 | k+1,hk,i,h,ha,hu=>by
   unfold cL
   have hk':(os.getD k qD)∈os:=zG uO
   by_cases hc:((os.getD k qD).state=13\/(os.getD k qD).state=12)/\(os.getD k qD).upto<=to/\(cL os to k<0\/(os.getD k qD).upto<cL os to k)
   ·rw [uQ hc]
    refine ⟨h0 _ hk' hc.1.symm,?_⟩
    by_cases e:i=k
    ·rw [e];omega
    ·have:=Zb os to h0 k uO i uO ha hu
     omega
   ·rw [uP hc]
    by_cases e:i=k
    ·subst e
     have h1:¬ (cL os to i<0\/(os.getD i qD).upto<cL os to i):=fun c=>hc ⟨ha.symm,hu,c⟩
     omega
    ·exact Zb os to h0 k uO i uO ha hu
theorem Is {S:Sal} {to:Int} (h:∀ o∈S.os,o.alive->to<o.upto):S.due to<0:=by
 refine Classical.byContradiction fun hn=>?_
 obtain ⟨i,hi,hs,hu,hle⟩:=tZ S.os to S.os.length (uA _) (by unfold Sal.due at hn;omega)
 have:=h _ (zG hi) hs.symm
 omega
theorem sD {S:Sal} {st en:Int} (h:∀ o∈S.os,o.state=st->o.upto≠S.now):zA S st en S.os.length=S:=by
 obtain ⟨a',b',c'⟩:=vL S st en S.os.length
 refine As a' b' (Oo (jA S st en _) (fun k hk=>?_)) c'
 rw [jA] at hk
 rw [lU S st en _ (uA _),uP]
 rintro ⟨_,h1,h2⟩
 exact h _ (zG hk) h1 h2
theorem Nv:∀ (n:Nat) (S:Sal) (t to:Int),gF n { S with now:=t } to=gF n S to
 | 0,_,_,_=>rfl
 | n+1,S,t,to=>by
   unfold gF
   have e1:({ S with now:=t }:Sal).due to=S.due to:=rfl
   rw [e1]
   split
   ·rfl
   ·rfl
theorem Hb (S:Sal) (t to:Int):({ S with now:=t }:Sal).tickTo to=S.tickTo to:=Nv _ S t to
theorem pT {S:Sal} {t:Int} (hs:S.stable) (h:∀ o∈S.os,o.alive->t<o.upto):S.round t={ S with now:=t }:=by
 have h1:({ S with now:=t }:Sal).past 13 15={ S with now:=t }:=by
  unfold Sal.past
  rw [sD (S:={ S with now:=t }) (fun o ho e c=>by have:=h o ho (.inr e);have c':o.upto=t:=c;omega)]
  exact cF (S:={ S with now:=t }) hs
 unfold Sal.round
 rw [h1]
 unfold Sal.past
 rw [sD (S:={ S with now:=t }) (fun o ho e c=>by have:=h o ho (.inl e);have c':o.upto=t:=c;omega)]
 exact cF (S:={ S with now:=t }) hs
theorem Uf {S:Sal} (h:restS S) (h0:0<=S.now) {t to:Int} (ht:t<=to) (hm:∀ o∈S.os,o.alive->t<=o.upto):S.tickTo to=(S.round t).tickTo to:=by
 by_cases hx:∃ o∈S.os,o.alive/\o.upto=t
 ·obtain ⟨o,ho,ha,hu⟩:=hx
  obtain ⟨i,hi,rfl⟩:=kF ho
  have hp:∀ o∈S.os,o.alive->0<=o.upto:=fun o ho ha=>by have:=h.fut o ho ha;omega
  obtain ⟨d1,d2⟩:=Zb S.os to hp S.os.length (uA _) i hi ha uO
  obtain ⟨k,hk,hs,hku,_⟩:=tZ S.os to S.os.length (uA _) d1
  have:=hm _ (zG hk) hs.symm
  have e:S.due to=t:=by unfold Sal.due;omega
  rw [Ma (by rw [e];have:=h.fut _ ho ha;omega),e]
 ·rw [pT h.stable (fun o ho ha=>by
   have:=hm o ho ha
   have:o.upto≠t:=fun e=>hx ⟨o,ho,ha,e⟩
   omega)]
  exact (Hb S t to).symm
theorem iF {S:Sal} {st en:Int} {Q:Ord->Prop} (hp:∀ o∈S.os,¬ (o.state=st/\o.upto=S.now)->Q o) (he:∀ o∈S.os,o.state=st->o.upto=S.now->Q { o with state:=en,ended:=S.now }) (hq:∀ o c,Q o->o.state=12->Q { o with state:=13,cents:=c,upto:=S.now+S.C.lease }):∀ o∈(S.past st en).os,Q o:=by
 obtain ⟨hC,hn,_⟩:=vL S st en S.os.length
 unfold Sal.past
 refine mX _ (by rw [hC,hn];exact hq) (fun o ho=>?_)
 obtain ⟨i,hi,rfl⟩:=kF ho
 rw [jA] at hi
 rw [lU S st en _ (uA _)]
 by_cases hc:i<S.os.length/\(S.os.getD i qD).state=st/\(S.os.getD i qD).upto=S.now
 ·rw [uQ hc]
  exact he _ (zG hi) hc.2.1 hc.2.2
 ·rw [uP hc]
  exact hp _ (zG hi) (fun c=>hc ⟨hi,c⟩)
theorem Ri {S:Sal} {t:Int} (hl:1<=S.C.lease) (h:∀ o∈S.os,o.alive->t<=o.upto):∀ o∈(S.round t).os,o.alive->t<o.upto:=by
 have h1:∀ o∈(({ S with now:=t }:Sal).past 13 15).os,(o.state=12->t<=o.upto)/\(o.state=13->t<o.upto):=by
  refine iF (fun o ho hc=>⟨fun e=>h o ho (.inl e),fun e=>?_⟩) (fun o ho hs hu=>⟨fun e=>?_,fun e=>?_⟩) (fun o c hq hs=>⟨fun e=>?_,fun _=>?_⟩)
  ·have:=h o ho (.inr e)
   have:o.upto≠t:=fun c=>hc ⟨e,c⟩
   omega
  ·exact absurd e (show ¬ (15:Int)=12 by decide)
  ·exact absurd e (show ¬ (15:Int)=13 by decide)
  ·exact absurd e (show ¬ (13:Int)=12 by decide)
  ·show t<t+S.C.lease;omega
 obtain ⟨hC,hn,_⟩:=fO ({ S with now:=t }:Sal) 13 15
 unfold Sal.round
 refine iF (Q:=fun o=>o.alive->t<o.upto) (fun o ho hc ha=>?_) (fun o ho hs hu ha=>?_) (fun o c hq hs ha=>?_)
 ·obtain ⟨q1,q2⟩:=h1 o ho
  rcases ha with ha|ha
  ·have:=q1 ha
   have:o.upto≠t:=fun c=>hc ⟨ha,by rw [hn];exact c⟩
   omega
  ·exact q2 ha
 ·rcases ha with ha|ha
  ·exact absurd ha (show ¬ (17:Int)=12 by decide)
  ·exact absurd ha (show ¬ (17:Int)=13 by decide)
 ·show t<_+_
  rw [hC,hn]
  show t<t+S.C.lease
  omega
theorem dH (S:Sal) (t:Int):(S.round t).C=S.C/\(S.round t).now=t/\(S.round t).ansL=S.ansL/\(S.round t).os.length=S.os.length:=by
 obtain ⟨a,b,c⟩:=fO ({ S with now:=t }:Sal) 13 15
 obtain ⟨d,e,f⟩:=fO (({ S with now:=t }:Sal).past 13 15) 12 17
 exact ⟨d.trans a,e.trans b,f.trans c,(tS _ 12 17).trans (tS _ 13 15)⟩
theorem Gp {S:Sal} (h:restS S) {t:Int} (hm:∀ o∈S.os,o.alive->t<=o.upto):restS (S.round t):=by
 obtain ⟨a,b,c,d⟩:=dH S t
 refine ⟨by rw [b];exact Ri h.lease.1 hm,mT _,?_,?_,?_,?_,?_⟩
 ·rw [a];exact h.lease
 ·rw [a];exact h.wait
 ·rw [a];exact h.keep
 ·rw [a];exact h.tokens
 ·rw [a];exact h.queue
theorem wH (os:List Ord) (o:Ord):qK (os++[o])=if o.state=12 then qK os++[os.length] else qK os:=by
 have key:∀ k,k<=os.length->qZ (os++[o]) k=qZ os k:=by
  intro k
  induction k with
  | zero=>intro _;rfl
  | succ k ih =>
    intro hk
    have hg:(os++[o]).getD k qD=os.getD k qD:=by rw [yI uO,uP uO]
    unfold qZ
    rw [hg,ih uO]
 unfold qK
 rw [List.length_append,List.length_singleton]
 have hg:(os++[o]).getD os.length qD=o:=by rw [yI uO,uQ rfl]
 rw [qZ,hg,key _ (uA _)]
section
def zQ (P:World->(Nat->Prop)->Prop) (w w':World) (own:Nat->Prop):Prop:=∃ own',P w' own'/\Same own w w'/\∀ k,own' k->own k\/w.heap.size<=k
structure Keeps (P:World->(Nat->Prop)->Prop):Prop where
 lt:∀ {W o},P W o->∀ k,o k->k<W.heap.size
 keep:∀ {W W' o},P W o->W.heap.size<=W'.heap.size->(∀ k,o k->W'.heap[k]?=W.heap[k]?)->P W' o
def zF (P:World->(Nat->Prop)->Prop) (w:World) (own:Nat->Prop) (m:Nat) (W:World):Prop :=
 ∃ own',P W own'/\Same own w W/\(∀ k,own' k->own k\/w.heap.size+m<=k)/\w.heap.size+m<=W.heap.size
section
variable {P P':World->(Nat->Prop)->Prop} {w W W':World} {own:Nat->Prop} {m:Nat}
theorem yY (K:Keeps P) (h:P w own) (hb:Below w.heap.size w W):zQ P w W own:=⟨own,K.keep h hb.size (fun k e=>hb.block k (K.lt h k e)),Same.of_below hb,fun _ e=>.inl e⟩
theorem aC (hb:Below w.heap.size w W) (h:zQ P W W' own):zQ P w W' own:=by
 obtain ⟨o,a1,a2,a3⟩:=h
 have z:=hb.size
 exact ⟨o,a1,Same.trans (Same.of_below (own:=own) hb) a2 (fun _ _ e=>e.elim id id),fun k e=>(a3 k e).imp id (fun e=>uO)⟩
theorem tN (h:zQ P w W own) (hp:∀ W o,P W o->P' W o):zQ P' w W own:=by
 obtain ⟨o,a1,a2,a3⟩:=h
 exact ⟨o,hp _ _ a1,a2,a3⟩
theorem fR (K:Keeps P) (h:P w own) (hb:Below w.heap.size w W) (hm:w.heap.size+m<=W.heap.size):zF P w own m W :=
 ⟨own,K.keep h hb.size (fun k e=>hb.block k (K.lt h k e)),Same.of_below hb,fun _ e=>.inl e,hm⟩
theorem yP (K:Keeps P) (h:zF P w own m W) (hb:Below W.heap.size W W'):zF P w own m W':=by
 obtain ⟨o1,a1,a2,a3,a4⟩:=h
 have z:=hb.size
 exact ⟨o1,K.keep a1 hb.size (fun k e=>hb.block k (K.lt a1 k e)),Same.trans a2 (Same.of_below (own:=own) hb) (fun k _ e=>e.elim id id),a3,uO⟩
theorem oN (K:Keeps P) (h:zF P w own m W) (hw:∀ k,own k->k<w.heap.size) {b i:Nat} (h1:w.heap.size<=b) (h2:b<w.heap.size+m) (v:Value):zF P w own m (W.sc b i v):=by
 obtain ⟨o1,a1,a2,a3,a4⟩:=h
 have hk:∀ k,k≠b->(W.sc b i v).heap[k]?=W.heap[k]?:=fun k e=>uG _ (aq b i) _ _ e
 have hz:(W.sc b i v).heap.size=W.heap.size:=by simp [World.setCell]
 refine ⟨o1,K.keep a1 uO (fun k e=>hk k (fun c=>?_)),⟨a2.os,a2.tape,a2.output,by have:=a2.size;omega,fun k hk' hn=>(hk k uO).trans (a2.block k hk' hn)⟩,a3,uO⟩
 subst c
 rcases a3 k e with e|e
 ·have:=hw k e;omega
 ·omega
theorem eP (K:Keeps P) (h:zF P w own m W) (hw:∀ k,own k->k<w.heap.size) {b:Nat} (h1:w.heap.size<=b) (h2:b<w.heap.size+m) (v0 v1 v2 v3 v4 v5:Value):zF P w own m ((((((W.sc b 0 v0).sc b 1 v1).sc b 2 v2).sc b 3 v3).sc b 4 v4).sc b 5 v5) :=
 oN K (oN K (oN K (oN K (oN K (oN K h hw h1 h2 v0) hw h1 h2 v1) hw h1 h2 v2) hw h1 h2 v3) hw h1 h2 v4) hw h1 h2 v5
theorem gD (h:zF P w own m W):zQ P w W own:=by
 obtain ⟨o1,a1,a2,a3,a4⟩:=h
 exact ⟨o1,a1,a2,fun k e=>(a3 k e).imp id (fun e=>uO)⟩
theorem oF (hw:∀ k,own k->k<w.heap.size) {f:FuncId} {args:Array Value} {v:Value} (h:∀ W o,P W o->Ca f args W fun e w'=>e=.returned v/\zQ P' W w' o) (W:World) (hT:zF P w own m W) :
 Ca f args W fun e w'=>e=.returned v/\zF P' w own m w'/\∀ b,w.heap.size<=b->b<w.heap.size+m->w'.heap[b]?=W.heap[b]?:=by
 obtain ⟨o1,a1,a2,a3,a4⟩:=hT
 refine (h W o1 a1).mono ?_
 rintro e w' ⟨rfl,o2,b1,b2,b3⟩
 have z1:=a2.size
 have z2:=b2.size
 refine ⟨rfl,⟨o2,b1,Same.trans a2 b2 (fun k hk e=>e.elim id (fun e=>(a3 k e).elim id (fun e=>uO))),fun k e=>(b3 k e).elim (a3 k) (fun e=>.inr uO),uO⟩,fun b h1 h2=>b2.block b uO (fun e=>?_)⟩
 rcases a3 b e with e|e
 ·have:=hw b e;omega
 ·omega
theorem fT (K:Keeps P) (hw:∀ k,own k->k<w.heap.size) {f:FuncId} {args:Array Value} {v:Value} (h:∀ W o,P W o->Ca f args W fun e w'=>e=.returned v/\Below W.heap.size W w') (W:World) (hT:zF P w own m W) :
 Ca f args W fun e w'=>e=.returned v/\zF P w own m w'/\∀ b,w.heap.size<=b->b<w.heap.size+m->w'.heap[b]?=W.heap[b]?:=by
 refine oF hw (fun W o hp=>(h W o hp).mono ?_) W hT
 rintro e w' ⟨rfl,hb⟩
 exact ⟨rfl,yY K hp hb⟩
end
def YO (w:World) (own:Nat->Prop) (m:Nat) (P P':World->(Nat->Prop)->Prop) (f:FuncId) (args:Array Value) (v:Value):Prop :=
 ∀ W,zF P w own m W->Ca f args W fun e w'=>e=.returned v/\zF P' w own m w'/\∀ b,w.heap.size<=b->b<w.heap.size+m->w'.heap[b]?=W.heap[b]?
def QA (an:Int) (x:Nat) (S:Sal) (last:Nat) (w:World) (own:Nat->Prop):Prop:=∃ V,QE w x own V/\relO V S last S.knows/\relA V.an V.atl V.att V.al S.C.keep S.ansL/\V.an=an
theorem yQ (an:Int) (x:Nat) (S:Sal) (last:Nat):Keeps (QA an x S last):=⟨fun ⟨_,h,_⟩=>fF h,fun ⟨V,h,hr⟩ hz hk=>⟨V,dX h hz hk,hr⟩⟩
structure saleK (S:Sal):Prop where
 I:salI S
 len:S.os.length<=4294967296
 lease:1<=S.C.lease/\S.C.lease<=4294967296
 wait:1<=S.C.wait/\S.C.wait<=4294967296
 keep:1<=S.C.keep/\S.C.keep<=4294967296
theorem saleK.span {S:Sal} (h:saleK S) (st:Int):1<=yC S.C st/\yC S.C st<=4294967296:=by
 unfold yC
 split
 ·exact h.lease
 split
 ·exact h.wait
 ·exact h.keep
section
variable {w:World} {x:Nat} {own:Nat->Prop} {S:Sal} {last:Nat} {an:Int}
theorem oV {w':World} {V':PV} {S':Sal} {last':Nat} (h:yN w w' x own V') (h1:relO V' S' last' S'.knows) (h2:relA V'.an V'.atl V'.att V'.al S'.C.keep S'.ansL) (h3:V'.an=an):zQ (QA an x S' last') w w' own:=by
 obtain ⟨o,a1,a2,a3⟩:=h
 exact ⟨o,⟨V',a1,h1,h2,h3⟩,a2,a3⟩
theorem yG {m f:Nat} {V V':PV} {args:Array Value} {v:Value} (hw:∀ k,own k->k<w.heap.size) (h:∀ W own',QE W x own' V->Ca f args W fun e w'=>e=.returned v/\yN W w' x own' V'):dC w own m x V V' f args v:=Kb hw h
theorem tF {m f:Nat} {V:PV} {args:Array Value} {v:Value} (hw:∀ k,own k->k<w.heap.size) (h:∀ W own',QE W x own' V->Ca f args W fun e w'=>e=.returned v/\Below W.heap.size W w'):dC w own m x V V f args v:=Bh hw h
theorem Pm (h:QA an x S last w own) (hK:saleK S) {i:Nat} (hi:S.knows i) (p:POrd) (h1:p.num=(i:Int)+1) (h2:p.cust=(S.os.getD i qD).cust) (h3:p.units=(S.os.getD i qD).units) (h4:p.st=(S.os.getD i qD).state) (st:Int) (hst:st≠12) (o:Ord) (g2:o.cust=p.cust) (g3:o.units=p.units) (g4:o.state=st) (g5:o.cents=p.cents) (g6:o.untl S.C=S.now+yC S.C st) :
 Ca 129 #[pt x 0,p.val,iv st] w fun e w'=>e=.returned (POrd.val { p with st:=st,upto:=S.now+yC S.C st })/\zQ (QA an x (S.put i o) last) w w' own:=by
 obtain ⟨V,hm,hr,ha,han⟩:=h
 have hw:=fF hm
 have hil:=hr.kin i hi
 obtain ⟨u1,u2⟩:=hK.I.units _ (zG hil)
 have hc0:p.cust≠0:=by rw [h2];exact hr.cust _ (zG hil)
 have hB:=hr.bounds hK.I hK.len
 have hsp:=hK.span st
 have hnow:=hK.I.now
 obtain ⟨j,hj1,hj2⟩:=hr.known hi
 rw [← h1] at hj2
 have hfin:=hr.move hi h1 h2 h3 h4 hst g2 g3 g4 g5 g6 hsp.1 hj2
 have hkn:(S.put i o).knows=S.knows:=Mn hi (.inr (by rw [g6];omega))
 rw [← hkn] at hfin
 have hsv:yC V.C st=yC S.C st:=by rw [hr.C]
 have hun:1<=p.units/\p.units<=4294967296:=by rw [h3];exact ⟨u1,u2⟩
 have hf1:=hB.un p.st p.cust
 have L2:=rK hr.lu (st:=p.st) (-p.units) hc0
 have hz2:=Pv hr.lu.1 p.cust p.st (-p.units) uO
 have hf2:∀ s,ZW s->-2305843009213693952<=Me (xW S.os) p.cust p.st (-p.units) s p.cust/\Me (xW S.os) p.cust p.st (-p.units) s p.cust<=2305843009213693952:=fun s hs=>by
  have:=hB.un s p.cust hs hc0
  rw [Zd]
  split<;>omega
 have hu5:=aD V.tl p.num
 have b1:=hB.held
 have b2:=hB.sold
 have b3:=hB.lu
 have b4:=hB.tl
 have b5:=hB.qt
 have b6:=hB.qz
 have e0:V.now+yC S.C st=S.now+yC S.C st:=by rw [hr.now]
 by_cases h12:p.st=12
 ·have hq:(S.os.getD i qD).state=12:=h4▸h12
  have t1:yO (p.num,0) V.qt=some 0:=(hM hr.turns.1).2 ((hr.turns.2 _).2 ⟨i,hil,hq,by rw [h1]⟩)
  have t2:yO (-p.units,p.num) V.qz=some 0:=(hM hr.sizes.1).2 ((hr.sizes.2 _).2 ⟨i,hil,hq,by rw [h1,h3]⟩)
  have hfin':{ V.moved p st with ol:=V.ol.set j (p.to V st) }={ ({ (((V.qout p).led p.cust 12 (-p.units)).led p.cust st p.units) with tl:=vI V.tn (yL V.tl p.num) p.num (V.now+yC V.C st) }:PV) with ol:=V.ol.set j (p.to V st) }:=by
   simp only [PV.moved,PV.led,PV.qout,h12,uP hst,if_true,uP (show ¬ (12:Int)=13 by decide),uP (show ¬ (12:Int)=14 by decide)]
  rw [hfin'] at hfin
  have H:=By x V.tw own V (V.qout p) ((V.qout p).led p.cust 12 (-p.units)) (((V.qout p).led p.cust 12 (-p.units)).led p.cust st p.units) { (((V.qout p).led p.cust 12 (-p.units)).led p.cust st p.units) with tl:=yL V.tl p.num } { (((V.qout p).led p.cust 12 (-p.units)).led p.cust st p.units) with tl:=vI V.tn (yL V.tl p.num) p.num (V.now+yC S.C st) } { ({ (((V.qout p).led p.cust 12 (-p.units)).led p.cust st p.units) with tl:=vI V.tn (yL V.tl p.num) p.num (V.now+yC S.C st) }:PV) with ol:=V.ol.set j { p with st:=st,upto:=V.now+yC S.C st } }
   p.num p.cust p.units p.cents p.upto st (yC S.C st) _ _ w hw hm ⟨uO,hun.2⟩ ⟨by show 0<=V.now+_;rw [hr.now];omega,by show V.now+_<=_;rw [hr.now];omega⟩ (by simpa using hst) rfl rfl rfl
   (yG hw (fun W own' hp=>by rw [← h12];exact YU p hp hr.turns.1 hr.sizes.1 t1 t2 uO uO ⟨uO,hun.2⟩))
   (yG hw (fun W own' hp=>Hp p.cust 12 (-p.units) (xW S.os) hp hr.lu hc0 uO ⟨uO,uO⟩ (fun hs=>by have:=hB.un 12 p.cust hs hc0;exact ⟨uO,uO⟩) (by show V.lu.length<=_;omega) ⟨by show _<=V.held;omega,by show V.held<=_;omega⟩ ⟨by show _<=V.sold;omega,by show V.sold<=_;omega⟩))
   (yG hw (fun W own' hp=>Hp p.cust st p.units (Me (xW S.os) p.cust p.st (-p.units)) hp (by rw [h12] at L2 ⊢;exact L2) hc0 uO ⟨uO,uO⟩ (hf2 st) (by show (pI V.lu p.cust 12 (-p.units)).length<=_;rw [h12] at hz2;omega) ⟨by show _<=V.held;omega,by show V.held<=_;omega⟩ ⟨by show _<=V.sold;omega,by show V.sold<=_;omega⟩))
   (tF hw (fun W own' hp=>by have h:=Od st hp;rwa [show yC (((V.qout p).led p.cust 12 (-p.units)).led p.cust st p.units).C st=yC S.C st from hsv] at h))
   (yG hw (fun W own' hp=>Yh p.num hp (by show V.tl.length<=_;omega)))
   (yG hw (fun W own' hp=>Ig p.num (V.now+yC S.C st) hp (by show (yL V.tl p.num).length<=_;omega)))
   (yG hw (fun W own' hp=>Lz { p with st:=st,upto:=V.now+yC S.C st } hp hr.ls.srt hj2 hj1))
  have ep:POrd.val p=.agg #[iv p.num,iv p.cust,iv p.units,iv 12,iv p.cents,iv p.upto]:=by rw [← h12];rfl
  rw [ep]
  refine H.mono ?_
  rintro e w' ⟨rfl,hq⟩
  refine ⟨?_,oV hq ?_ ha han⟩
  ·rw [show (PV.now (((V.qout p).led p.cust 12 (-p.units)).led p.cust st p.units))=S.now from hr.now];rfl
  ·rw [hsv] at hfin
   have:p.to V st={ p with st:=st,upto:=V.now+yC S.C st }:=by unfold POrd.to;rw [hsv]
   rw [this] at hfin
   exact hfin
 ·have hfin':{ V.moved p st with ol:=V.ol.set j (p.to V st) }={ ({ ((V.led p.cust p.st (-p.units)).led p.cust st p.units) with tl:=vI V.tn (yL V.tl p.num) p.num (V.now+yC V.C st) }:PV) with ol:=V.ol.set j (p.to V st) }:=by
   simp only [PV.moved,PV.led,uP hst,uP h12]
  rw [hfin'] at hfin
  have H:=Ru x V.tw own V (V.led p.cust p.st (-p.units)) ((V.led p.cust p.st (-p.units)).led p.cust st p.units) { ((V.led p.cust p.st (-p.units)).led p.cust st p.units) with tl:=yL V.tl p.num } { ((V.led p.cust p.st (-p.units)).led p.cust st p.units) with tl:=vI V.tn (yL V.tl p.num) p.num (V.now+yC S.C st) } { ({ ((V.led p.cust p.st (-p.units)).led p.cust st p.units) with tl:=vI V.tn (yL V.tl p.num) p.num (V.now+yC S.C st) }:PV) with ol:=V.ol.set j { p with st:=st,upto:=V.now+yC S.C st } }
   p.num p.cust p.units p.st p.cents p.upto st (yC S.C st) _ _ w hw hm ⟨uO,hun.2⟩ ⟨by show 0<=V.now+_;rw [hr.now];omega,by show V.now+_<=_;rw [hr.now];omega⟩ (by simpa using h12) (by simpa using hst) rfl rfl rfl
   (yG hw (fun W own' hp=>Hp p.cust p.st (-p.units) (xW S.os) hp hr.lu hc0 uO ⟨uO,uO⟩ (fun hs=>by have:=hB.un p.st p.cust hs hc0;exact ⟨uO,uO⟩) (by show V.lu.length<=_;omega) ⟨by show _<=V.held;omega,by show V.held<=_;omega⟩ ⟨by show _<=V.sold;omega,by show V.sold<=_;omega⟩))
   (yG hw (fun W own' hp=>Hp p.cust st p.units (Me (xW S.os) p.cust p.st (-p.units)) hp L2 hc0 uO ⟨uO,uO⟩ (hf2 st) (by show (pI V.lu p.cust p.st (-p.units)).length<=_;omega) (by show -2305843009213693952<=(if p.st=13 then V.held+-p.units else V.held)/\(if p.st=13 then V.held+-p.units else V.held)<=2305843009213693952;split<;>exact ⟨uO,uO⟩) (by show -2305843009213693952<=(if p.st=14 then V.sold+-p.units else V.sold)/\(if p.st=14 then V.sold+-p.units else V.sold)<=2305843009213693952;split<;>exact ⟨uO,uO⟩)))
   (tF hw (fun W own' hp=>by have h:=Od st hp;rwa [show yC ((V.led p.cust p.st (-p.units)).led p.cust st p.units).C st=yC S.C st from hsv] at h))
   (yG hw (fun W own' hp=>Yh p.num hp (by show V.tl.length<=_;omega)))
   (yG hw (fun W own' hp=>Ig p.num (V.now+yC S.C st) hp (by show (yL V.tl p.num).length<=_;omega)))
   (yG hw (fun W own' hp=>Lz { p with st:=st,upto:=V.now+yC S.C st } hp hr.ls.srt hj2 hj1))
  refine H.mono ?_
  rintro e w' ⟨rfl,hq⟩
  refine ⟨?_,oV hq ?_ ha han⟩
  ·rw [show (PV.now ((V.led p.cust p.st (-p.units)).led p.cust st p.units))=S.now from hr.now];rfl
  ·rw [hsv] at hfin
   have:p.to V st={ p with st:=st,upto:=V.now+yC S.C st }:=by unfold POrd.to;rw [hsv]
   rw [this] at hfin
   exact hfin
theorem Jh (h:QA an x S (S.os.length+1) w own) (hK:saleK S) (p:POrd) (h1:p.num=(S.os.length:Int)+1) (h4:p.st=0) (hc0:p.cust≠0) (hun:1<=p.units/\p.units<=4294967296) (st:Int) (hst:st=12\/st=13) (o:Ord) (g2:o.cust=p.cust) (g3:o.units=p.units) (g4:o.state=st) (g5:o.cents=p.cents) (g6:o.untl S.C=S.now+yC S.C st) :
 Ca 129 #[pt x 0,p.val,iv st] w fun e w'=>e=.returned (POrd.val { p with st:=st,upto:=S.now+yC S.C st })/\zQ (QA an x (S.more o) (S.os.length+1)) w w' own:=by
 obtain ⟨V,hm,hr,ha,han⟩:=h
 have hw:=fF hm
 have hB:=hr.bounds hK.I hK.len
 have hsp:=hK.span st
 have hnow:=hK.I.now
 have hfr:∀ i,S.knows i->p.num≠(i:Int)+1:=fun i hi=>by have:=hi.1;omega
 have hg:=hr.strange hfr
 have hfin:=hr.moveNew h1 h4 g2 g3 g4 g5 g6 hsp.1 hc0 (if V.orm<(V.ol.length:Int)+1 then (V.ol.length:Int)+1 else V.orm)
 have hkn:(S.more o).knows=fun k=>S.knows k\/k=S.os.length:=Hu (by rw [Ord.alive,g4];exact hst)
 rw [← hkn] at hfin
 have hsv:yC V.C st=yC S.C st:=by rw [hr.C]
 have L1:pI V.lu p.cust 0 (-p.units)=V.lu:=by unfold pI;rw [uP (by unfold ZW;omega)]
 have l1:V.led p.cust 0 (-p.units)=V:=by
  unfold PV.led
  rw [L1,uP vO,uP vO]
 have b1:=hB.held
 have b2:=hB.sold
 have b3:=hB.lu
 have b4:=hB.tl
 have b5:=hB.qt
 have b6:=hB.qz
 have hu5:=aD V.tl p.num
 have hol:=fJ hr.ls
 have hq1:yO (p.num,0) V.qt=none:=vV.2 (fun e he c=>by
  obtain ⟨i,hi,_,rfl⟩:=(hr.turns.2 e).1 he
  have:(i:Int)+1=p.num:=by simpa using c
  omega)
 have hq2:yO (-p.units,p.num) V.qz=none:=vV.2 (fun e he c=>by
  obtain ⟨i,hi,_,rfl⟩:=(hr.sizes.2 e).1 he
  simp only [Prod.mk.injEq] at c
  have:=c.2
  omega)
 have hbu:∀ W own',QE W x own' V->Ca 153 #[pt x 19,iv p.cust,iv 0,iv (-p.units)] W fun e w'=>e=.returned (.tuple #[])/\yN W w' x own' V:=fun W own' hp=>by
  have:=Hp p.cust 0 (-p.units) (xW S.os) hp hr.lu hc0 uO ⟨uO,uO⟩ (fun hs=>by unfold ZW at hs;omega) uO ⟨uO,uO⟩ ⟨uO,uO⟩
  rwa [l1] at this
 have hadd:∀ W own',QE W x own' V->Ca 153 #[pt x 19,iv p.cust,iv st,iv p.units] W fun e w'=>e=.returned (.tuple #[])/\yN W w' x own' (V.led p.cust st p.units):=fun W own' hp =>
  Hp p.cust st p.units (xW S.os) hp hr.lu hc0 uO ⟨uO,uO⟩ (fun hs=>by have:=hB.un st p.cust hs hc0;exact ⟨uO,uO⟩) uO ⟨uO,uO⟩ ⟨uO,uO⟩
 rcases hst with rfl|rfl
 ·have hfin':{ V.moved p 12 with ot:=zD (p.num,0) V.ol.length V.ot,ol:=V.ol++[p.to V 12],orm:=if V.orm<(V.ol.length:Int)+1 then (V.ol.length:Int)+1 else V.orm }={ ({ ((V.led p.cust 12 p.units).qin { p with st:=12 }) with tl:=vI V.tn (yL V.tl p.num) p.num (V.now+yC V.C 12) }:PV) with ot:=zD (p.num,0) V.ol.length V.ot,ol:=V.ol++[p.to V 12],orm:=if V.orm<(V.ol.length:Int)+1 then (V.ol.length:Int)+1 else V.orm }:=by
   simp only [PV.moved,PV.led,PV.qin,h4,L1,if_true,uP (show ¬ (0:Int)=12 by decide),uP (show ¬ (0:Int)=13 by decide),uP (show ¬ (0:Int)=14 by decide),uP (show ¬ (12:Int)=13 by decide),uP (show ¬ (12:Int)=14 by decide)]
  rw [hfin'] at hfin
  have H:=Si x V.tw own V V (V.led p.cust 12 p.units) ((V.led p.cust 12 p.units).qin { p with st:=12 }) { ((V.led p.cust 12 p.units).qin { p with st:=12 }) with tl:=yL V.tl p.num } { ((V.led p.cust 12 p.units).qin { p with st:=12 }) with tl:=vI V.tn (yL V.tl p.num) p.num (V.now+yC S.C 12) } { ({ ((V.led p.cust 12 p.units).qin { p with st:=12 }) with tl:=vI V.tn (yL V.tl p.num) p.num (V.now+yC S.C 12) }:PV) with ot:=zD (p.num,0) V.ol.length V.ot,ol:=V.ol++[{ p with st:=12,upto:=V.now+yC S.C 12 }],orm:=if V.orm<(V.ol.length:Int)+1 then (V.ol.length:Int)+1 else V.orm }
   p.num p.cust p.units 0 p.cents p.upto (yC S.C 12) _ _ w hw hm ⟨uO,hun.2⟩ ⟨by show 0<=V.now+_;rw [hr.now];omega,by show V.now+_<=_;rw [hr.now];omega⟩ vO rfl rfl rfl
   (yG hw hbu) (yG hw hadd)
   (yG hw (fun W own' hp=>ZO { p with st:=12 } hp hr.turns.1 hr.sizes.1 hq1 hq2 (by show V.qt.length<=_;omega) (by show V.qz.length<=_;omega) ⟨by show 0<=p.units;omega,hun.2⟩))
   (tF hw (fun W own' hp=>by have h:=Od 12 hp;rwa [show yC ((V.led p.cust 12 p.units).qin { p with st:=12 }).C 12=yC S.C 12 from hsv] at h))
   (yG hw (fun W own' hp=>Yh p.num hp (by show V.tl.length<=_;omega)))
   (yG hw (fun W own' hp=>Ig p.num (V.now+yC S.C 12) hp (by show (yL V.tl p.num).length<=_;omega)))
   (yG hw (fun W own' hp=>Aq { p with st:=12,upto:=V.now+yC S.C 12 } hp hr.ls.srt hg hol (by show V.ol.length<=_;have:=hB.ol;omega)))
  have ep:POrd.val p=.agg #[iv p.num,iv p.cust,iv p.units,iv 0,iv p.cents,iv p.upto]:=by rw [← h4];rfl
  rw [ep]
  refine H.mono ?_
  rintro e w' ⟨rfl,hq⟩
  refine ⟨?_,oV hq ?_ ha han⟩
  ·rw [show (PV.now ((V.led p.cust 12 p.units).qin { p with st:=12 }))=S.now from hr.now];rfl
  ·rw [hsv] at hfin
   have:p.to V 12={ p with st:=12,upto:=V.now+yC S.C 12 }:=by unfold POrd.to;rw [hsv]
   rw [this] at hfin
   exact hfin
 ·have hfin':{ V.moved p 13 with ot:=zD (p.num,0) V.ol.length V.ot,ol:=V.ol++[p.to V 13],orm:=if V.orm<(V.ol.length:Int)+1 then (V.ol.length:Int)+1 else V.orm }={ ({ (V.led p.cust 13 p.units) with tl:=vI V.tn (yL V.tl p.num) p.num (V.now+yC V.C 13) }:PV) with ot:=zD (p.num,0) V.ol.length V.ot,ol:=V.ol++[p.to V 13],orm:=if V.orm<(V.ol.length:Int)+1 then (V.ol.length:Int)+1 else V.orm }:=by
   simp only [PV.moved,PV.led,h4,L1,if_true,uP (show ¬ (0:Int)=12 by decide),uP (show ¬ (0:Int)=13 by decide),uP (show ¬ (0:Int)=14 by decide),uP (show ¬ (13:Int)=12 by decide),uP (show ¬ (13:Int)=14 by decide)]
  rw [hfin'] at hfin
  have H:=Ru x V.tw own V V (V.led p.cust 13 p.units) { (V.led p.cust 13 p.units) with tl:=yL V.tl p.num } { (V.led p.cust 13 p.units) with tl:=vI V.tn (yL V.tl p.num) p.num (V.now+yC S.C 13) } { ({ (V.led p.cust 13 p.units) with tl:=vI V.tn (yL V.tl p.num) p.num (V.now+yC S.C 13) }:PV) with ot:=zD (p.num,0) V.ol.length V.ot,ol:=V.ol++[{ p with st:=13,upto:=V.now+yC S.C 13 }],orm:=if V.orm<(V.ol.length:Int)+1 then (V.ol.length:Int)+1 else V.orm }
   p.num p.cust p.units 0 p.cents p.upto 13 (yC S.C 13) _ _ w hw hm ⟨uO,hun.2⟩ ⟨by show 0<=V.now+_;rw [hr.now];omega,by show V.now+_<=_;rw [hr.now];omega⟩ vO vO rfl rfl rfl
   (yG hw hbu) (yG hw hadd)
   (tF hw (fun W own' hp=>by have h:=Od 13 hp;rwa [show yC (V.led p.cust 13 p.units).C 13=yC S.C 13 from hsv] at h))
   (yG hw (fun W own' hp=>Yh p.num hp (by show V.tl.length<=_;omega)))
   (yG hw (fun W own' hp=>Ig p.num (V.now+yC S.C 13) hp (by show (yL V.tl p.num).length<=_;omega)))
   (yG hw (fun W own' hp=>Aq { p with st:=13,upto:=V.now+yC S.C 13 } hp hr.ls.srt hg hol (by show V.ol.length<=_;have:=hB.ol;omega)))
  have ep:POrd.val p=.agg #[iv p.num,iv p.cust,iv p.units,iv 0,iv p.cents,iv p.upto]:=by rw [← h4];rfl
  rw [ep]
  refine H.mono ?_
  rintro e w' ⟨rfl,hq⟩
  refine ⟨?_,oV hq ?_ ha han⟩
  ·rw [show (PV.now (V.led p.cust 13 p.units))=S.now from hr.now];rfl
  ·rw [hsv] at hfin
   have:p.to V 13={ p with st:=13,upto:=V.now+yC S.C 13 }:=by unfold POrd.to;rw [hsv]
   rw [this] at hfin
   exact hfin
end
end
