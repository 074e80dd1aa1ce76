import Derived.Test.YtfhncfghblkgeaaGreatL16
import Derived.Test.YtfhncfghblkgeaaGreatL22
set_option maxRecDepth 100000
set_option maxHeartbeats 2000000
namespace Go.Proofs.YtfhncfghblkgeaaGreat
open Go.RowKit
theorem Tryz.infoPOrder:(Tryz.prog.info? 184).map (fun i=>(i.zero,i.size,i.bytes))=some (some (.agg #[iv 0,iv 0,iv 0,iv 0,iv 0,iv 0]),6,48):=by kernel_rfl
def jns (w w':World) (B x p:Nat) (C:Array Value) (T:TypeId) (t:Tr) (s num:Int) (v:Value) (n:Nat) (E L:List Value):Prop :=
 ∃ (t':Tr) (g cap:Nat),w'.heap[x]?=some (.cells (((C.setIfInBounds (p+1) (iv (s+1))).setIfInBounds p (.pointer t'.addr)).setIfInBounds (p+2) (.slice (some (aq g 0)) (n+1) cap)) T (0,0))/\t'.at w'/\t'.toL=jbd (num,0) n t.toL/\w'.ownsRow B 184 6 (.slice (some (aq g 0)) (n+1) cap) (n+1) (E++L)/\Same (fun b=>b=x\/v.ownBlock=some b) w w'/\(∀ k,t'.has k->t.has k\/w.heap.size<=k)/\(v.ownBlock=some g\/w.heap.size<=g)
def jfv (w w':World) (B x p:Nat) (C:Array Value) (T:TypeId) (t:Tr) (s num:Int) (v:Value) (n:Nat) (E L:List Value) (rm:Int):Prop :=
 ∃ (t':Tr) (g cap:Nat),w'.heap[x]?=some (.cells ((((C.setIfInBounds (p+1) (iv (s+1))).setIfInBounds p (.pointer t'.addr)).setIfInBounds (p+2) (.slice (some (aq g 0)) (n+1) cap)).setIfInBounds (p+3) (iv rm)) T (0,0))/\t'.at w'/\t'.toL=jbd (num,0) n t.toL/\w'.ownsRow B 184 6 (.slice (some (aq g 0)) (n+1) cap) (n+1) (E++L)/\Same (fun b=>b=x\/v.ownBlock=some b) w w'/\(∀ k,t'.has k->t.has k\/w.heap.size<=k)/\(v.ownBlock=some g\/w.heap.size<=g)
theorem jx2 {w w':World} {B x p n:Nat} {C:Array Value} {T:TypeId} (hT:T≠211) (hT2:T≠184) {t:Tr} {s num:Int} {v:Value} {E L:List Value} {rm rm':Int} (h2:C[p+2]?=some v) (h3:C[p+3]?=some (iv rm)) (hA:jns w w' B x p C T t s num v n E L) :
 ∃ gg cp:Nat,w'.cell? (aq x (p+2))=some (.slice (some (aq gg 0)) (n+1) cp)/\w'.cell? (aq x (p+3))=some (iv rm)/\w'.frozen? (aq x (p+3))=false/\x<w'.heap.size/\(rm'=rm->jfv w w' B x p C T t s num v n E L rm')/\jfv w (w'.setCell (aq x (p+3)) (iv rm')) B x p C T t s num v n E L rm':=by
 obtain ⟨t',g,cap,a1,a2,a3,a4,a5,a6,a7⟩:=hA
 have z2:p+2<C.size:=(blt h2)
 have e2:((((C.setIfInBounds (p+1) (iv (s+1))).setIfInBounds p (.pointer t'.addr)).setIfInBounds (p+2) (.slice (some (aq g 0)) (n+1) cap)))[p+2]?=some (.slice (some (aq g 0)) (n+1) cap):=by
  rw [Array.getElem?_setIfInBounds,if_pos rfl,if_pos (by simpa using z2)]
 have e3:((((C.setIfInBounds (p+1) (iv (s+1))).setIfInBounds p (.pointer t'.addr)).setIfInBounds (p+2) (.slice (some (aq g 0)) (n+1) cap)))[p+3]?=some (iv rm):=by
  rw [Array.getElem?_setIfInBounds,if_neg (by omega),Array.getElem?_setIfInBounds,if_neg (by omega),Array.getElem?_setIfInBounds,if_neg (by omega)];exact h3
 refine ⟨g,cap,by rw [Joins.cell_of_block a1];exact e2,by rw [Joins.cell_of_block a1];exact e3,ja0 a1 _,(blt a1),fun e=>⟨t',g,cap,?_,a2,a3,a4,a5,a6,a7⟩,⟨t',g,cap,Joins.block_setCell a1 _,t'.at_set a2 a1 hT,a3,?_,jc8 a5 x _ _ (.inl rfl),a6,a7⟩⟩
 ·rw [e,jfs e3];exact a1
 ·exact jad a4 (fun k hk=>Below.heap_setCell _ (aq x (p+3)) _ _ (fun e=>jb3 a4 a1 (fun e=>hT2 e.symm) (by rw [hk,show k=x from e])))
theorem jn9 {w w':World} {B x p n:Nat} {C:Array Value} {T:TypeId} {t:Tr} {s num:Int} {v:Value} {E L:List Value} {rm:Int} (h:jfv w w' B x p C T t s num v n E L rm):jfv w w'.drew B x p C T t s num v n E L rm:=by
 obtain ⟨t',g,cap,a1,a2,a3,a4,a5,a6,a7⟩:=h
 exact ⟨t',g,cap,a1,t'.at_keep a2 (fun _ _=>rfl),a3,a4.drew,jld a5,a6,a7⟩
theorem jyq {w W w4 w5:World} {B x p n g cap:Nat} {C:Array Value} {T:TypeId} (hT:T≠211) (hT2:T≠184) {t:Tr} {s num:Int} {v:Value} {E L:List Value} {O:Obj} (hW:Below w.heap.size w W) (hA:jbe W w4 x p C T (s+1) t (jbd (num,0) n t.toL)) (hvn:∀ k,v.ownBlock=some k->∃ Co,w4.heap[k]?=some (.cells Co 184 (0,0)))
 (hown:w5.ownsRow B 184 6 (.slice (some (aq g 0)) (n+1) cap) (n+1) (E++L)) (hg:(w4.alloc O).grownBy w5 v.ownBlock) (hat:v.ownBlock=some g\/g=w4.heap.size+1) :
 jns w (w5.setCell (aq x (p+2)) (.slice (some (aq g 0)) (n+1) cap)) B x p C T t s num v n E L:=by
 obtain ⟨t',a1,a2,a3,a4,a5⟩:=hA
 have zW:=hW.size
 have z4:=a4.size
 have hx4:x<w4.heap.size:=(blt a1)
 have k1:∀ k,k<w4.heap.size->v.ownBlock≠some k->w5.heap[k]?=w4.heap[k]?:=fun k hk hn=>(hg.block k (by simp;omega) (fun e=>hn e.symm)).trans (Below.heap_alloc w4 O k hk)
 have z5:w4.heap.size+1<=w5.heap.size:=by have:=hg.size;simpa using this
 have hvx:v.ownBlock≠some x:=fun e=>by
  obtain ⟨Co,hC⟩:=hvn x e
  rw [a1] at hC
  simp only [Option.some.injEq,Obj.cells.injEq] at hC
  exact hT2 hC.2.1
 have hx5:=(k1 x hx4 hvx).trans a1
 have ks:∀ k,k≠x->(w5.setCell (aq x (p+2)) (.slice (some (aq g 0)) (n+1) cap)).heap[k]?=w5.heap[k]?:=fun k hk=>Below.heap_setCell _ (aq x (p+2)) _ _ hk
 have hgx:g≠x:=by
  rintro rfl
  rcases hat with e|e
  ·exact hvx e
  ·omega
 refine ⟨t',g,cap,Joins.block_setCell hx5 _,t'.at_keep a2 (fun k hk=>?_),a3,jad hown (fun k hk=>ks k (fun e=>hgx (by simp [Value.ownBlock] at hk;exact hk.trans e))),⟨hg.os.trans (a4.os.trans hW.os),hg.tape.trans (a4.tape.trans hW.tape),hg.output.trans (a4.output.trans hW.output),by simp [World.setCell];omega,fun k hk hn=>?_⟩,fun k hk=>(a5 k hk).imp id (fun e=>by omega),hat.imp id (fun e=>by omega)⟩
 ·have hk4:=t'.at_lt a2 hk
  obtain ⟨C',hC⟩:=t'.at_type a2 hk
  have hkx:k≠x:=fun e=>by
   rw [e,a1] at hC
   simp only [Option.some.injEq,Obj.cells.injEq] at hC
   exact hT hC.2.1
  refine (ks k hkx).trans (k1 k hk4 (fun e=>?_))
  obtain ⟨Co,hCo⟩:=hvn k e
  rw [hCo] at hC
  simp only [Option.some.injEq,Obj.cells.injEq] at hC
  exact absurd hC.2.1 (by decide)
 ·rw [ks k (fun e=>hn (.inl e)),k1 k (by omega) (fun e=>hn (.inr e)),a4.block k (by omega) (fun e=>hn (.inl e))]
  exact hW.block k hk
theorem jzs (B x p n oc:Nat) (oo:Option Addr) (C:Array Value) (T:TypeId) (hT:T≠211) (hT2:T≠184) (t:Tr) (s num cust units st cents upto:Int) (E:List Value) (w:World) (hx:w.heap[x]?=some (.cells C T (0,0))) (h0:C[p]?=some (.pointer t.addr)) (h1:C[p+1]?=some (iv s)) (h2:C[p+2]?=some (.slice oo n oc)) (rm rm':Int) (h3:C[p+3]?=some (iv rm)) (hrm:rm'=if rm<(n:Int)+1 then (n:Int)+1 else rm) (ht:t.at w) (hs:srt t.toL) (hn:jb0 (num,0) t.toL=none) (hsz:0<=s/\s<9223372036854775807) (hO:w.ownsRow B 184 6 (.slice oo n oc) n E) (hl:n * 48+48<=140737488351232) (hB:B<=w.heap.size) :
 Calls Tryz.prog 174 #[pt x p,.agg #[iv num,iv cust,iv units,iv st,iv cents,iv upto]] w fun e w'=>e=.returned (.tuple #[])/\jfv w w' B x p C T t s num (.slice oo n oc) n E [iv num,iv cust,iv units,iv st,iv cents,iv upto] rm':=by
 have hxw:x<w.heap.size:=(blt hx)
 have HG:Hid (∀ W,Below w.heap.size w W->Calls Tryz.prog 95 #[pt x p,.agg #[iv num,iv 0]] W fun e w'=>e=.returned (.tuple #[iv 0,.bool false])/\Below W.heap.size W w'):=fun W hW=>by
  have:=jcs x p t num 0 W ((hW.cell (p:=(aq x p)) hxw).trans (by rw [Joins.cell_of_block hx];exact h0)) (t.at_below ht hW) hs
  rw [hn] at this
  exact this
 have HP:Hid (∀ W,Below w.heap.size w W->Calls Tryz.prog 112 #[pt x p,.agg #[iv num,iv 0],iv n] W fun e w'=>e=.returned (.tuple #[])/\jbe W w' x p C T (s+1) t (jbd (num,0) n t.toL)):=fun W hW=>jhh x p C T hT t s num 0 n W ((hW.block x hxw).trans hx) h0 h1 (t.at_below ht hW) hs hn hsz
 have kl:w.cell? (aq x (p+2))=some (.slice oo n oc):=by rw [Joins.cell_of_block hx];exact h2
 have hvx:Value.ownBlock (.slice oo n oc)≠some x:=jb3 hO hx (fun e=>hT2 e.symm)
 have HAPP:Hid (∀ W w4,Below w.heap.size w W->jbe W w4 x p C T (s+1) t (jbd (num,0) n t.toL)->w4.ownsRow B 184 6 (.slice oo n oc) n E/\B<=w4.heap.size/\w4.cell? (aq x (p+2))=some (.slice oo n oc)/\w4.frozen? (aq x (p+2))=false/\x<w4.heap.size/\(∀ w5 O,(w4.alloc O).drew.grownBy w5 (Value.ownBlock (.slice oo n oc))->w5.cell? (aq x (p+2))=some (.slice oo n oc)/\w5.frozen? (aq x (p+2))=false)/\∀ w5 g cp O,w5.ownsRow B 184 6 (.slice (some (aq g 0)) (n+1) cp) (n+1) (E++[iv num,iv cust,iv units,iv st,iv cents,iv upto])->(w4.alloc O).grownBy w5 (Value.ownBlock (.slice oo n oc))->(Value.ownBlock (.slice oo n oc)=some g\/g=w4.heap.size+1)->jns w (w5.setCell (aq x (p+2)) (.slice (some (aq g 0)) (n+1) cp)) B x p C T t s num (.slice oo n oc) n E [iv num,iv cust,iv units,iv st,iv cents,iv upto]):=fun W w4 hW hA=>by
  have hA0:=hA
  obtain ⟨t',a1,a2,a3,a4,a5⟩:=hA
  have zW:=hW.size
  have z4:=a4.size
  have hOW:=jbs hO hW (Nat.le_refl _)
  have hO4:w4.ownsRow B 184 6 (.slice oo n oc) n E:=jad hOW (fun k hk=>a4.block k (World.ownsRow.lt hOW k hk).2 (fun e=>hvx (by rw [hk];exact congrArg some e)))
  have e2:((C.setIfInBounds (p+1) (iv (s+1))).setIfInBounds p (.pointer t'.addr))[p+2]?=some (.slice oo n oc):=by
   rw [Array.getElem?_setIfInBounds,if_neg (by omega),Array.getElem?_setIfInBounds,if_neg (by omega)];exact h2
  have hx4:x<w4.heap.size:=(blt a1)
  refine ⟨hO4,by omega,by rw [Joins.cell_of_block a1];exact e2,ja0 a1 _,hx4,fun w5 O hg=>?_,fun w5 g cp O q1 q2 q3=>jyq hT hT2 hW hA0 (fun k hk=>?_) q1 q2 q3⟩
  ·have hx5:w5.heap[x]?=_:=(hg.block x (by simp;omega) (fun e=>hvx e.symm)).trans ((Below.heap_alloc w4 O x hx4).trans a1)
   exact ⟨by rw [Joins.cell_of_block hx5];exact e2,ja0 hx5 _⟩
  ·rcases hO4.2 with ⟨hh,_⟩|⟨g',cp',cur,hh,_,hgg,_⟩
   ·rw [hh] at hk;simp [Value.ownBlock] at hk
   ·rw [hh] at hk
    have e:g'=k:=by simpa [Value.ownBlock] using hk
    rw [← e]
    exact ⟨_,hgg⟩
 have HROOM:Hid (∀ W6,jns w W6 B x p C T t s num (.slice oo n oc) n E [iv num,iv cust,iv units,iv st,iv cents,iv upto]->∃ gg cp:Nat,W6.cell? (aq x (p+2))=some (.slice (some (aq gg 0)) (n+1) cp)/\W6.cell? (aq x (p+3))=some (iv rm)/\W6.frozen? (aq x (p+3))=false/\x<W6.heap.size/\(rm'=rm->jfv w W6 B x p C T t s num (.slice oo n oc) n E [iv num,iv cust,iv units,iv st,iv cents,iv upto] rm')/\jfv w (W6.setCell (aq x (p+3)) (iv rm')) B x p C T t s num (.slice oo n oc) n E [iv num,iv cust,iv units,iv st,iv cents,iv upto] rm'):=fun W6 hA=>jx2 hT hT2 h2 h3 hA
 obtain ⟨i0,j0,j1,j2,j3⟩:=info_parts Tryz.infoPOrder
 clear h3
 clear hx h0 h1 h2 ht hs hn hsz hO hvx
 go_enter Tryz.func174,Tryz.ntmps174
 go_wp2_with fail
 have ob:Hid (((w.alloc (.cells #[iv num,iv cust,iv units,iv st,iv cents,iv upto] 184)).alloc (.cells #[iv num,iv 0] 178)).heap[w.heap.size]?=some (.cells #[iv num,iv cust,iv units,iv st,iv cents,iv upto] 184 (0,0))):=(Below.heap_alloc _ _ _ (by simp)).trans (heap_alloc_new w _)
 have kb:Hid (((w.alloc (.cells #[iv num,iv cust,iv units,iv st,iv cents,iv upto] 184)).alloc (.cells #[iv num,iv 0] 178)).heap[w.heap.size+1]?=some (.cells #[iv num,iv 0] 178 (0,0))):=by
  have h:=heap_alloc_new (w.alloc (.cells #[iv num,iv cust,iv units,iv st,iv cents,iv upto] 184)) (.cells #[iv num,iv 0] 178)
  rwa [show (w.alloc (.cells #[iv num,iv cust,iv units,iv st,iv cents,iv upto] 184)).heap.size=w.heap.size+1 by simp] at h
 have hbl:Hid (Below w.heap.size w ((w.alloc (.cells #[iv num,iv cust,iv units,iv st,iv cents,iv upto] 184)).alloc (.cells #[iv num,iv 0] 178))):=((Below.refl _ _).alloc (Nat.le_refl _) _).alloc (by simp) _
 generalize (w.alloc (.cells #[iv num,iv cust,iv units,iv st,iv cents,iv upto] 184)).alloc (.cells #[iv num,iv 0] 178)=W0 at ob kb hbl ⊢
 obtain ⟨y0,y1⟩:=jaa kb.out
 have hz:w.heap.size+1<W0.heap.size:=(blt kb.out)
 have hxW:x<W0.heap.size:=by omega
 replace kl:Hid _:=kl
 go_region_held3 (fun w'=>w'.cell? (aq (w.heap.size+1) 0)=some (iv num)/\w'.cell? (aq (w.heap.size+1) 1)=some (iv 0)) (simp [go_sem, *])
  (first
    | (go_at_call 95;refine (HG.out _ bL).mono ?_;rintro e w1 ⟨rfl,b⟩
       have hb1:Below W0.heap.size W0 w1:=by first|exact b|exact Below.trans (show Below W0.heap.size W0 _ from bL) b
       have hbl1:Hid (Below w.heap.size w w1):=Below.trans hbl.out (hb1.mono hbl.out.size)
       have ob1:Hid _:=(hb1.block w.heap.size (by omega)).trans ob.out
       have kb1:Hid _:=(hb1.block (w.heap.size+1) hz).trans kb.out
       obtain ⟨q0,q1⟩:=jaa kb1.out
       have hz1:w.heap.size+1<w1.heap.size:=Nat.lt_of_lt_of_le hz hb1.size
       clear b hb1))
 have kl1:=(hbl1.out.cell (p:=(aq x (p+2))) hxw).trans kl.out
 have hx1:x<w1.heap.size:=by omega
 go_wp2_with fail
 go_region_held3 (fun w'=>w'.cell? (aq (w.heap.size+1) 0)=some (iv num)/\w'.cell? (aq (w.heap.size+1) 1)=some (iv 0)/\w'.cell? (aq x (p+2))=some (.slice oo n oc)) (simp [go_sem, *])
  (first
    | (go_at_call 112;refine (HP.out _ bL).mono ?_;rintro e w4 ⟨rfl,hq⟩
       obtain ⟨m1,m2,m3,m4,m5,m6,m7⟩:=HAPP.out _ w4 bL hq
       have hsm:=hq.choose_spec.2.2.2.1
       have ob4:Hid _:=(hsm.block w.heap.size (by first|omega|(simp;omega)) (show w.heap.size≠x by omega)).trans ob1.out
       obtain ⟨r0,r1⟩:=jaa ((hsm.block (w.heap.size+1) (by first|exact hz1|simpa using hz1) (show w.heap.size+1≠x by omega)).trans kb1.out)
       replace m1:Hid (w4.ownsRow B 184 6 (.slice oo n oc) n E):=m1
       replace m6:Hid _:=m6
       replace m7:Hid _:=m7
       clear hsm hq))
 obtain ⟨s0,s1,s2,s3,s4,s5⟩:=ja1 ob4.out
 have hz4:w.heap.size<w4.heap.size:=(blt ob4.out)
 have hnb:Hid ((w4.alloc (.cells #[iv num,iv cust,iv units,iv st,iv cents,iv upto] 184)).heap[w4.heap.size]?=some (.cells #[iv num,iv cust,iv units,iv st,iv cents,iv upto] 184 (0,0))):=heap_alloc_new _ _
 clear y0 y1 q0 q1 r0 r1 HG HP HAPP kl1
 go_wp2_with fail
 go_region_law ((refine step_append_lies _ (by rfl) _ _ _ (by rfl) B 184 i0 (.agg #[iv 0,iv 0,iv 0,iv 0,iv 0,iv 0]) 6 48 Tryz.underlying106 j0 j1 j2 j3 rfl (by omega) (.slice oo n oc) n E (by rfl) ((show w4.ownsRow B 184 6 (.slice oo n oc) n E from m1.out).alloc _).drew (aq w4.heap.size 0) 1 1 [iv num,iv cust,iv units,iv st,iv cents,iv upto] (by rfl) (by rfl) (World.news_of_block (cs:=#[iv num,iv cust,iv units,iv st,iv cents,iv upto]) (t:=184) (fr:=(0,0)) hnb.out) (by simp [Value.oneCell']) (by omega) (by unfold maxLen;omega) (by omega) (by simp;omega) (w4.heap.size+1) (by simp) ?_
                 intro gg cp w5 hown3 hgrow hat hlt
                 obtain ⟨g1,gf⟩:=m6.out w5 _ hgrow
                 replace hown3:Hid _:=hown3
                 replace hgrow:Hid _:=hgrow
                 replace hat:Hid _:=hat))
 all_goals
  have hA:=m7.out w5 gg cp _ hown3.out ⟨hgrow.out.os,hgrow.out.tape,hgrow.out.output,hgrow.out.size,hgrow.out.block⟩ hat.out
  obtain ⟨g6,c6,k2,k3,kf,kx,kn,ks⟩:=HROOM.out _ hA
  clear hA g1 gf
  generalize w5.setCell (aq x (p+2)) (.slice (some (aq gg 0)) (n+1) cp)=W6 at k2 k3 kf kx kn ks ⊢
  replace kn:Hid _:=kn
  replace ks:Hid _:=ks
 all_goals
  by_cases hr:rm<(n:Int)+1
  ·have dr:decide (rm<(n:Int)+1)=true:=by simpa using hr
   have er:rm'=(n:Int)+1:=by rw [hrm,if_pos hr]
   subst er
   clear hrm
   go_wp2_with fail
   go_region
   all_goals (first|go_end0|(go_wp2;go_end0)|(go_wp2;refine bodyPost_ret (results_none rfl _ _ _) rfl ?_))
   all_goals exact ⟨rfl,jn9 ks.out⟩
  ·have dr:decide (rm<(n:Int)+1)=false:=by simpa using hr
   have er:rm'=rm:=by rw [hrm,if_neg hr]
   clear hrm
   go_wp2_with fail
   go_region
   all_goals (first|go_end0|(go_wp2;go_end0)|(go_wp2;refine bodyPost_ret (results_none rfl _ _ _) rfl ?_))
   all_goals exact ⟨rfl,jn9 (kn.out er)⟩
section
theorem qd2 (x:Nat) (st l wt kp:Int) (w:World) (h3:w.cell? (aq x 3)=some (iv l)) (h4:w.cell? (aq x 4)=some (iv wt)) (h5:w.cell? (aq x 5)=some (iv kp)) :
 Calls Tryz.prog 173 #[pt x 0,iv st] w fun e w'=>e=.returned (iv (if st=13 then l else if st=12 then wt else kp))/\Below w.heap.size w w':=by
 by_cases e1:st=13
 ·subst e1
  rw [if_pos rfl]
  go_enter Tryz.func173,Tryz.ntmps173
  go_wp2
  go_ret
  exact ⟨rfl,Below.refl _ _⟩
 ·rw [if_neg e1]
  have q1:(st==13)=false:=by simpa using e1
  by_cases e2:st=12
  ·subst e2
   rw [if_pos rfl]
   go_enter Tryz.func173,Tryz.ntmps173
   go_wp2
   go_ret
   exact ⟨rfl,Below.refl _ _⟩
  ·rw [if_neg e2]
   have q2:(st==12)=false:=by simpa using e2
   go_enter Tryz.func173,Tryz.ntmps173
   go_wp2
   go_ret
   exact ⟨rfl,Below.refl _ _⟩
theorem qd6 (x:Nat) (a b:Int) (w:World) (h0:w.cell? (aq x 0)=some (iv a)) (h1:w.cell? (aq x 20)=some (iv b)) (ha:0<=a/\a<=4611686018427387904) (hb:-2305843009213693952<=b/\b<=2305843009213693952) :
 Calls Tryz.prog 154 #[pt x 0] w fun e w'=>e=.returned (iv (a - b))/\Below w.heap.size w w':=by
 have hw:IntKind.i64.wrap (a - b)=a - b:=jag (by omega) (by omega)
 go_enter Tryz.func154,Tryz.ntmps154
 go_wp2_with fail
 go_quiet (fail)
 go_wp2
 go_ret
 exact ⟨rfl,bL⟩
theorem qcj (x:Nat) (a b c:Int) (w:World) (h0:w.cell? (aq x 0)=some (iv a)) (h1:w.cell? (aq x 20)=some (iv b)) (h2:w.cell? (aq x 19)=some (iv c)) (ha:0<=a/\a<=4611686018427387904) (hb:-1152921504606846976<=b/\b<=1152921504606846976) (hc:-1152921504606846976<=c/\c<=1152921504606846976) :
 Calls Tryz.prog 58 #[pt x 0] w fun e w'=>e=.returned (iv (a - b - c))/\Below w.heap.size w w':=by
 have hw:IntKind.i64.wrap (a - b)=a - b:=jag (by omega) (by omega)
 have hw2:IntKind.i64.wrap (a - b - c)=a - b - c:=jag (by omega) (by omega)
 go_enter Tryz.func58,Tryz.ntmps58
 go_wp2_with fail
 go_quiet (fail)
 go_wp2
 go_ret
 exact ⟨rfl,bL⟩
theorem qay (R:Nat) (ap:Option Addr) (lp cp:Nat) (ps:List (Int × Int)) (sold:Int) (w:World) (h7:w.cell? (aq R 7)=some (.slice ap lp cp)) (h20:w.cell? (aq R 20)=some (iv sold)) (ht:jsc w ap lp ps) :
 Calls Tryz.prog 178 #[pt R 0] w fun e w'=>e=.returned (iv (jd0 ps sold ps.length))/\Below w.heap.size w w':=by
 have hRw:R<w.heap.size:=World.block_lt_of_cell? w _ h7
 obtain ⟨⟨t1,t2⟩,t5⟩:=ht
 subst t1
 have HT:Hid (0<ps.length->∃ b off,ap=some (aq b off)/\b<w.heap.size/\∀ i,i<ps.length->w.cell? (aq b (off+i * 2))=some (iv (ps.getD i (0,0)).1)/\w.cell? (aq b (off+i * 2+1))=some (iv (ps.getD i (0,0)).2)):=fun h=>t5 (List.length_pos_iff.1 h)
 have H7:Hid (w.cell? (aq R 7)=some (.slice ap ps.length cp)):=h7
 have H20:Hid (w.cell? (aq R 20)=some (iv sold)):=h20
 clear t5 h7 h20
 go_enter Tryz.func178,Tryz.ntmps178
 go_wp2_with fail
 go_loopw [3,4] (fun c i wr=>∃ k:Nat,k<=ps.length/\i=iv k/\c=iv (jd0 ps sold k)/\Below w.heap.size w wr) (fun _ i _=>ps.length - (intOf i).toNat)
 case atStart=>exact ⟨0,Nat.zero_le _,rfl,rfl,Below.refl _ _⟩
 case round =>
  obtain ⟨k,hk,rfl,rfl,hbel⟩:=hrel
  have c7:=(hbel.cell (p:=(aq R 7)) hRw).trans H7.out
  have c20:=(hbel.cell (p:=(aq R 20)) hRw).trans H20.out
  by_cases hlt:k<ps.length
  ·obtain ⟨b,off,rfl,hbw,hcell⟩:=HT.out (by omega)
   obtain ⟨k0,k1⟩:=hcell k hlt
   have d0:=(hbel.cell (p:=(aq b (off+k * 2))) hbw).trans k0
   have d1:=(hbel.cell (p:=(aq b (off+k * 2+1))) hbw).trans k1
   have HP:Hid (jd0 ps sold (k+1)=if (ps.getD k (0,0)).1<=sold then (ps.getD k (0,0)).2 else jd0 ps sold k):=rfl
   have b0:(0:Int)<=(k:Int):=by omega
   have b1':(k:Int)<(ps.length:Int):=by omega
   clear k0 k1 hcell HT
   generalize ps.getD k (0,0)=p at d0 d1 HP
   obtain ⟨p0,p1⟩:=p
   simp only at d0 d1 HP
   by_cases hle:p0<=sold
   ·have HP2:Hid (jd0 ps sold (k+1)=p1):=by rw [Hid,HP.out,if_pos hle]
    go_wp2_with fail
    go_quiet (fail)
    go_wp2
    exact ⟨⟨k+1,by omega,by go_num,by rw [HP2.out],bL⟩,by simp [intOf];omega⟩
   ·have HP2:Hid (jd0 ps sold (k+1)=jd0 ps sold k):=by rw [Hid,HP.out,if_neg hle]
    have hle':decide (p0<=sold)=false:=by simpa using hle
    go_wp2_with fail
    go_quiet (fail)
    go_wp2
    exact ⟨⟨k+1,by omega,by go_num,by rw [HP2.out],bL⟩,by simp [intOf];omega⟩
  ·have hke:k=ps.length:=by omega
   subst hke
   go_wp2
   go_ret
   exact ⟨rfl,hbel⟩
section
variable {W:World} {x:Nat} {own:Nat->Prop} {V:PV}
theorem jsl (st:Int) (h:psm W x own V) :
 Calls Tryz.prog 173 #[pt x 0,iv st] W fun e w'=>e=.returned (iv (jao V.C st))/\Below W.heap.size W w':=by
 obtain ⟨g,h⟩:=h
 exact qd2 x st V.C.lease V.C.wait V.C.keep W (h.cell 3 _ rfl) (h.cell 4 _ rfl) (h.cell 5 _ rfl)
theorem qd3 (h:psm W x own V) (ha:0<=V.C.stock/\V.C.stock<=4294967296) (hb:0<=V.sold/\V.sold<=4294967296) :
 Calls Tryz.prog 154 #[pt x 0] W fun e w'=>e=.returned (iv (V.C.stock - V.sold))/\Below W.heap.size W w':=by
 obtain ⟨g,h⟩:=h
 exact qd6 x V.C.stock V.sold W (h.cell 0 _ rfl) (h.cell 20 _ rfl) ⟨ha.1,by omega⟩ ⟨by omega,by omega⟩
theorem qcd (h:psm W x own V) (ha:0<=V.C.stock/\V.C.stock<=4294967296) (hb:0<=V.sold/\V.sold<=4294967296) (hc:0<=V.held/\V.held<=4294967296) :
 Calls Tryz.prog 58 #[pt x 0] W fun e w'=>e=.returned (iv (V.C.stock - V.sold - V.held))/\Below W.heap.size W w':=by
 obtain ⟨g,h⟩:=h
 exact qcj x V.C.stock V.sold V.held W (h.cell 0 _ rfl) (h.cell 20 _ rfl) (h.cell 19 _ rfl) ⟨ha.1,by omega⟩ ⟨by omega,by omega⟩ ⟨by omega,by omega⟩
theorem qaz (h:psm W x own V) :
 Calls Tryz.prog 178 #[pt x 0] W fun e w'=>e=.returned (iv (jd0 V.C.prices V.sold V.C.prices.length))/\Below W.heap.size W w':=by
 obtain ⟨g,h⟩:=h
 exact qay x V.pa V.pl V.pc V.C.prices V.sold W (h.cell 7 _ rfl) (h.cell 20 _ rfl) h.tiers
theorem jwq (o:POrd) (h:psm W x own V) (hs:srt V.ot) (hg:jb0 (o.num,0) V.ot=none) (hl:V.ot.length=V.ol.length) (hz:V.ol.length<=4294967296) :
 Calls Tryz.prog 174 #[pt x 11,o.val] W fun e w'=>e=.returned (.tuple #[])/\jaz W w' x own { V with ot:=jbd (o.num,0) V.ol.length V.ot,ol:=V.ol++[o],orm:=if V.orm<(V.ol.length:Int)+1 then (V.ol.length:Int)+1 else V.orm }:=by
 obtain ⟨g,h⟩:=h
 refine (jzs 0 x 11 V.ol.length g.oc g.oo (jb9 V g) 117 (by decide) (by decide) g.ot V.ot.length o.num o.cust o.units o.st o.cents o.upto (jdf V.ol) W h.blk rfl rfl rfl V.orm _ rfl rfl h.ot.1 (by rw [h.ot.2];exact hs) (by rw [h.ot.2];exact hg) ⟨by omega,by omega⟩ h.orow (by omega) (Nat.zero_le _)).mono ?_
 rintro e w' ⟨rfl,t',b,cap,a1,a2,a3,a4,a5,a6,a7⟩
 rw [h.ot.2] at a3
 have e1:(V.ot.length:Int)+1=((jbd (o.num,0) V.ol.length V.ot).length:Int):=by rw [jkj hg];omega
 have e2:(V.ol++[o]).length=V.ol.length+1:=by simp
 rw [e1] at a1
 have hs':Same (g.xs V x) W w':=jce a5 (fun k e=>e.elim .inl (fun e=>.inr (.inl e)))
 refine ⟨rfl,h.turn hs' (V':={ V with ot:=jbd (o.num,0) V.ol.length V.ot,ol:=V.ol++[o],orm:=if V.orm<(V.ol.length:Int)+1 then (V.ol.length:Int)+1 else V.orm }) (g':={ g with ot:=t',oo:=some (aq b 0),oc:=cap }) ?_ rfl ⟨rfl,rfl,rfl⟩ ⟨rfl,rfl,rfl,rfl⟩ ⟨rfl,rfl,rfl,rfl⟩ ⟨a2,a3,a6⟩ ⟨h.stay hs' h.qt.1,h.qt.2,fun _ e=>.inl e⟩ ⟨h.stay hs' h.qz.1,h.qz.2,fun _ e=>.inl e⟩ ⟨h.stay hs' h.lu.1,h.lu.2,fun _ e=>.inl e⟩ ⟨h.stay hs' h.att.1,h.att.2,fun _ e=>.inl e⟩ ?_ ?_⟩
 ·rw [a1]
  unfold jb9
  simp only [e2]
  rfl
 ·show w'.ownsRow 0 184 6 (.slice (some (aq b 0)) (V.ol++[o]).length cap) (V.ol++[o]).length (jdf (V.ol++[o]))/\∀ k,Value.ownBlock (.slice (some (aq b 0)) (V.ol++[o]).length cap)=some k->_
  rw [e2]
  refine ⟨?_,fun k e=>?_⟩
  ·have e3:jdf (V.ol++[o])=jdf V.ol++o.vals:=by simp [jdf]
   rw [e3]
   exact a4
  ·have e4:b=k:=by simpa [Value.ownBlock] using e
   rw [← e4]
   exact a7
 ·refine ⟨jad h.arow (fun k e=>a5.block k (World.ownsRow.lt h.arow k e).2 (fun c=>?_)),fun k e=>.inl e⟩
  rcases c with c|c
  ·exact jb3 h.arow h.blk (by decide) (by rw [e,show k=x from c])
  ·obtain ⟨Co,hCo⟩:=jgj h.orow c
   exact jb3 h.arow hCo (by decide) e
end
end
def Ord.alive (o:Ord):Prop:=o.state=12\/o.state=13
def Sal.knows (S:Sal) (i:Nat):Prop:=i<S.os.length/\((S.os.getD i ja2).alive\/S.now<(S.os.getD i ja2).untl S.C)
theorem jdb {C:Cfg} {o:Ord} (h:o.alive):o.untl C=o.upto:=if_pos h
theorem jj7 {C:Cfg} {o:Ord} (h:¬ o.alive):o.untl C=o.ended+C.keep:=if_neg h
theorem jwb {S:Sal} {i:Nat} {o:Ord} (hk:S.knows i) (ho:o.alive\/S.now<o.untl S.C):(S.put i o).knows=S.knows:=by
 funext k
 have hg:(S.put i o).os.getD k ja2=if k=i then o else S.os.getD k ja2:=jb4 o hk.1
 have hl:(S.put i o).os.length=S.os.length:=by show (S.os.set i o).length=_;simp
 unfold Sal.knows
 rw [hg,hl]
 by_cases e:k=i
 ·rw [if_pos e,e]
  exact propext ⟨fun _=>hk,fun _=>⟨hk.1,ho⟩⟩
 ·rw [if_neg e]
  rfl
theorem jtx {S:Sal} {o:Ord} (ho:o.alive):(S.more o).knows=fun k=>S.knows k\/k=S.os.length:=by
 funext k
 have hl:(S.more o).os.length=S.os.length+1:=by show (S.os++[o]).length=_;simp
 unfold Sal.knows
 rw [hl]
 by_cases hk:k<S.os.length+1
 ·have hg:(S.more o).os.getD k ja2=if k=S.os.length then o else S.os.getD k ja2:=jax hk
  rw [hg]
  by_cases e:k=S.os.length
  ·rw [if_pos e]
   exact propext ⟨fun _=>.inr e,fun _=>⟨hk,.inl ho⟩⟩
  ·rw [if_neg e]
   exact propext ⟨fun h=>.inl ⟨by omega,h.2⟩,fun h=>h.elim (fun h=>⟨hk,h.2⟩) (fun h=>absurd h e)⟩
 ·exact propext ⟨fun h=>absurd h.1 hk,fun h=>h.elim (fun h=>by have:=h.1;omega) (fun h=>by omega)⟩
def Sal.stable (S:Sal):Prop:=∀ q qs,ja5 S.os=q :: qs->S.free<(S.os.getD q ja2).units
theorem jjt {S:Sal} (h:S.stable):S.promote=S:=by
 cases hq:ja5 S.os with
 | nil=>exact jlh hq
 | cons q qs=>exact jjs hq (h q qs hq)
theorem jg2:∀ (n:Nat) (S:Sal),(ja5 S.os).length<=n->(jam n S).stable
 | 0,S,h=>by
   have:ja5 S.os=[]:=List.length_eq_zero_iff.1 (by omega)
   intro q qs hq
   rw [show jam 0 S=S from rfl,this] at hq
   cases hq
 | n+1,S,h=>by
   unfold jam
   split
   ·next hq=>intro q qs hq';rw [hq] at hq';cases hq'
   ·next q qs hq =>
    split
    ·next hf =>
     intro q' qs' hq'
     rw [hq] at hq'
     simp only [List.cons.injEq] at hq'
     rw [← hq'.1]
     exact hf
    ·refine jg2 n _ ?_
     rw [jfn hq]
     rw [hq] at h
     simpa using h
theorem jh3 (S:Sal):S.promote.stable:=jg2 _ S (Nat.le_refl _)
theorem jgc {Q:Ord->Prop} (now:Int) (C:Cfg) (hq:∀ o c,Q o->o.state=12->Q { o with state:=13,cents:=c,upto:=now+C.lease }):∀ (n:Nat) (S:Sal),S.now=now->S.C=C->(∀ o∈S.os,Q o)->∀ o∈(jam n S).os,Q o
 | 0,S,_,_,h=>h
 | n+1,S,hn,hC,h=>by
   unfold jam
   split
   ·exact h
   ·next q qs hqq =>
    split
    ·exact h
    ·obtain ⟨_,hl,hs⟩:=jcc hqq ja2 (by decide)
     refine jgc now C hq n _ hn hC (fun o ho=>?_)
     rcases jei (show o∈S.os.set q _ from ho) with rfl|ho
     ·rw [hn,hC]
      exact hq _ _ (h _ (jb2 hl)) hs
     ·exact h o ho
theorem jgw {Q:Ord->Prop} (S:Sal) (hq:∀ o c,Q o->o.state=12->Q { o with state:=13,cents:=c,upto:=S.now+S.C.lease }) (h:∀ o∈S.os,Q o):∀ o∈S.promote.os,Q o:=jgc S.now S.C hq _ S rfl rfl h
theorem jd6 {os:List Ord} {o:Ord} (h:o∈os):∃ i,i<os.length/\os.getD i ja2=o:=by
 obtain ⟨i,hi,rfl⟩:=List.getElem_of_mem h
 exact ⟨i,hi,by simp [List.getD,List.getElem?_eq_getElem hi]⟩
theorem jgb (S:Sal) (st en:Int):∀ n,n<=S.os.length->∀ k,(jbq S st en n).os.getD k ja2=if k<n/\(S.os.getD k ja2).state=st/\(S.os.getD k ja2).upto=S.now then { S.os.getD k ja2 with state:=en,ended:=S.now } else S.os.getD k ja2
 | 0,_,k=>by rw [if_neg (by omega)];rfl
 | n+1,hn,k=>by
   have ih:=jgb S st en n (by omega)
   obtain ⟨_,hnow,_⟩:=jdw S st en n
   have hi:=ih n
   rw [if_neg (by omega)] at hi
   unfold jbq
   rw [hi]
   by_cases hc:(S.os.getD n ja2).state=st/\(S.os.getD n ja2).upto=S.now
   ·rw [if_pos hc]
    have hl:n<(jbq S st en n).os.length:=by rw [jc7];omega
    have hg:((jbq S st en n).ends n en).os.getD k ja2=if k=n then { (jbq S st en n).os.getD n ja2 with state:=en,ended:=(jbq S st en n).now } else (jbq S st en n).os.getD k ja2:=jb4 _ hl
    rw [hg,hi,hnow]
    by_cases e:k=n
    ·rw [if_pos e,if_pos ⟨by omega,by rw [e];exact hc⟩,e]
    ·rw [if_neg e,ih k]
     by_cases hk:k<n
     ·simp only [hk,show k<n+1 by omega,true_and]
     ·rw [if_neg (fun c=>hk c.1),if_neg (fun c=>e (by omega))]
   ·rw [if_neg hc,ih k]
    by_cases hk:k<n
    ·simp only [hk,show k<n+1 by omega,true_and]
    ·rw [if_neg (fun c=>hk c.1)]
     by_cases e:k=n
     ·rw [if_neg (fun c=>hc (by rw [← e];exact c.2))]
     ·rw [if_neg (fun c=>e (by omega))]
theorem js9 {a b:List Ord} (hl:a.length=b.length) (h:∀ k,k<a.length->a.getD k ja2=b.getD k ja2):a=b:=by
 apply List.ext_getElem hl
 intro k h1 h2
 have:=h k h1
 simpa [List.getD,List.getElem?_eq_getElem h1,List.getElem?_eq_getElem h2] using this
theorem jxn {a b:Sal} (h1:a.C=b.C) (h2:a.now=b.now) (h3:a.os=b.os) (h4:a.ansL=b.ansL):a=b:=by
 cases a;cases b;simp_all
def jfy (S:Sal) (st en:Int) (ds:List Nat):Sal:=ds.foldl (fun S k=>if (S.os.getD k ja2).state=st then S.ends k en else S) S
theorem jq9 (S:Sal) (st en:Int) (ds:List Nat) (k:Nat):jfy S st en (ds++[k])=if ((jfy S st en ds).os.getD k ja2).state=st then (jfy S st en ds).ends k en else jfy S st en ds:=by
 unfold jfy
 rw [List.foldl_append]
 rfl
theorem jl0 (st en:Int):∀ (ds:List Nat) (S:Sal),(jfy S st en ds).C=S.C/\(jfy S st en ds).now=S.now/\(jfy S st en ds).ansL=S.ansL/\(jfy S st en ds).os.length=S.os.length
 | [],S=>⟨rfl,rfl,rfl,rfl⟩
 | d :: ds,S=>by
   have e:jfy S st en (d :: ds)=jfy (if (S.os.getD d ja2).state=st then S.ends d en else S) st en ds:=rfl
   rw [e]
   obtain ⟨a,b,c,d'⟩:=jl0 st en ds (if (S.os.getD d ja2).state=st then S.ends d en else S)
   rw [a,b,c,d']
   split
   ·exact ⟨rfl,rfl,rfl,jcx S d en⟩
   ·exact ⟨rfl,rfl,rfl,rfl⟩
theorem jnx {st en:Int} (hne:en≠st):∀ (ds:List Nat) (S:Sal),(∀ d∈ds,d<S.os.length)->∀ k,(jfy S st en ds).os.getD k ja2=if k∈ds/\(S.os.getD k ja2).state=st then { S.os.getD k ja2 with state:=en,ended:=S.now } else S.os.getD k ja2
 | [],S,_,k=>by rw [if_neg (by simp)];rfl
 | d :: ds,S,h,k=>by
   have e:jfy S st en (d :: ds)=jfy (if (S.os.getD d ja2).state=st then S.ends d en else S) st en ds:=rfl
   have hd:=h d List.mem_cons_self
   have h':∀ x∈ds,x<S.os.length:=fun x hx=>h x (List.mem_cons_of_mem _ hx)
   rw [e]
   by_cases hs:(S.os.getD d ja2).state=st
   ·rw [if_pos hs,jnx hne ds _ (fun x hx=>by rw [jcx];exact h' x hx) k]
    have hg:(S.ends d en).os.getD k ja2=if k=d then { S.os.getD d ja2 with state:=en,ended:=S.now } else S.os.getD k ja2:=jb4 _ hd
    rw [hg]
    by_cases ek:k=d
    ·subst ek
     rw [if_pos rfl,if_neg (fun c=>hne c.2),if_pos ⟨List.mem_cons_self,hs⟩]
    ·rw [if_neg ek]
     have hi:(k∈d :: ds)↔k∈ds:=by simp [ek]
     by_cases hm:k∈ds/\(S.os.getD k ja2).state=st
     ·rw [if_pos hm,if_pos ⟨hi.2 hm.1,hm.2⟩]
      rfl
     ·rw [if_neg hm,if_neg (fun c=>hm ⟨hi.1 c.1,c.2⟩)]
   ·rw [if_neg hs,jnx hne ds S h' k]
    by_cases ek:k=d
    ·subst ek
     rw [if_neg (fun c=>hs c.2),if_neg (fun c=>hs c.2)]
    ·have hi:(k∈d :: ds)↔k∈ds:=by simp [ek]
     by_cases hm:k∈ds/\(S.os.getD k ja2).state=st
     ·rw [if_pos hm,if_pos ⟨hi.2 hm.1,hm.2⟩]
     ·rw [if_neg hm,if_neg (fun c=>hm ⟨hi.1 c.1,c.2⟩)]
theorem jqf {S:Sal} {st en:Int} (hne:en≠st) {ds:List Nat} (hd:∀ d∈ds,d<S.os.length) (h1:∀ k,k<S.os.length->(S.os.getD k ja2).state=st->(k∈ds↔(S.os.getD k ja2).upto=S.now)):jfy S st en ds=jbq S st en S.os.length:=by
 obtain ⟨a,b,c,d⟩:=jl0 st en ds S
 obtain ⟨a',b',c'⟩:=jdw S st en S.os.length
 refine jxn (a.trans a'.symm) (b.trans b'.symm) (js9 (d.trans (jc7 S st en _).symm) (fun k hk=>?_)) (c.trans c'.symm)
 rw [d] at hk
 rw [jnx hne ds S hd,jgb S st en _ (Nat.le_refl _)]
 by_cases hs:(S.os.getD k ja2).state=st
 ·have:=h1 k hk hs
  by_cases hm:k∈ds
  ·rw [if_pos ⟨hm,hs⟩,if_pos ⟨hk,hs,this.1 hm⟩]
  ·rw [if_neg (fun c=>hm c.1),if_neg (fun c=>hm (this.2 c.2.2))]
 ·rw [if_neg (fun c=>hs c.2),if_neg (fun c=>hs c.2.1)]
structure restS (S:Sal):Prop where
 fut:∀ o∈S.os,o.alive->S.now<o.upto
 stable:S.stable
 lease:1<=S.C.lease/\S.C.lease<=4294967296
 wait:1<=S.C.wait/\S.C.wait<=4294967296
 keep:1<=S.C.keep/\S.C.keep<=4294967296
 tokens:1<=S.C.tokens/\S.C.tokens<=4294967296
 queue:1<=S.C.queue/\S.C.queue<=4294967296
theorem jo6 (os:List Ord) (to:Int) (h0:∀ o∈os,o.alive->0<=o.upto):∀ k,k<=os.length->∀ i,i<k->(os.getD i ja2).alive->(os.getD i ja2).upto<=to->0<=jqj os to k/\jqj os to k<=(os.getD i ja2).upto
 | 0,_,i,h,_,_=>by omega
 | k+1,hk,i,h,ha,hu=>by
   unfold jqj
   have hk':(os.getD k ja2)∈os:=jb2 (by omega)
   by_cases hc:((os.getD k ja2).state=13\/(os.getD k ja2).state=12)/\(os.getD k ja2).upto<=to/\(jqj os to k<0\/(os.getD k ja2).upto<jqj os to k)
   ·rw [if_pos hc]
    refine ⟨h0 _ hk' hc.1.symm,?_⟩
    by_cases e:i=k
    ·rw [e];omega
    ·have:=jo6 os to h0 k (by omega) i (by omega) ha hu
     omega
   ·rw [if_neg hc]
    by_cases e:i=k
    ·subst e
     have h1:¬ (jqj os to i<0\/(os.getD i ja2).upto<jqj os to i):=fun c=>hc ⟨ha.symm,hu,c⟩
     omega
    ·exact jo6 os to h0 k (by omega) i (by omega) ha hu
theorem jyg {S:Sal} {to:Int} (h:∀ o∈S.os,o.alive->to<o.upto):S.due to<0:=by
 refine Classical.byContradiction fun hn=>?_
 obtain ⟨i,hi,hs,hu,hle⟩:=jj0 S.os to S.os.length (Nat.le_refl _) (by unfold Sal.due at hn;omega)
 have:=h _ (jb2 hi) hs.symm
 omega
theorem jmf {S:Sal} {st en:Int} (h:∀ o∈S.os,o.state=st->o.upto≠S.now):jbq S st en S.os.length=S:=by
 obtain ⟨a',b',c'⟩:=jdw S st en S.os.length
 refine jxn a' b' (js9 (jc7 S st en _) (fun k hk=>?_)) c'
 rw [jc7] at hk
 rw [jgb S st en _ (Nat.le_refl _),if_neg]
 rintro ⟨_,h1,h2⟩
 exact h _ (jb2 hk) h1 h2
theorem jy1:∀ (n:Nat) (S:Sal) (t to:Int),jdv n { S with now:=t } to=jdv n S to
 | 0,_,_,_=>rfl
 | n+1,S,t,to=>by
   unfold jdv
   have e1:({ S with now:=t }:Sal).due to=S.due to:=rfl
   rw [e1]
   split
   ·rfl
   ·rfl
theorem jtw (S:Sal) (t to:Int):({ S with now:=t }:Sal).tickTo to=S.tickTo to:=jy1 _ S t to
theorem jnk {S:Sal} {t:Int} (hs:S.stable) (h:∀ o∈S.os,o.alive->t<o.upto):S.round t={ S with now:=t }:=by
 have h1:({ S with now:=t }:Sal).past 13 15={ S with now:=t }:=by
  unfold Sal.past
  rw [jmf (S:={ S with now:=t }) (fun o ho e c=>by have:=h o ho (.inr e);have c':o.upto=t:=c;omega)]
  exact jjt (S:={ S with now:=t }) hs
 unfold Sal.round
 rw [h1]
 unfold Sal.past
 rw [jmf (S:={ S with now:=t }) (fun o ho e c=>by have:=h o ho (.inl e);have c':o.upto=t:=c;omega)]
 exact jjt (S:={ S with now:=t }) hs
theorem jri {S:Sal} (h:restS S) (h0:0<=S.now) {t to:Int} (ht:t<=to) (hm:∀ o∈S.os,o.alive->t<=o.upto):S.tickTo to=(S.round t).tickTo to:=by
 by_cases hx:∃ o∈S.os,o.alive/\o.upto=t
 ·obtain ⟨o,ho,ha,hu⟩:=hx
  obtain ⟨i,hi,rfl⟩:=jd6 ho
  have hp:∀ o∈S.os,o.alive->0<=o.upto:=fun o ho ha=>by have:=h.fut o ho ha;omega
  obtain ⟨d1,d2⟩:=jo6 S.os to hp S.os.length (Nat.le_refl _) i hi ha (by omega)
  obtain ⟨k,hk,hs,hku,_⟩:=jj0 S.os to S.os.length (Nat.le_refl _) d1
  have:=hm _ (jb2 hk) hs.symm
  have e:S.due to=t:=by unfold Sal.due;omega
  rw [qar (by rw [e];have:=h.fut _ ho ha;omega),e]
 ·rw [jnk h.stable (fun o ho ha=>by
   have:=hm o ho ha
   have:o.upto≠t:=fun e=>hx ⟨o,ho,ha,e⟩
   omega)]
  exact (jtw S t to).symm
theorem jl1 {S:Sal} {st en:Int} {Q:Ord->Prop} (hp:∀ o∈S.os,¬ (o.state=st/\o.upto=S.now)->Q o) (he:∀ o∈S.os,o.state=st->o.upto=S.now->Q { o with state:=en,ended:=S.now }) (hq:∀ o c,Q o->o.state=12->Q { o with state:=13,cents:=c,upto:=S.now+S.C.lease }):∀ o∈(S.past st en).os,Q o:=by
 obtain ⟨hC,hn,_⟩:=jdw S st en S.os.length
 unfold Sal.past
 refine jgw _ (by rw [hC,hn];exact hq) (fun o ho=>?_)
 obtain ⟨i,hi,rfl⟩:=jd6 ho
 rw [jc7] at hi
 rw [jgb S st en _ (Nat.le_refl _)]
 by_cases hc:i<S.os.length/\(S.os.getD i ja2).state=st/\(S.os.getD i ja2).upto=S.now
 ·rw [if_pos hc]
  exact he _ (jb2 hi) hc.2.1 hc.2.2
 ·rw [if_neg hc]
  exact hp _ (jb2 hi) (fun c=>hc ⟨hi,c⟩)
theorem jws {S:Sal} {t:Int} (hl:1<=S.C.lease) (h:∀ o∈S.os,o.alive->t<=o.upto):∀ o∈(S.round t).os,o.alive->t<o.upto:=by
 have h1:∀ o∈(({ S with now:=t }:Sal).past 13 15).os,(o.state=12->t<=o.upto)/\(o.state=13->t<o.upto):=by
  refine jl1 (fun o ho hc=>⟨fun e=>h o ho (.inl e),fun e=>?_⟩) (fun o ho hs hu=>⟨fun e=>?_,fun e=>?_⟩) (fun o c hq hs=>⟨fun e=>?_,fun _=>?_⟩)
  ·have:=h o ho (.inr e)
   have:o.upto≠t:=fun c=>hc ⟨e,c⟩
   omega
  ·exact absurd e (show ¬ (15:Int)=12 by decide)
  ·exact absurd e (show ¬ (15:Int)=13 by decide)
  ·exact absurd e (show ¬ (13:Int)=12 by decide)
  ·show t<t+S.C.lease;omega
 obtain ⟨hC,hn,_⟩:=jeo ({ S with now:=t }:Sal) 13 15
 unfold Sal.round
 refine jl1 (Q:=fun o=>o.alive->t<o.upto) (fun o ho hc ha=>?_) (fun o ho hs hu ha=>?_) (fun o c hq hs ha=>?_)
 ·obtain ⟨q1,q2⟩:=h1 o ho
  rcases ha with ha|ha
  ·have:=q1 ha
   have:o.upto≠t:=fun c=>hc ⟨ha,by rw [hn];exact c⟩
   omega
  ·exact q2 ha
 ·rcases ha with ha|ha
  ·exact absurd ha (show ¬ (17:Int)=12 by decide)
  ·exact absurd ha (show ¬ (17:Int)=13 by decide)
 ·show t<_+_
  rw [hC,hn]
  show t<t+S.C.lease
  omega
theorem jeq (S:Sal) (t:Int):(S.round t).C=S.C/\(S.round t).now=t/\(S.round t).ansL=S.ansL/\(S.round t).os.length=S.os.length:=by
 obtain ⟨a,b,c⟩:=jeo ({ S with now:=t }:Sal) 13 15
 obtain ⟨d,e,f⟩:=jeo (({ S with now:=t }:Sal).past 13 15) 12 17
 exact ⟨d.trans a,e.trans b,f.trans c,(jhp _ 12 17).trans (jhp _ 13 15)⟩
theorem jui {S:Sal} (h:restS S) {t:Int} (hm:∀ o∈S.os,o.alive->t<=o.upto):restS (S.round t):=by
 obtain ⟨a,b,c,d⟩:=jeq S t
 refine ⟨by rw [b];exact jws h.lease.1 hm,jh3 _,?_,?_,?_,?_,?_⟩
 ·rw [a];exact h.lease
 ·rw [a];exact h.wait
 ·rw [a];exact h.keep
 ·rw [a];exact h.tokens
 ·rw [a];exact h.queue
theorem jmm (os:List Ord) (o:Ord):ja5 (os++[o])=if o.state=12 then ja5 os++[os.length] else ja5 os:=by
 have key:∀ k,k<=os.length->jal (os++[o]) k=jal os k:=by
  intro k
  induction k with
  | zero=>intro _;rfl
  | succ k ih =>
    intro hk
    have hg:(os++[o]).getD k ja2=os.getD k ja2:=by rw [jax (by omega),if_neg (by omega)]
    unfold jal
    rw [hg,ih (by omega)]
 unfold ja5
 rw [List.length_append,List.length_singleton]
 have hg:(os++[o]).getD os.length ja2=o:=by rw [jax (by omega),if_pos rfl]
 rw [jal,hg,key _ (Nat.le_refl _)]
section
def jar (P:World->(Nat->Prop)->Prop) (w w':World) (own:Nat->Prop):Prop:=∃ own',P w' own'/\Same own w w'/\∀ k,own' k->own k\/w.heap.size<=k
structure Keeps (P:World->(Nat->Prop)->Prop):Prop where
 lt:∀ {W o},P W o->∀ k,o k->k<W.heap.size
 keep:∀ {W W' o},P W o->W.heap.size<=W'.heap.size->(∀ k,o k->W'.heap[k]?=W.heap[k]?)->P W' o
def jb5 (P:World->(Nat->Prop)->Prop) (w:World) (own:Nat->Prop) (m:Nat) (W:World):Prop :=
 ∃ own',P W own'/\Same own w W/\(∀ k,own' k->own k\/w.heap.size+m<=k)/\w.heap.size+m<=W.heap.size
section
variable {P P':World->(Nat->Prop)->Prop} {w W W':World} {own:Nat->Prop} {m:Nat}
theorem jbb (K:Keeps P) (h:P w own) (hb:Below w.heap.size w W):jar P w W own:=⟨own,K.keep h hb.size (fun k e=>hb.block k (K.lt h k e)),Same.of_below hb,fun _ e=>.inl e⟩
theorem jiv (hb:Below w.heap.size w W) (h:jar P W W' own):jar P w W' own:=by
 obtain ⟨o,a1,a2,a3⟩:=h
 have z:=hb.size
 exact ⟨o,a1,Same.trans (Same.of_below (own:=own) hb) a2 (fun _ _ e=>e.elim id id),fun k e=>(a3 k e).imp id (fun e=>by omega)⟩
theorem jc4 (h:jar P w W own) (hp:∀ W o,P W o->P' W o):jar P' w W own:=by
 obtain ⟨o,a1,a2,a3⟩:=h
 exact ⟨o,hp _ _ a1,a2,a3⟩
theorem jcw (K:Keeps P) (h:P w own) (hb:Below w.heap.size w W) (hm:w.heap.size+m<=W.heap.size):jb5 P w own m W :=
 ⟨own,K.keep h hb.size (fun k e=>hb.block k (K.lt h k e)),Same.of_below hb,fun _ e=>.inl e,hm⟩
theorem jai (K:Keeps P) (h:jb5 P w own m W) (hb:Below W.heap.size W W'):jb5 P w own m W':=by
 obtain ⟨o1,a1,a2,a3,a4⟩:=h
 have z:=hb.size
 exact ⟨o1,K.keep a1 hb.size (fun k e=>hb.block k (K.lt a1 k e)),Same.trans a2 (Same.of_below (own:=own) hb) (fun k _ e=>e.elim id id),a3,by omega⟩
theorem jcz (K:Keeps P) (h:jb5 P w own m W) (hw:∀ k,own k->k<w.heap.size) {b i:Nat} (h1:w.heap.size<=b) (h2:b<w.heap.size+m) (v:Value):jb5 P w own m (W.setCell (aq b i) v):=by
 obtain ⟨o1,a1,a2,a3,a4⟩:=h
 have hk:∀ k,k≠b->(W.setCell (aq b i) v).heap[k]?=W.heap[k]?:=fun k e=>Below.heap_setCell _ (aq b i) _ _ e
 have hz:(W.setCell (aq b i) v).heap.size=W.heap.size:=by simp [World.setCell]
 refine ⟨o1,K.keep a1 (by omega) (fun k e=>hk k (fun c=>?_)),⟨a2.os,a2.tape,a2.output,by have:=a2.size;omega,fun k hk' hn=>(hk k (by omega)).trans (a2.block k hk' hn)⟩,a3,by omega⟩
 subst c
 rcases a3 k e with e|e
 ·have:=hw k e;omega
 ·omega
theorem jkz (K:Keeps P) (h:jb5 P w own m W) (hw:∀ k,own k->k<w.heap.size) {b:Nat} (h1:w.heap.size<=b) (h2:b<w.heap.size+m) (v0 v1 v2 v3 v4 v5:Value):jb5 P w own m ((((((W.setCell (aq b 0) v0).setCell (aq b 1) v1).setCell (aq b 2) v2).setCell (aq b 3) v3).setCell (aq b 4) v4).setCell (aq b 5) v5) :=
 jcz K (jcz K (jcz K (jcz K (jcz K (jcz K h hw h1 h2 v0) hw h1 h2 v1) hw h1 h2 v2) hw h1 h2 v3) hw h1 h2 v4) hw h1 h2 v5
theorem jim (K:Keeps P) (h:jb5 P w own m W) (hw:∀ k,own k->k<w.heap.size) {b:Nat} (h1:w.heap.size<=b) (h2:b<w.heap.size+m) (v0 v1 v2 v3:Value):jb5 P w own m ((((W.setCell (aq b 0) v0).setCell (aq b 1) v1).setCell (aq b 2) v2).setCell (aq b 3) v3) :=
 jcz K (jcz K (jcz K (jcz K h hw h1 h2 v0) hw h1 h2 v1) hw h1 h2 v2) hw h1 h2 v3
theorem jdg (h:jb5 P w own m W):jar P w W own:=by
 obtain ⟨o1,a1,a2,a3,a4⟩:=h
 exact ⟨o1,a1,a2,fun k e=>(a3 k e).imp id (fun e=>by omega)⟩
theorem jcb (hw:∀ k,own k->k<w.heap.size) {f:FuncId} {args:Array Value} {v:Value} (h:∀ W o,P W o->Calls Tryz.prog f args W fun e w'=>e=.returned v/\jar P' W w' o) (W:World) (hT:jb5 P w own m W) :
 Calls Tryz.prog f args W fun e w'=>e=.returned v/\jb5 P' w own m w'/\∀ b,w.heap.size<=b->b<w.heap.size+m->w'.heap[b]?=W.heap[b]?:=by
 obtain ⟨o1,a1,a2,a3,a4⟩:=hT
 refine (h W o1 a1).mono ?_
 rintro e w' ⟨rfl,o2,b1,b2,b3⟩
 have z1:=a2.size
 have z2:=b2.size
 refine ⟨rfl,⟨o2,b1,Same.trans a2 b2 (fun k hk e=>e.elim id (fun e=>(a3 k e).elim id (fun e=>by omega))),fun k e=>(b3 k e).elim (a3 k) (fun e=>.inr (by omega)),by omega⟩,fun b h1 h2=>b2.block b (by omega) (fun e=>?_)⟩
 rcases a3 b e with e|e
 ·have:=hw b e;omega
 ·omega
theorem jfb (K:Keeps P) (hw:∀ k,own k->k<w.heap.size) {f:FuncId} {args:Array Value} {v:Value} (h:∀ W o,P W o->Calls Tryz.prog f args W fun e w'=>e=.returned v/\Below W.heap.size W w') (W:World) (hT:jb5 P w own m W) :
 Calls Tryz.prog f args W fun e w'=>e=.returned v/\jb5 P w own m w'/\∀ b,w.heap.size<=b->b<w.heap.size+m->w'.heap[b]?=W.heap[b]?:=by
 refine jcb hw (fun W o hp=>(h W o hp).mono ?_) W hT
 rintro e w' ⟨rfl,hb⟩
 exact ⟨rfl,jbb K hp hb⟩
end
def qcb (w:World) (own:Nat->Prop) (m:Nat) (P P':World->(Nat->Prop)->Prop) (f:FuncId) (args:Array Value) (v:Value):Prop :=
 ∀ W,jb5 P w own m W->Calls Tryz.prog f args W fun e w'=>e=.returned v/\jb5 P' w own m w'/\∀ b,w.heap.size<=b->b<w.heap.size+m->w'.heap[b]?=W.heap[b]?
def psx (an:Int) (x:Nat) (S:Sal) (last:Nat) (w:World) (own:Nat->Prop):Prop:=∃ V,psm w x own V/\relO V S last S.knows/\relA V.an V.atl V.att V.al S.C.keep S.ansL/\V.an=an
theorem jb6 (an:Int) (x:Nat) (S:Sal) (last:Nat):Keeps (psx an x S last):=⟨fun ⟨_,h,_⟩=>jes h,fun ⟨V,h,hr⟩ hz hk=>⟨V,jez h hz hk,hr⟩⟩
structure saleK (S:Sal):Prop where
 I:salI S
 len:S.os.length<=4294967296
 lease:1<=S.C.lease/\S.C.lease<=4294967296
 wait:1<=S.C.wait/\S.C.wait<=4294967296
 keep:1<=S.C.keep/\S.C.keep<=4294967296
theorem saleK.span {S:Sal} (h:saleK S) (st:Int):1<=jao S.C st/\jao S.C st<=4294967296:=by
 unfold jao
 split
 ·exact h.lease
 split
 ·exact h.wait
 ·exact h.keep
section
variable {w:World} {x:Nat} {own:Nat->Prop} {S:Sal} {last:Nat} {an:Int}
theorem jef {w':World} {V':PV} {S':Sal} {last':Nat} (h:jaz w w' x own V') (h1:relO V' S' last' S'.knows) (h2:relA V'.an V'.atl V'.att V'.al S'.C.keep S'.ansL) (h3:V'.an=an):jar (psx an x S' last') w w' own:=by
 obtain ⟨o,a1,a2,a3⟩:=h
 exact ⟨o,⟨V',a1,h1,h2,h3⟩,a2,a3⟩
theorem jas {m f:Nat} {V V':PV} {args:Array Value} {v:Value} (hw:∀ k,own k->k<w.heap.size) (h:∀ W own',psm W x own' V->Calls Tryz.prog f args W fun e w'=>e=.returned v/\jaz W w' x own' V'):jel w own m x V V' f args v:=jpc hw h
theorem jhz {m f:Nat} {V:PV} {args:Array Value} {v:Value} (hw:∀ k,own k->k<w.heap.size) (h:∀ W own',psm W x own' V->Calls Tryz.prog f args W fun e w'=>e=.returned v/\Below W.heap.size W w'):jel w own m x V V f args v:=jwl hw h
theorem qa8 (h:psx an x S last w own) (hK:saleK S) {i:Nat} (hi:S.knows i) (p:POrd) (h1:p.num=(i:Int)+1) (h2:p.cust=(S.os.getD i ja2).cust) (h3:p.units=(S.os.getD i ja2).units) (h4:p.st=(S.os.getD i ja2).state) (st:Int) (hst:st≠12) (o:Ord) (g2:o.cust=p.cust) (g3:o.units=p.units) (g4:o.state=st) (g5:o.cents=p.cents) (g6:o.untl S.C=S.now+jao S.C st) :
 Calls Tryz.prog 157 #[pt x 0,p.val,iv st] w fun e w'=>e=.returned (POrd.val { p with st:=st,upto:=S.now+jao S.C st })/\jar (psx an x (S.put i o) last) w w' own:=by
 obtain ⟨V,hm,hr,ha,han⟩:=h
 have hw:=jes hm
 have hil:=hr.kin i hi
 obtain ⟨u1,u2⟩:=hK.I.units _ (jb2 hil)
 have hc0:p.cust≠0:=by rw [h2];exact hr.cust _ (jb2 hil)
 have hB:=hr.bounds hK.I hK.len
 have hsp:=hK.span st
 have hnow:=hK.I.now
 obtain ⟨j,hj1,hj2⟩:=hr.known hi
 rw [← h1] at hj2
 have hfin:=hr.move hi h1 h2 h3 h4 hst g2 g3 g4 g5 g6 hsp.1 hj2
 have hkn:(S.put i o).knows=S.knows:=jwb hi (.inr (by rw [g6];omega))
 rw [← hkn] at hfin
 have hsv:jao V.C st=jao S.C st:=by rw [hr.C]
 have hun:1<=p.units/\p.units<=4294967296:=by rw [h3];exact ⟨u1,u2⟩
 have hf1:=hB.un p.st p.cust
 have L2:=jhl hr.lu (st:=p.st) (-p.units) hc0
 have hz2:=qc5 hr.lu.1 p.cust p.st (-p.units) (by omega)
 have hf2:∀ s,isL s->-2305843009213693952<=jxm (jd4 S.os) p.cust p.st (-p.units) s p.cust/\jxm (jd4 S.os) p.cust p.st (-p.units) s p.cust<=2305843009213693952:=fun s hs=>by
  have:=hB.un s p.cust hs hc0
  rw [jno]
  split<;>omega
 have hu5:=jnl V.tl p.num
 have b1:=hB.held
 have b2:=hB.sold
 have b3:=hB.lu
 have b4:=hB.tl
 have b5:=hB.qt
 have b6:=hB.qz
 have e0:V.now+jao S.C st=S.now+jao S.C st:=by rw [hr.now]
 by_cases h12:p.st=12
 ·have hq:(S.os.getD i ja2).state=12:=h4▸h12
  have t1:jb0 (p.num,0) V.qt=some 0:=(jg4 hr.turns.1).2 ((hr.turns.2 _).2 ⟨i,hil,hq,by rw [h1]⟩)
  have t2:jb0 (-p.units,p.num) V.qz=some 0:=(jg4 hr.sizes.1).2 ((hr.sizes.2 _).2 ⟨i,hil,hq,by rw [h1,h3]⟩)
  have hfin':{ V.moved p st with ol:=V.ol.set j (p.to V st) }={ ({ (((V.qout p).led p.cust 12 (-p.units)).led p.cust st p.units) with tl:=jfd V.tn (jbj V.tl p.num) p.num (V.now+jao V.C st) }:PV) with ol:=V.ol.set j (p.to V st) }:=by
   simp only [PV.moved,PV.led,PV.qout,h12,if_neg hst,if_true,if_neg (show ¬ (12:Int)=13 by decide),if_neg (show ¬ (12:Int)=14 by decide)]
  rw [hfin'] at hfin
  have H:=jyd x V.tw own V (V.qout p) ((V.qout p).led p.cust 12 (-p.units)) (((V.qout p).led p.cust 12 (-p.units)).led p.cust st p.units) { (((V.qout p).led p.cust 12 (-p.units)).led p.cust st p.units) with tl:=jbj V.tl p.num } { (((V.qout p).led p.cust 12 (-p.units)).led p.cust st p.units) with tl:=jfd V.tn (jbj V.tl p.num) p.num (V.now+jao S.C st) } { ({ (((V.qout p).led p.cust 12 (-p.units)).led p.cust st p.units) with tl:=jfd V.tn (jbj V.tl p.num) p.num (V.now+jao S.C st) }:PV) with ol:=V.ol.set j { p with st:=st,upto:=V.now+jao S.C st } }
   p.num p.cust p.units p.cents p.upto st (jao S.C st) _ _ w hw hm ⟨by omega,hun.2⟩ ⟨by show 0<=V.now+_;rw [hr.now];omega,by show V.now+_<=_;rw [hr.now];omega⟩ (by simpa using hst) rfl rfl rfl
   (jas hw (fun W own' hp=>by rw [← h12];exact qcv p hp hr.turns.1 hr.sizes.1 t1 t2 (by omega) (by omega) ⟨by omega,hun.2⟩))
   (jas hw (fun W own' hp=>ju2 p.cust 12 (-p.units) (jd4 S.os) hp hr.lu hc0 (by omega) ⟨by omega,by omega⟩ (fun hs=>by have:=hB.un 12 p.cust hs hc0;exact ⟨by omega,by omega⟩) (by show V.lu.length<=_;omega) ⟨by show _<=V.held;omega,by show V.held<=_;omega⟩ ⟨by show _<=V.sold;omega,by show V.sold<=_;omega⟩))
   (jas hw (fun W own' hp=>ju2 p.cust st p.units (jxm (jd4 S.os) p.cust p.st (-p.units)) hp (by rw [h12] at L2 ⊢;exact L2) hc0 (by omega) ⟨by omega,by omega⟩ (hf2 st) (by show (jm4 V.lu p.cust 12 (-p.units)).length<=_;rw [h12] at hz2;omega) ⟨by show _<=V.held;omega,by show V.held<=_;omega⟩ ⟨by show _<=V.sold;omega,by show V.sold<=_;omega⟩))
   (jhz hw (fun W own' hp=>by have h:=jsl st hp;rwa [show jao (((V.qout p).led p.cust 12 (-p.units)).led p.cust st p.units).C st=jao S.C st from hsv] at h))
   (jas hw (fun W own' hp=>jof p.num hp (by show V.tl.length<=_;omega)))
   (jas hw (fun W own' hp=>jyh p.num (V.now+jao S.C st) hp (by show (jbj V.tl p.num).length<=_;omega)))
   (jas hw (fun W own' hp=>jwc { p with st:=st,upto:=V.now+jao S.C st } hp hr.ls.srt hj2 hj1))
  have ep:POrd.val p=.agg #[iv p.num,iv p.cust,iv p.units,iv 12,iv p.cents,iv p.upto]:=by rw [← h12];rfl
  rw [ep]
  refine H.mono ?_
  rintro e w' ⟨rfl,hq⟩
  refine ⟨?_,jef hq ?_ ha han⟩
  ·rw [show (PV.now (((V.qout p).led p.cust 12 (-p.units)).led p.cust st p.units))=S.now from hr.now];rfl
  ·rw [hsv] at hfin
   have:p.to V st={ p with st:=st,upto:=V.now+jao S.C st }:=by unfold POrd.to;rw [hsv]
   rw [this] at hfin
   exact hfin
 ·have hfin':{ V.moved p st with ol:=V.ol.set j (p.to V st) }={ ({ ((V.led p.cust p.st (-p.units)).led p.cust st p.units) with tl:=jfd V.tn (jbj V.tl p.num) p.num (V.now+jao V.C st) }:PV) with ol:=V.ol.set j (p.to V st) }:=by
   simp only [PV.moved,PV.led,if_neg hst,if_neg h12]
  rw [hfin'] at hfin
  have H:=jwv x V.tw own V (V.led p.cust p.st (-p.units)) ((V.led p.cust p.st (-p.units)).led p.cust st p.units) { ((V.led p.cust p.st (-p.units)).led p.cust st p.units) with tl:=jbj V.tl p.num } { ((V.led p.cust p.st (-p.units)).led p.cust st p.units) with tl:=jfd V.tn (jbj V.tl p.num) p.num (V.now+jao S.C st) } { ({ ((V.led p.cust p.st (-p.units)).led p.cust st p.units) with tl:=jfd V.tn (jbj V.tl p.num) p.num (V.now+jao S.C st) }:PV) with ol:=V.ol.set j { p with st:=st,upto:=V.now+jao S.C st } }
   p.num p.cust p.units p.st p.cents p.upto st (jao S.C st) _ _ w hw hm ⟨by omega,hun.2⟩ ⟨by show 0<=V.now+_;rw [hr.now];omega,by show V.now+_<=_;rw [hr.now];omega⟩ (by simpa using h12) (by simpa using hst) rfl rfl rfl
   (jas hw (fun W own' hp=>ju2 p.cust p.st (-p.units) (jd4 S.os) hp hr.lu hc0 (by omega) ⟨by omega,by omega⟩ (fun hs=>by have:=hB.un p.st p.cust hs hc0;exact ⟨by omega,by omega⟩) (by show V.lu.length<=_;omega) ⟨by show _<=V.held;omega,by show V.held<=_;omega⟩ ⟨by show _<=V.sold;omega,by show V.sold<=_;omega⟩))
   (jas hw (fun W own' hp=>ju2 p.cust st p.units (jxm (jd4 S.os) p.cust p.st (-p.units)) hp L2 hc0 (by omega) ⟨by omega,by omega⟩ (hf2 st) (by show (jm4 V.lu p.cust p.st (-p.units)).length<=_;omega) (by show -2305843009213693952<=(if p.st=13 then V.held+-p.units else V.held)/\(if p.st=13 then V.held+-p.units else V.held)<=2305843009213693952;split<;>exact ⟨by omega,by omega⟩) (by show -2305843009213693952<=(if p.st=14 then V.sold+-p.units else V.sold)/\(if p.st=14 then V.sold+-p.units else V.sold)<=2305843009213693952;split<;>exact ⟨by omega,by omega⟩)))
   (jhz hw (fun W own' hp=>by have h:=jsl st hp;rwa [show jao ((V.led p.cust p.st (-p.units)).led p.cust st p.units).C st=jao S.C st from hsv] at h))
   (jas hw (fun W own' hp=>jof p.num hp (by show V.tl.length<=_;omega)))
   (jas hw (fun W own' hp=>jyh p.num (V.now+jao S.C st) hp (by show (jbj V.tl p.num).length<=_;omega)))
   (jas hw (fun W own' hp=>jwc { p with st:=st,upto:=V.now+jao S.C st } hp hr.ls.srt hj2 hj1))
  refine H.mono ?_
  rintro e w' ⟨rfl,hq⟩
  refine ⟨?_,jef hq ?_ ha han⟩
  ·rw [show (PV.now ((V.led p.cust p.st (-p.units)).led p.cust st p.units))=S.now from hr.now];rfl
  ·rw [hsv] at hfin
   have:p.to V st={ p with st:=st,upto:=V.now+jao S.C st }:=by unfold POrd.to;rw [hsv]
   rw [this] at hfin
   exact hfin
theorem jor (h:psx an x S (S.os.length+1) w own) (hK:saleK S) (p:POrd) (h1:p.num=(S.os.length:Int)+1) (h4:p.st=0) (hc0:p.cust≠0) (hun:1<=p.units/\p.units<=4294967296) (st:Int) (hst:st=12\/st=13) (o:Ord) (g2:o.cust=p.cust) (g3:o.units=p.units) (g4:o.state=st) (g5:o.cents=p.cents) (g6:o.untl S.C=S.now+jao S.C st) :
 Calls Tryz.prog 157 #[pt x 0,p.val,iv st] w fun e w'=>e=.returned (POrd.val { p with st:=st,upto:=S.now+jao S.C st })/\jar (psx an x (S.more o) (S.os.length+1)) w w' own:=by
 obtain ⟨V,hm,hr,ha,han⟩:=h
 have hw:=jes hm
 have hB:=hr.bounds hK.I hK.len
 have hsp:=hK.span st
 have hnow:=hK.I.now
 have hfr:∀ i,S.knows i->p.num≠(i:Int)+1:=fun i hi=>by have:=hi.1;omega
 have hg:=hr.strange hfr
 have hfin:=hr.moveNew h1 h4 g2 g3 g4 g5 g6 hsp.1 hc0 (if V.orm<(V.ol.length:Int)+1 then (V.ol.length:Int)+1 else V.orm)
 have hkn:(S.more o).knows=fun k=>S.knows k\/k=S.os.length:=jtx (by rw [Ord.alive,g4];exact hst)
 rw [← hkn] at hfin
 have hsv:jao V.C st=jao S.C st:=by rw [hr.C]
 have L1:jm4 V.lu p.cust 0 (-p.units)=V.lu:=by unfold jm4;rw [if_neg (by unfold isL;omega)]
 have l1:V.led p.cust 0 (-p.units)=V:=by
  unfold PV.led
  rw [L1,if_neg (by decide),if_neg (by decide)]
 have b1:=hB.held
 have b2:=hB.sold
 have b3:=hB.lu
 have b4:=hB.tl
 have b5:=hB.qt
 have b6:=hB.qz
 have hu5:=jnl V.tl p.num
 have hol:=jfc hr.ls
 have hq1:jb0 (p.num,0) V.qt=none:=je0.2 (fun e he c=>by
  obtain ⟨i,hi,_,rfl⟩:=(hr.turns.2 e).1 he
  have:(i:Int)+1=p.num:=by simpa using c
  omega)
 have hq2:jb0 (-p.units,p.num) V.qz=none:=je0.2 (fun e he c=>by
  obtain ⟨i,hi,_,rfl⟩:=(hr.sizes.2 e).1 he
  simp only [Prod.mk.injEq] at c
  have:=c.2
  omega)
 have hbu:∀ W own',psm W x own' V->Calls Tryz.prog 171 #[pt x 19,iv p.cust,iv 0,iv (-p.units)] W fun e w'=>e=.returned (.tuple #[])/\jaz W w' x own' V:=fun W own' hp=>by
  have:=ju2 p.cust 0 (-p.units) (jd4 S.os) hp hr.lu hc0 (by omega) ⟨by omega,by omega⟩ (fun hs=>by unfold isL at hs;omega) (by omega) ⟨by omega,by omega⟩ ⟨by omega,by omega⟩
  rwa [l1] at this
 have hadd:∀ W own',psm W x own' V->Calls Tryz.prog 171 #[pt x 19,iv p.cust,iv st,iv p.units] W fun e w'=>e=.returned (.tuple #[])/\jaz W w' x own' (V.led p.cust st p.units):=fun W own' hp =>
  ju2 p.cust st p.units (jd4 S.os) hp hr.lu hc0 (by omega) ⟨by omega,by omega⟩ (fun hs=>by have:=hB.un st p.cust hs hc0;exact ⟨by omega,by omega⟩) (by omega) ⟨by omega,by omega⟩ ⟨by omega,by omega⟩
 rcases hst with rfl|rfl
 ·have hfin':{ V.moved p 12 with ot:=jbd (p.num,0) V.ol.length V.ot,ol:=V.ol++[p.to V 12],orm:=if V.orm<(V.ol.length:Int)+1 then (V.ol.length:Int)+1 else V.orm }={ ({ ((V.led p.cust 12 p.units).qin { p with st:=12 }) with tl:=jfd V.tn (jbj V.tl p.num) p.num (V.now+jao V.C 12) }:PV) with ot:=jbd (p.num,0) V.ol.length V.ot,ol:=V.ol++[p.to V 12],orm:=if V.orm<(V.ol.length:Int)+1 then (V.ol.length:Int)+1 else V.orm }:=by
   simp only [PV.moved,PV.led,PV.qin,h4,L1,if_true,if_neg (show ¬ (0:Int)=12 by decide),if_neg (show ¬ (0:Int)=13 by decide),if_neg (show ¬ (0:Int)=14 by decide),if_neg (show ¬ (12:Int)=13 by decide),if_neg (show ¬ (12:Int)=14 by decide)]
  rw [hfin'] at hfin
  have H:=qb7 x V.tw own V V (V.led p.cust 12 p.units) ((V.led p.cust 12 p.units).qin { p with st:=12 }) { ((V.led p.cust 12 p.units).qin { p with st:=12 }) with tl:=jbj V.tl p.num } { ((V.led p.cust 12 p.units).qin { p with st:=12 }) with tl:=jfd V.tn (jbj V.tl p.num) p.num (V.now+jao S.C 12) } { ({ ((V.led p.cust 12 p.units).qin { p with st:=12 }) with tl:=jfd V.tn (jbj V.tl p.num) p.num (V.now+jao S.C 12) }:PV) with ot:=jbd (p.num,0) V.ol.length V.ot,ol:=V.ol++[{ p with st:=12,upto:=V.now+jao S.C 12 }],orm:=if V.orm<(V.ol.length:Int)+1 then (V.ol.length:Int)+1 else V.orm }
   p.num p.cust p.units 0 p.cents p.upto (jao S.C 12) _ _ w hw hm ⟨by omega,hun.2⟩ ⟨by show 0<=V.now+_;rw [hr.now];omega,by show V.now+_<=_;rw [hr.now];omega⟩ (by decide) rfl rfl rfl
   (jas hw hbu) (jas hw hadd)
   (jas hw (fun W own' hp=>qdh { p with st:=12 } hp hr.turns.1 hr.sizes.1 hq1 hq2 (by show V.qt.length<=_;omega) (by show V.qz.length<=_;omega) ⟨by show 0<=p.units;omega,hun.2⟩))
   (jhz hw (fun W own' hp=>by have h:=jsl 12 hp;rwa [show jao ((V.led p.cust 12 p.units).qin { p with st:=12 }).C 12=jao S.C 12 from hsv] at h))
   (jas hw (fun W own' hp=>jof p.num hp (by show V.tl.length<=_;omega)))
   (jas hw (fun W own' hp=>jyh p.num (V.now+jao S.C 12) hp (by show (jbj V.tl p.num).length<=_;omega)))
   (jas hw (fun W own' hp=>jwq { p with st:=12,upto:=V.now+jao S.C 12 } hp hr.ls.srt hg hol (by show V.ol.length<=_;have:=hB.ol;omega)))
  have ep:POrd.val p=.agg #[iv p.num,iv p.cust,iv p.units,iv 0,iv p.cents,iv p.upto]:=by rw [← h4];rfl
  rw [ep]
  refine H.mono ?_
  rintro e w' ⟨rfl,hq⟩
  refine ⟨?_,jef hq ?_ ha han⟩
  ·rw [show (PV.now ((V.led p.cust 12 p.units).qin { p with st:=12 }))=S.now from hr.now];rfl
  ·rw [hsv] at hfin
   have:p.to V 12={ p with st:=12,upto:=V.now+jao S.C 12 }:=by unfold POrd.to;rw [hsv]
   rw [this] at hfin
   exact hfin
 ·have hfin':{ V.moved p 13 with ot:=jbd (p.num,0) V.ol.length V.ot,ol:=V.ol++[p.to V 13],orm:=if V.orm<(V.ol.length:Int)+1 then (V.ol.length:Int)+1 else V.orm }={ ({ (V.led p.cust 13 p.units) with tl:=jfd V.tn (jbj V.tl p.num) p.num (V.now+jao V.C 13) }:PV) with ot:=jbd (p.num,0) V.ol.length V.ot,ol:=V.ol++[p.to V 13],orm:=if V.orm<(V.ol.length:Int)+1 then (V.ol.length:Int)+1 else V.orm }:=by
   simp only [PV.moved,PV.led,h4,L1,if_true,if_neg (show ¬ (0:Int)=12 by decide),if_neg (show ¬ (0:Int)=13 by decide),if_neg (show ¬ (0:Int)=14 by decide),if_neg (show ¬ (13:Int)=12 by decide),if_neg (show ¬ (13:Int)=14 by decide)]
  rw [hfin'] at hfin
  have H:=jwv x V.tw own V V (V.led p.cust 13 p.units) { (V.led p.cust 13 p.units) with tl:=jbj V.tl p.num } { (V.led p.cust 13 p.units) with tl:=jfd V.tn (jbj V.tl p.num) p.num (V.now+jao S.C 13) } { ({ (V.led p.cust 13 p.units) with tl:=jfd V.tn (jbj V.tl p.num) p.num (V.now+jao S.C 13) }:PV) with ot:=jbd (p.num,0) V.ol.length V.ot,ol:=V.ol++[{ p with st:=13,upto:=V.now+jao S.C 13 }],orm:=if V.orm<(V.ol.length:Int)+1 then (V.ol.length:Int)+1 else V.orm }
   p.num p.cust p.units 0 p.cents p.upto 13 (jao S.C 13) _ _ w hw hm ⟨by omega,hun.2⟩ ⟨by show 0<=V.now+_;rw [hr.now];omega,by show V.now+_<=_;rw [hr.now];omega⟩ (by decide) (by decide) rfl rfl rfl
   (jas hw hbu) (jas hw hadd)
   (jhz hw (fun W own' hp=>by have h:=jsl 13 hp;rwa [show jao (V.led p.cust 13 p.units).C 13=jao S.C 13 from hsv] at h))
   (jas hw (fun W own' hp=>jof p.num hp (by show V.tl.length<=_;omega)))
   (jas hw (fun W own' hp=>jyh p.num (V.now+jao S.C 13) hp (by show (jbj V.tl p.num).length<=_;omega)))
   (jas hw (fun W own' hp=>jwq { p with st:=13,upto:=V.now+jao S.C 13 } hp hr.ls.srt hg hol (by show V.ol.length<=_;have:=hB.ol;omega)))
  have ep:POrd.val p=.agg #[iv p.num,iv p.cust,iv p.units,iv 0,iv p.cents,iv p.upto]:=by rw [← h4];rfl
  rw [ep]
  refine H.mono ?_
  rintro e w' ⟨rfl,hq⟩
  refine ⟨?_,jef hq ?_ ha han⟩
  ·rw [show (PV.now (V.led p.cust 13 p.units))=S.now from hr.now];rfl
  ·rw [hsv] at hfin
   have:p.to V 13={ p with st:=13,upto:=V.now+jao S.C 13 }:=by unfold POrd.to;rw [hsv]
   rw [this] at hfin
   exact hfin
end
end
end Go.Proofs.YtfhncfghblkgeaaGreat
