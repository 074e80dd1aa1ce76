import Derived.Test.YtfhncfghblkgeaaGreatL09
set_option maxRecDepth 100000
set_option maxHeartbeats 2000000
namespace Go.Proofs.YtfhncfghblkgeaaGreat
open Go.RowKit
theorem jvk (R B ql:Nat) (r:Req) (w:World) (uv:Int->Int) (cap lf fr ct up:Int) (C:Array Value) (oo:Option Addr) (n oc':Nat) (E:List Value) (Q:World->Prop) (h1:w.cell? (aq R 1)=some (iv cap)) (ha:0<=uv 13/\uv 13<=4294967296) (hb:0<=uv 14/\uv 14<=4294967296) (hd:0<=uv 12/\uv 12<=4294967296) (hu:0<=r.units/\r.units<=4294967296) (hc:¬ cap<uv 13+uv 14+uv 12+r.units) (hl:¬ lf<r.units) (h9:w.cell? (aq R 9)=some (.slice oo n oc')) (hn:n<4294967296) (hq:ql=0) (hf:¬ fr<r.units)
 (hR:w.heap[R]?=some (.cells C 164 (0,0))) (hO:w.ownsRow B 228 6 (.slice oo n oc') n E) (hB:B<=w.heap.size)
 (HH:Hid (∀ W,w.heap.size+1<W.heap.size->je7 w W B R C (.slice oo n oc') n E [iv r.cust,iv r.units,iv 0,iv 0,iv 0,iv 0]->Calls Tryz.prog 168 #[pt R 0,iv n] W fun e w'=>e=.returned (.tuple #[])/\Q w'/\w'.heap[w.heap.size+1]?=W.heap[w.heap.size+1]?/\W.heap.size<=w'.heap.size/\∃ g cp,w'.cell? (aq R 9)=some (.slice (some (aq g 0)) (n+1) cp)/\w'.cell? (aq g (n * 6+3))=some (iv ct)/\w'.cell? (aq g (n * 6+4))=some (iv up)/\g<w'.heap.size))
 (HQF:Hid (∀ W W',Q W->Same (fun b=>b=w.heap.size+1) W W'->Q W'))
 (HU:Hid (∀ st:Int,(st=13\/st=14\/st=12)->∀ W,Below w.heap.size w W->Calls Tryz.prog 125 #[pt R 0,iv st,iv r.cust] W fun e w'=>e=.returned (iv (uv st))/\Below W.heap.size W w'))
 (HQ:Hid (∀ W,Below w.heap.size w W->Calls Tryz.prog 123 #[pt R 0] W fun e w'=>∃ oa oc,e=.returned (.slice oa ql oc)/\Below W.heap.size W w'))
 (HL:Hid (∀ W,Below w.heap.size w W->Calls Tryz.prog 151 #[pt R 0] W fun e w'=>e=.returned (iv lf)/\Below W.heap.size W w'))
 (HFR:Hid (∀ W,Below w.heap.size w W->Calls Tryz.prog 124 #[pt R 0] W fun e w'=>e=.returned (iv fr)/\Below W.heap.size W w')) :
 Calls Tryz.prog 148 #[pt R 0,r.val] w fun e w'=>e=.returned (.agg #[iv 2,iv (n+1),iv ct,iv up])/\Q w':=by
 replace h9:Hid _:=h9
 replace hR:Hid _:=hR
 replace hO:Hid _:=hO
 subst hq
 obtain ⟨k,t,c,u,o⟩:=r
 unfold Req.val
 simp only at HU hu hc ⊢
 have hRw:R<w.heap.size:=World.block_lt_of_cell? w _ h1
 go_enter Tryz.func148,Tryz.ntmps148
 go_wp2_with fail
 have w01:Below w.heap.size w ((w.alloc (.cells #[iv k,iv t,iv c,iv u,iv o] 46)).alloc (.cells #[iv 0,iv 0,iv 0,iv 0] 42)):=bL
 have rb:((w.alloc (.cells #[iv k,iv t,iv c,iv u,iv o] 46)).alloc (.cells #[iv 0,iv 0,iv 0,iv 0] 42)).heap[w.heap.size]?=some (.cells #[iv k,iv t,iv c,iv u,iv o] 46 (0,0)):=(Below.heap_alloc _ _ _ (by simp)).trans (heap_alloc_new w _)
 have n0:((w.alloc (.cells #[iv k,iv t,iv c,iv u,iv o] 46)).alloc (.cells #[iv 0,iv 0,iv 0,iv 0] 42)).heap[w.heap.size+1]?=some (.cells #[iv 0,iv 0,iv 0,iv 0] 42 (0,0)):=by
  have:=heap_alloc_new (w.alloc (.cells #[iv k,iv t,iv c,iv u,iv o] 46)) (.cells #[iv 0,iv 0,iv 0,iv 0] 42)
  rwa [show (w.alloc (.cells #[iv k,iv t,iv c,iv u,iv o] 46)).heap.size=w.heap.size+1 by simp] at this
 have hz:w.heap.size+2<=((w.alloc (.cells #[iv k,iv t,iv c,iv u,iv o] 46)).alloc (.cells #[iv 0,iv 0,iv 0,iv 0] 42)).heap.size:=by simp
 generalize (w.alloc (.cells #[iv k,iv t,iv c,iv u,iv o] 46)).alloc (.cells #[iv 0,iv 0,iv 0,iv 0] 42)=W0 at w01 rb n0 hz ⊢
 have e2:W0.cell? (aq w.heap.size 2)=some (iv c):=by rw [Joins.cell_of_block rb];rfl
 replace w01:Hid _:=w01
 replace rb:Hid _:=rb
 replace n0:Hid _:=n0
 have hz0:w.heap.size<W0.heap.size:=by omega
 replace hc:Hid _:=hc
 replace hu:Hid _:=hu
 replace h1:Hid _:=h1
 go_region_held3 (fun w'=>w'.cell? (aq w.heap.size 2)=some (iv c)) (simp [go_sem, *])
  (first|(go_at_call 125;refine (HU.out _ (by decide) _ bL).mono ?_;rintro e w1 ⟨rfl,b⟩
          replace w01:Hid (Below w.heap.size w w1):=Below.trans (show Below w.heap.size w _ from bL) (b.mono (by first|omega|(simp<;>omega)))
          replace rb:Hid (w1.heap[w.heap.size]?=_):=(b.block w.heap.size (by first|omega|(simp<;>omega))).trans rb.out
          replace n0:Hid (w1.heap[w.heap.size+1]?=_):=(b.block (w.heap.size+1) (by first|omega|(simp<;>omega))).trans n0.out
          have e2:w1.cell? (aq w.heap.size 2)=some (iv c):=by rw [Joins.cell_of_block rb.out];rfl
          replace hz:w.heap.size+2<=w1.heap.size:=Nat.le_trans hz (by have:=b.size;first|exact this|simpa using this)
          have hz0:w.heap.size<w1.heap.size:=by omega
          clear b))
 have hw1:IntKind.i64.wrap (uv 13+uv 14)=uv 13+uv 14:=jag (by omega) (by omega)
 have hw2:IntKind.i64.wrap (uv 13+uv 14+uv 12)=uv 13+uv 14+uv 12:=jag (by omega) (by omega)
 rw [hw1,hw2]
 have hc':=hc.out
 have hu':0<=u/\u<=4294967296:=hu.out
 have hh:0<=uv 13+uv 14+uv 12/\uv 13+uv 14+uv 12<=12884901888:=by omega
 clear hw1 hw2 hc hu
 generalize uv 13+uv 14+uv 12=has at hc' hh ⊢
 clear ha hb hd HU
 go_wp2_with
  (first|(go_at_call 123;refine (HQ.out  _ bL).mono ?_;rintro e w1 ⟨oa,oc,rfl,b⟩
          replace w01:Hid (Below w.heap.size w w1):=Below.trans (show Below w.heap.size w _ from bL) (b.mono (by first|omega|(simp<;>omega)))
          replace rb:Hid (w1.heap[w.heap.size]?=_):=(b.block w.heap.size (by first|omega|(simp<;>omega))).trans rb.out
          replace n0:Hid (w1.heap[w.heap.size+1]?=_):=(b.block (w.heap.size+1) (by first|omega|(simp<;>omega))).trans n0.out
          have e2:w1.cell? (aq w.heap.size 2)=some (iv c):=by rw [Joins.cell_of_block rb.out];rfl
          replace hz:w.heap.size+2<=w1.heap.size:=Nat.le_trans hz (by have:=b.size;first|exact this|simpa using this)
          have hz0:w.heap.size<w1.heap.size:=by omega
          clear b))
 have e3:w1.cell? (aq w.heap.size 3)=some (iv u):=by rw [Joins.cell_of_block rb.out];rfl
 have x1:=(w01.out.cell (p:=(aq R 1)) hRw).trans h1.out
 have hRw1:R<w1.heap.size:=by omega
 have hw:IntKind.i64.wrap (has+u)=has+u:=jag (by omega) (by omega)
 have hcd:decide (cap<has+u)=false:=by simpa using hc'
 have hld:decide (lf<u)=false:=by simpa using hl
 have hfd:decide (fr<u)=false:=by simpa using hf
 have hnd:decide ((4294967296:Int)<=(n:Int))=false:=by simp;omega
 go_quiet (fail)
 clear hcd hc' hw hh hu' x1 e2
 go_wp2_with fail
 go_region_held3 (fun w'=>w'.cell? (aq w.heap.size 3)=some (iv u)) (simp [go_sem, *])
  (first|(go_at_call 151;refine (HL.out  _ bL).mono ?_;rintro e w1 ⟨rfl,b⟩
          replace w01:Hid (Below w.heap.size w w1):=Below.trans (show Below w.heap.size w _ from bL) (b.mono (by first|omega|(simp<;>omega)))
          replace rb:Hid (w1.heap[w.heap.size]?=_):=(b.block w.heap.size (by first|omega|(simp<;>omega))).trans rb.out
          replace n0:Hid (w1.heap[w.heap.size+1]?=_):=(b.block (w.heap.size+1) (by first|omega|(simp<;>omega))).trans n0.out
          have e3:w1.cell? (aq w.heap.size 3)=some (iv u):=by rw [Joins.cell_of_block rb.out];rfl
          replace hz:w.heap.size+2<=w1.heap.size:=Nat.le_trans hz (by have:=b.size;first|exact this|simpa using this)
          have hz0:w.heap.size<w1.heap.size:=by omega
          clear b))
 have x9:=(w01.out.cell (p:=(aq R 9)) hRw).trans h9.out
 have hRw2:R<w1.heap.size:=by omega
 go_wp2_with fail
 clear x9 hld
 go_region_held3 (fun w'=>w'.cell? (aq w.heap.size 3)=some (iv u)) (simp [go_sem, *])
  (first|(go_at_call 124;refine (HFR.out  _ bL).mono ?_;rintro e w1 ⟨rfl,b⟩
          replace w01:Hid (Below w.heap.size w w1):=Below.trans (show Below w.heap.size w _ from bL) (b.mono (by first|omega|(simp<;>omega)))
          replace rb:Hid (w1.heap[w.heap.size]?=_):=(b.block w.heap.size (by first|omega|(simp<;>omega))).trans rb.out
          replace n0:Hid (w1.heap[w.heap.size+1]?=_):=(b.block (w.heap.size+1) (by first|omega|(simp<;>omega))).trans n0.out
          have e3:w1.cell? (aq w.heap.size 3)=some (iv u):=by rw [Joins.cell_of_block rb.out];rfl
          replace hz:w.heap.size+2<=w1.heap.size:=Nat.le_trans hz (by have:=b.size;first|exact this|simpa using this)
          have hz0:w.heap.size<w1.heap.size:=by omega
          clear b))
 have hRw3:R<w1.heap.size:=by omega
 go_wp2_with fail
 clear hnd hfd e3 hz0 hRw1 hRw2 hRw3
 have x9:=(w01.out.cell (p:=(aq R 9)) hRw).trans h9.out
 have hz0:w.heap.size<w1.heap.size:=by omega
 have hRw2:R<w1.heap.size:=by omega
 have e2:w1.cell? (aq w.heap.size 2)=some (iv c):=by rw [Joins.cell_of_block rb.out];rfl
 have e3:w1.cell? (aq w.heap.size 3)=some (iv u):=by rw [Joins.cell_of_block rb.out];rfl
 have hR1:w1.heap[R]?=some (.cells C 164 (0,0)):=(w01.out.block R hRw).trans hR.out
 have C9:C[9]?=some (.slice oo n oc'):=by rw [← h9.out,Joins.cell_of_block hR.out]
 have hO1:Hid (w1.ownsRow B 228 6 (.slice oo n oc') n E):=jam hO.out w01.out (Nat.le_refl _)
 have hvt:∀ k,Value.ownBlock (.slice oo n oc')=some k->k<w.heap.size:=fun k hk=>(World.ownsRow.lt hO.out k hk).2
 have hvR:Value.ownBlock (.slice oo n oc')≠some R:=jak hO1.out hR1 (by decide)
 obtain ⟨i0,j0,j1,j2,j3⟩:=info_parts Tryz.infoOrder
 have hnb:Hid ((w1.alloc (.cells #[iv c,iv u,iv 0,iv 0,iv 0,iv 0] 228)).heap[w1.heap.size]?=some (.cells #[iv c,iv u,iv 0,iv 0,iv 0,iv 0] 228 (0,0))):=heap_alloc_new _ _
 have HAE:Hid (∀ w3 g cp O,w3.ownsRow B 228 6 (.slice (some (aq g 0)) (n+1) cp) (n+1) (E++[iv c,iv u,iv 0,iv 0,iv 0,iv 0])->(w1.alloc O).grownBy w3 (Value.ownBlock (.slice oo n oc'))->(Value.ownBlock (.slice oo n oc')=some g\/g=w1.heap.size+1)->je7 w (w3.setCell (aq R 9) (.slice (some (aq g 0)) (n+1) cp)) B R C (.slice oo n oc') n E [iv c,iv u,iv 0,iv 0,iv 0,iv 0]):=fun w3 g cp O a b d=>js7 w01.out hz hRw hR1 hvR a b d
 have HK3:Hid (∀ w3 O,(w1.alloc O).drew.grownBy w3 (Value.ownBlock (.slice oo n oc'))->w3.heap[R]?=some (.cells C 164 (0,0))/\w3.heap[w.heap.size+1]?=some (.cells #[iv 0,iv 0,iv 0,iv 0] 42 (0,0))/\w3.cell? (aq w.heap.size 2)=some (iv c)/\w3.cell? (aq w.heap.size 3)=some (iv u)):=fun w3 O hg=>by
  have k3:∀ k,k<w1.heap.size->Value.ownBlock (.slice oo n oc')≠some k->w3.heap[k]?=w1.heap[k]?:=fun k hk hn=>(hg.block k (by simp;omega) (fun e=>hn e.symm)).trans (Below.heap_alloc w1 _ k hk)
  have r3:=(k3 w.heap.size (by omega) (fun e=>by have:=hvt _ e;omega)).trans rb.out
  exact ⟨(k3 R hRw2 hvR).trans hR1,(k3 (w.heap.size+1) (by omega) (fun e=>by have:=hvt _ e;omega)).trans n0.out,by rw [Joins.cell_of_block r3];rfl,by rw [Joins.cell_of_block r3];rfl⟩
 have hRn:R≠w.heap.size+1:=by omega
 have hRn':w.heap.size+1≠R:=by omega
 have hBw:B<=w1.heap.size:=by omega
 replace hR1:Hid _:=hR1
 replace C9:Hid _:=C9
 replace hvt:Hid _:=hvt
 replace hvR:Hid _:=hvR
 refine wp_region_held_drew (S:=(fun w'=>w'.cell? (aq w.heap.size 2)=some (iv c)/\w'.cell? (aq w.heap.size 3)=some (iv u))) (by kernel_rfl) (by simp [go_sem, *]) (fun hHeld=>?_)
 refine wpAnyH_take (i:=0) (v:=?_) rfl (by kernel_rfl) (by kernel_rfl) (by kernel_rfl) (fun _ _ _ h=>h) (Or.inl ⟨by rfl,?_⟩) (by assumption) ?_
 rotate_left
 ·(intro w_ hSw;(try dsimp only at hSw);go_simp;try with_reducible rfl)
 simp only [Act.put,List.getElem_toArray,List.getElem_cons_zero,List.setIfInBounds_toArray,List.set_cons_zero,List.set_cons_succ]
 refine wpAnyH_take (i:=1) (v:=?_) rfl (by kernel_rfl) (by kernel_rfl) (by kernel_rfl) (fun _ _ _ h=>h) (Or.inl ⟨by rfl,?_⟩) (by assumption) ?_
 rotate_left
 ·(intro w_ hSw;(try dsimp only at hSw);go_simp;try with_reducible rfl)
 simp only [Act.put,lA,lB,lC,lD,lE,lF]
 refine wpAnyH_take (i:=2) (v:=?_) rfl (by kernel_rfl) (by kernel_rfl) (by kernel_rfl) (fun _ _ _ h=>h) (Or.inl ⟨by rfl,?_⟩) (by assumption) ?_
 rotate_left
 ·(intro w_ hSw;(try dsimp only at hSw);go_simp;try with_reducible rfl)
 simp only [Act.put,lA,lB,lC,lD,lE,lF]
 refine wpAnyH_take (i:=3) (v:=?_) rfl (by kernel_rfl) (by kernel_rfl) (by kernel_rfl) (fun _ _ _ h=>h) (Or.inl ⟨by rfl,?_⟩) (by assumption) ?_
 rotate_left
 ·(intro w_ hSw;(try dsimp only at hSw);go_simp;try with_reducible rfl)
 simp only [Act.put,lA,lB,lC,lD,lE,lF]
 refine wpAnyH_take (i:=5) (v:=?_) rfl (by kernel_rfl) (by kernel_rfl) (by kernel_rfl) (fun _ _ _ h=>h) (Or.inl ⟨by rfl,?_⟩) (by assumption) ?_
 rotate_left
 ·(intro w_ hSw;(try dsimp only at hSw);go_simp;try with_reducible rfl)
 simp only [Act.put,lA,lB,lC,lD,lE,lF]
 refine wpAnyH_take (i:=6) (v:=?_) rfl (by kernel_rfl) (by kernel_rfl) (by kernel_rfl) (fun _ _ _ h=>h) (Or.inl ⟨by rfl,?_⟩) (by assumption) ?_
 rotate_left
 ·(intro w_ hSw;(try dsimp only at hSw);go_simp;try with_reducible rfl)
 simp only [Act.put,lA,lB,lC,lD,lE,lF]
 refine wpAnyH_take (i:=7) (v:=?_) rfl (by kernel_rfl) (by kernel_rfl) (by kernel_rfl) (fun _ _ _ h=>h) (Or.inl ⟨by rfl,?_⟩) (by assumption) ?_
 rotate_left
 ·(intro w_ hSw;(try dsimp only at hSw);go_simp;try with_reducible rfl)
 simp only [Act.put,lA,lB,lC,lD,lE,lF]
 refine wpAnyH_take (i:=8) (v:=?_) rfl (by kernel_rfl) (by kernel_rfl) (by kernel_rfl) (fun _ _ _ h=>h) (Or.inl ⟨by rfl,?_⟩) (by assumption) ?_
 rotate_left
 ·(intro w_ hSw;(try dsimp only at hSw);go_simp;try with_reducible rfl)
 simp only [Act.put,lA,lB,lC,lD,lE,lF]
 refine wpAnyH_take (i:=9) (v:=?_) rfl (by kernel_rfl) (by kernel_rfl) (by kernel_rfl) (fun _ _ _ h=>h) (Or.inl ⟨by rfl,?_⟩) (by assumption) ?_
 rotate_left
 ·(intro w_ hSw;(try dsimp only at hSw);go_simp;try with_reducible rfl)
 simp only [Act.put,lA,lB,lC,lD,lE,lF]
 refine wpAnyH_ready (rs:=[4,10]) (by kernel_rfl) (by simp) ?_
 refine AllReadyH.cons rfl (fun K hK=>?_) (AllReadyH.cons rfl (fun K hK=>?_) AllReadyH.nil)
 ·go_simp
  refine hK.out _ _ (by (try dsimp only);simp [go_sem, *]) (fun hHeld=>?_)
  clear hK K
  refine wpAnyH_ready (rs:=[10]) (by kernel_rfl) (by simp) ?_
  refine AllReadyH.cons rfl (fun K hK=>?_) AllReadyH.nil
  go_simp
  refine hK.out _ _ (by (try dsimp only);simp [go_sem, *]) (fun hHeld=>?_)
  clear hK K
  refine wpAnyH_ready (rs:=[11]) (by kernel_rfl) (by simp) ?_
  refine AllReadyH.cons rfl (fun K hK=>?_) AllReadyH.nil
  refine step_append_lies _ (by rfl) _ _ _ (by rfl) B 228 i0 (.agg #[iv 0,iv 0,iv 0,iv 0,iv 0,iv 0]) 6 48 Tryz.underlying161 j0 j1 j2 j3 rfl (by omega) (.slice oo n oc') n E (by rfl) ((show w1.ownsRow B 228 6 (.slice oo n oc') n E from hO1.out).alloc _).drew (aq w1.heap.size 0) 1 1 [iv c,iv u,iv 0,iv 0,iv 0,iv 0] (by rfl) (by rfl) (World.news_of_block (cs:=#[iv c,iv u,iv 0,iv 0,iv 0,iv 0]) (t:=228) (fr:=(0,0)) hnb.out) (by simp [Value.oneCell']) (by omega) (by unfold maxLen;omega) (by omega) (by simp;omega) (w1.heap.size+1) (by simp) ?_
  intro gg cp w3 hown3 hgrow hat hlt
  obtain ⟨hR3,n3,g2,g3⟩:=HK3.out w3 _ hgrow
  replace hown3:Hid _:=hown3
  replace hgrow:Hid _:=hgrow
  replace hat:Hid _:=hat
  have g9:w3.cell? (aq R 9)=some (.slice oo n oc'):=by rw [Joins.cell_of_block hR3];exact C9.out
  have gf:=ja0 hR3 9
  obtain ⟨s0,s1,s2,s3⟩:=ja2 n3
  have f0:=ja0 n3 0
  have f1:=ja0 n3 1
  have f2:=ja0 n3 2
  have f3:=ja0 n3 3
  have hR3w:R<w3.heap.size:=(Array.getElem?_eq_some_iff.1 hR3).1
  have hz3:w.heap.size+1<w3.heap.size:=(Array.getElem?_eq_some_iff.1 n3).1
  replace hR3:Hid _:=hR3
  replace n3:Hid _:=n3
  refine hK.out _ _ (by (try dsimp only);simp [go_sem, *]) (fun hHeld=>?_)
  clear hK K
  refine wpAnyH_take (i:=12) (v:=?_) rfl (by kernel_rfl) (by kernel_rfl) (by kernel_rfl) (fun _ _ _ h=>h) (Or.inl ⟨by rfl,?_⟩) (by assumption) ?_
  rotate_left
  ·(intro w_ hSw;(try dsimp only at hSw);go_simp;try with_reducible rfl)
  simp only [Act.put,lA,lB,lC,lD,lE,lF]
  refine wpAnyH_take (i:=13) (v:=?_) rfl (by kernel_rfl) (by kernel_rfl) (by kernel_rfl) (fun _ _ _ h=>h) (Or.inl ⟨by rfl,?_⟩) (by assumption) ?_
  rotate_left
  ·(intro w_ hSw;(try dsimp only at hSw);go_simp;try with_reducible rfl)
  simp only [Act.put,lA,lB,lC,lD,lE,lF]
  refine wpAnyH_ready (rs:=[14]) (by kernel_rfl) (by simp) ?_
  refine AllReadyH.cons rfl (fun K hK=>?_) AllReadyH.nil
  go_simp
  refine hK.out _ _ (by (try dsimp only);simp [go_sem, *]) (fun hHeld=>?_)
  clear hK K
  refine wpAnyH_done (by kernel_rfl) ?_ _
  have HA:Hid (je7 w (w3.setCell (aq R 9) (.slice (some (aq gg 0)) (n+1) cp)) B R C (.slice oo n oc') n E [iv c,iv u,iv 0,iv 0,iv 0,iv 0]):=HAE.out w3 gg cp _ hown3.out ⟨hgrow.out.os,hgrow.out.tape,hgrow.out.output,hgrow.out.size,hgrow.out.block⟩ hat.out
  have hs9:9<C.size:=(Array.getElem?_eq_some_iff.1 C9.out).1
  have hR4:=Joins.block_setCell (i:=9) hR3.out (.slice (some (aq gg 0)) (n+1) cp)
  have n4:Hid _:=(Below.heap_setCell w3 (aq R 9) (.slice (some (aq gg 0)) (n+1) cp) _ hRn').trans n3.out
  have y9:(w3.setCell (aq R 9) (.slice (some (aq gg 0)) (n+1) cp)).cell? (aq R 9)=some (.slice (some (aq gg 0)) (n+1) cp):=by rw [Joins.cell_of_block hR4];simp [hs9]
  clear g9 gf s0 s1 s2 s3 f0 f1 f2 f3 hR3w hz3 hR3 n3 hown3 hgrow hat hlt g2 g3 hHeld x9 e2 e3 hR4
  generalize w3.setCell (aq R 9) (.slice (some (aq gg 0)) (n+1) cp)=W3 at HA n4 y9 ⊢
  have hR4:R<W3.heap.size:=World.block_lt_of_cell? W3 _ y9
  have hz4:w.heap.size+1<W3.heap.size:=(Array.getElem?_eq_some_iff.1 n4.out).1
  go_wp2_with fail
  refine (HH.out _ hz4 HA.out).mono ?_
  rintro e w5 ⟨rfl,hq5,hb5,hs5,g5,cp5,z9,z3,z4,hg5⟩
  have n5:=hb5.trans n4.out
  obtain ⟨s0,s1,s2,s3⟩:=ja2 n5
  have f0:=ja0 n5 0
  have f1:=ja0 n5 1
  have f2:=ja0 n5 2
  have f3:=ja0 n5 3
  have hR5:R<w5.heap.size:=World.block_lt_of_cell? w5 _ z9
  have hz5:w.heap.size+1<w5.heap.size:=(Array.getElem?_eq_some_iff.1 n5).1
  have b0:(0:Int)<=(n:Int):=by omega
  have b1:(n:Int)<(n:Int)+1:=by omega
  clear n5 n4 y9 hb5
  go_wp2_with fail
  go_region
  go_wp2
  refine bodyPost_ret (v:=.agg #[iv 2,iv (n+1),iv ct,iv up]) (by simp [results,Tryz.results148,go_sem,s0,s1,s2,s3]) rfl ⟨rfl,?_⟩
  exact HQF.out _ _ (HQF.out w5 w5.drew hq5 ⟨rfl,rfl,rfl,Nat.le_refl _,fun _ _ _=>rfl⟩) (jcj _ _ _ _ _ _)
 ·go_simp
  refine hK.out _ _ (by (try dsimp only);simp [go_sem, *]) (fun hHeld=>?_)
  clear hK K
  refine wpAnyH_ready (rs:=[4]) (by kernel_rfl) (by simp) ?_
  refine AllReadyH.cons rfl (fun K hK=>?_) AllReadyH.nil
  go_simp
  refine hK.out _ _ (by (try dsimp only);simp [go_sem, *]) (fun hHeld=>?_)
  clear hK K
  refine wpAnyH_ready (rs:=[11]) (by kernel_rfl) (by simp) ?_
  refine AllReadyH.cons rfl (fun K hK=>?_) AllReadyH.nil
  refine step_append_lies _ (by rfl) _ _ _ (by rfl) B 228 i0 (.agg #[iv 0,iv 0,iv 0,iv 0,iv 0,iv 0]) 6 48 Tryz.underlying161 j0 j1 j2 j3 rfl (by omega) (.slice oo n oc') n E (by rfl) ((show w1.ownsRow B 228 6 (.slice oo n oc') n E from hO1.out).alloc _).drew (aq w1.heap.size 0) 1 1 [iv c,iv u,iv 0,iv 0,iv 0,iv 0] (by rfl) (by rfl) (World.news_of_block (cs:=#[iv c,iv u,iv 0,iv 0,iv 0,iv 0]) (t:=228) (fr:=(0,0)) hnb.out) (by simp [Value.oneCell']) (by omega) (by unfold maxLen;omega) (by omega) (by simp;omega) (w1.heap.size+1) (by simp) ?_
  intro gg cp w3 hown3 hgrow hat hlt
  obtain ⟨hR3,n3,g2,g3⟩:=HK3.out w3 _ hgrow
  replace hown3:Hid _:=hown3
  replace hgrow:Hid _:=hgrow
  replace hat:Hid _:=hat
  have g9:w3.cell? (aq R 9)=some (.slice oo n oc'):=by rw [Joins.cell_of_block hR3];exact C9.out
  have gf:=ja0 hR3 9
  obtain ⟨s0,s1,s2,s3⟩:=ja2 n3
  have f0:=ja0 n3 0
  have f1:=ja0 n3 1
  have f2:=ja0 n3 2
  have f3:=ja0 n3 3
  have hR3w:R<w3.heap.size:=(Array.getElem?_eq_some_iff.1 hR3).1
  have hz3:w.heap.size+1<w3.heap.size:=(Array.getElem?_eq_some_iff.1 n3).1
  replace hR3:Hid _:=hR3
  replace n3:Hid _:=n3
  refine hK.out _ _ (by (try dsimp only);simp [go_sem, *]) (fun hHeld=>?_)
  clear hK K
  refine wpAnyH_take (i:=12) (v:=?_) rfl (by kernel_rfl) (by kernel_rfl) (by kernel_rfl) (fun _ _ _ h=>h) (Or.inl ⟨by rfl,?_⟩) (by assumption) ?_
  rotate_left
  ·(intro w_ hSw;(try dsimp only at hSw);go_simp;try with_reducible rfl)
  simp only [Act.put,lA,lB,lC,lD,lE,lF]
  refine wpAnyH_take (i:=13) (v:=?_) rfl (by kernel_rfl) (by kernel_rfl) (by kernel_rfl) (fun _ _ _ h=>h) (Or.inl ⟨by rfl,?_⟩) (by assumption) ?_
  rotate_left
  ·(intro w_ hSw;(try dsimp only at hSw);go_simp;try with_reducible rfl)
  simp only [Act.put,lA,lB,lC,lD,lE,lF]
  refine wpAnyH_ready (rs:=[14]) (by kernel_rfl) (by simp) ?_
  refine AllReadyH.cons rfl (fun K hK=>?_) AllReadyH.nil
  go_simp
  refine hK.out _ _ (by (try dsimp only);simp [go_sem, *]) (fun hHeld=>?_)
  clear hK K
  refine wpAnyH_done (by kernel_rfl) ?_ _
  have HA:Hid (je7 w (w3.setCell (aq R 9) (.slice (some (aq gg 0)) (n+1) cp)) B R C (.slice oo n oc') n E [iv c,iv u,iv 0,iv 0,iv 0,iv 0]):=HAE.out w3 gg cp _ hown3.out ⟨hgrow.out.os,hgrow.out.tape,hgrow.out.output,hgrow.out.size,hgrow.out.block⟩ hat.out
  have hs9:9<C.size:=(Array.getElem?_eq_some_iff.1 C9.out).1
  have hR4:=Joins.block_setCell (i:=9) hR3.out (.slice (some (aq gg 0)) (n+1) cp)
  have n4:Hid _:=(Below.heap_setCell w3 (aq R 9) (.slice (some (aq gg 0)) (n+1) cp) _ hRn').trans n3.out
  have y9:(w3.setCell (aq R 9) (.slice (some (aq gg 0)) (n+1) cp)).cell? (aq R 9)=some (.slice (some (aq gg 0)) (n+1) cp):=by rw [Joins.cell_of_block hR4];simp [hs9]
  clear g9 gf s0 s1 s2 s3 f0 f1 f2 f3 hR3w hz3 hR3 n3 hown3 hgrow hat hlt g2 g3 hHeld x9 e2 e3 hR4
  generalize w3.setCell (aq R 9) (.slice (some (aq gg 0)) (n+1) cp)=W3 at HA n4 y9 ⊢
  have hR4:R<W3.heap.size:=World.block_lt_of_cell? W3 _ y9
  have hz4:w.heap.size+1<W3.heap.size:=(Array.getElem?_eq_some_iff.1 n4.out).1
  go_wp2_with fail
  refine (HH.out _ hz4 HA.out).mono ?_
  rintro e w5 ⟨rfl,hq5,hb5,hs5,g5,cp5,z9,z3,z4,hg5⟩
  have n5:=hb5.trans n4.out
  obtain ⟨s0,s1,s2,s3⟩:=ja2 n5
  have f0:=ja0 n5 0
  have f1:=ja0 n5 1
  have f2:=ja0 n5 2
  have f3:=ja0 n5 3
  have hR5:R<w5.heap.size:=World.block_lt_of_cell? w5 _ z9
  have hz5:w.heap.size+1<w5.heap.size:=(Array.getElem?_eq_some_iff.1 n5).1
  have b0:(0:Int)<=(n:Int):=by omega
  have b1:(n:Int)<(n:Int)+1:=by omega
  clear n5 n4 y9 hb5
  go_wp2_with fail
  go_region
  go_wp2
  refine bodyPost_ret (v:=.agg #[iv 2,iv (n+1),iv ct,iv up]) (by simp [results,Tryz.results148,go_sem,s0,s1,s2,s3]) rfl ⟨rfl,?_⟩
  exact HQF.out _ _ (HQF.out w5 w5.drew hq5 ⟨rfl,rfl,rfl,Nat.le_refl _,fun _ _ _=>rfl⟩) (jcj _ _ _ _ _ _)
end Go.Proofs.YtfhncfghblkgeaaGreat
