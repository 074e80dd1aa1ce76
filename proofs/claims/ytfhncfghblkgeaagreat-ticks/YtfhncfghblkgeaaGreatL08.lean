import Derived.Test.YtfhncfghblkgeaaGreatL06
set_option maxRecDepth 100000
set_option maxHeartbeats 2000000
namespace Go.Proofs.YtfhncfghblkgeaaGreat
open Go.RowKit
theorem qco (R ql:Nat) (r:Req) (w:World) (uv:Int->Int) (cap:Int) (h1:w.cell? (aq R 1)=some (iv cap)) (ha:0<=uv 13/\uv 13<=4294967296) (hb:0<=uv 14/\uv 14<=4294967296) (hd:0<=uv 12/\uv 12<=4294967296) (hu:0<=r.units/\r.units<=4294967296) (hc:cap<uv 13+uv 14+uv 12+r.units)
 (HU:Hid (∀ st:Int,(st=13\/st=14\/st=12)->∀ W,Below w.heap.size w W->Calls Tryz.prog 125 #[pt R 0,iv st,iv r.cust] W fun e w'=>e=.returned (iv (uv st))/\Below W.heap.size W w'))
 (HQ:Hid (∀ W,Below w.heap.size w W->Calls Tryz.prog 123 #[pt R 0] W fun e w'=>∃ oa oc,e=.returned (.slice oa ql oc)/\Below W.heap.size W w')) :
 Calls Tryz.prog 148 #[pt R 0,r.val] w fun e w'=>e=.returned (.agg #[iv 4,iv 0,iv 0,iv 0])/\Below w.heap.size w w':=by
 obtain ⟨k,t,c,u,o⟩:=r
 unfold Req.val
 simp only at HU hu hc ⊢
 have hRw:R<w.heap.size:=World.block_lt_of_cell? w _ h1
 go_enter Tryz.func148,Tryz.ntmps148
 go_wp2_with fail
 have w01:Below w.heap.size w ((w.alloc (.cells #[iv k,iv t,iv c,iv u,iv o] 46)).alloc (.cells #[iv 0,iv 0,iv 0,iv 0] 42)):=bL
 have rb:((w.alloc (.cells #[iv k,iv t,iv c,iv u,iv o] 46)).alloc (.cells #[iv 0,iv 0,iv 0,iv 0] 42)).heap[w.heap.size]?=some (.cells #[iv k,iv t,iv c,iv u,iv o] 46 (0,0)):=(Below.heap_alloc _ _ _ (by simp)).trans (heap_alloc_new w _)
 have n0:((w.alloc (.cells #[iv k,iv t,iv c,iv u,iv o] 46)).alloc (.cells #[iv 0,iv 0,iv 0,iv 0] 42)).heap[w.heap.size+1]?=some (.cells #[iv 0,iv 0,iv 0,iv 0] 42 (0,0)):=by
  have:=heap_alloc_new (w.alloc (.cells #[iv k,iv t,iv c,iv u,iv o] 46)) (.cells #[iv 0,iv 0,iv 0,iv 0] 42)
  rwa [show (w.alloc (.cells #[iv k,iv t,iv c,iv u,iv o] 46)).heap.size=w.heap.size+1 by simp] at this
 have hz:w.heap.size+2<=((w.alloc (.cells #[iv k,iv t,iv c,iv u,iv o] 46)).alloc (.cells #[iv 0,iv 0,iv 0,iv 0] 42)).heap.size:=by simp
 generalize (w.alloc (.cells #[iv k,iv t,iv c,iv u,iv o] 46)).alloc (.cells #[iv 0,iv 0,iv 0,iv 0] 42)=W0 at w01 rb n0 hz ⊢
 have e2:W0.cell? (aq w.heap.size 2)=some (iv c):=by rw [Joins.cell_of_block rb];rfl
 replace w01:Hid _:=w01
 replace rb:Hid _:=rb
 replace n0:Hid _:=n0
 have hz0:w.heap.size<W0.heap.size:=by omega
 replace hc:Hid _:=hc
 replace hu:Hid _:=hu
 replace h1:Hid _:=h1
 go_region_held3 (fun w'=>w'.cell? (aq w.heap.size 2)=some (iv c)) (simp [go_sem, *])
  (first|(go_at_call 125;refine (HU.out _ (by decide) _ bL).mono ?_;rintro e w1 ⟨rfl,b⟩
          replace w01:Hid (Below w.heap.size w w1):=Below.trans (show Below w.heap.size w _ from bL) (b.mono (by first|omega|(simp<;>omega)))
          replace rb:Hid (w1.heap[w.heap.size]?=_):=(b.block w.heap.size (by first|omega|(simp<;>omega))).trans rb.out
          replace n0:Hid (w1.heap[w.heap.size+1]?=_):=(b.block (w.heap.size+1) (by first|omega|(simp<;>omega))).trans n0.out
          have e2:w1.cell? (aq w.heap.size 2)=some (iv c):=by rw [Joins.cell_of_block rb.out];rfl
          replace hz:w.heap.size+2<=w1.heap.size:=Nat.le_trans hz (by have:=b.size;first|exact this|simpa using this)
          have hz0:w.heap.size<w1.heap.size:=by omega
          clear b))
 have hw1:IntKind.i64.wrap (uv 13+uv 14)=uv 13+uv 14:=jag (by omega) (by omega)
 have hw2:IntKind.i64.wrap (uv 13+uv 14+uv 12)=uv 13+uv 14+uv 12:=jag (by omega) (by omega)
 rw [hw1,hw2]
 have hc':=hc.out
 have hu':0<=u/\u<=4294967296:=hu.out
 have hh:0<=uv 13+uv 14+uv 12/\uv 13+uv 14+uv 12<=12884901888:=by omega
 clear hw1 hw2 hc hu
 generalize uv 13+uv 14+uv 12=has at hc' hh ⊢
 clear ha hb hd HU
 go_wp2_with
  (first|(go_at_call 123;refine (HQ.out  _ bL).mono ?_;rintro e w1 ⟨oa,oc,rfl,b⟩
          replace w01:Hid (Below w.heap.size w w1):=Below.trans (show Below w.heap.size w _ from bL) (b.mono (by first|omega|(simp<;>omega)))
          replace rb:Hid (w1.heap[w.heap.size]?=_):=(b.block w.heap.size (by first|omega|(simp<;>omega))).trans rb.out
          replace n0:Hid (w1.heap[w.heap.size+1]?=_):=(b.block (w.heap.size+1) (by first|omega|(simp<;>omega))).trans n0.out
          have e2:w1.cell? (aq w.heap.size 2)=some (iv c):=by rw [Joins.cell_of_block rb.out];rfl
          replace hz:w.heap.size+2<=w1.heap.size:=Nat.le_trans hz (by have:=b.size;first|exact this|simpa using this)
          have hz0:w.heap.size<w1.heap.size:=by omega
          clear b))
 have e3:w1.cell? (aq w.heap.size 3)=some (iv u):=by rw [Joins.cell_of_block rb.out];rfl
 have x1:=(w01.out.cell (p:=(aq R 1)) hRw).trans h1.out
 have hRw1:R<w1.heap.size:=by omega
 have hw:IntKind.i64.wrap (has+u)=has+u:=jag (by omega) (by omega)
 have hcd:decide (cap<has+u)=true:=by simpa using hc'
 go_quiet (fail)
 obtain ⟨s0,s1,s2,s3⟩:=ja2 n0.out
 have f0:=ja0 n0.out 0
 have f1:=ja0 n0.out 1
 have f2:=ja0 n0.out 2
 have f3:=ja0 n0.out 3
 have hz1:w.heap.size+1<w1.heap.size:=by omega
 go_wp2
 refine bodyPost_ret (v:=.agg #[iv 4,iv 0,iv 0,iv 0]) (by simp [results,Tryz.results148,go_sem,s0,s1,s2,s3]) rfl ⟨rfl,?_⟩
 exact bL
theorem qb7 (R ql:Nat) (r:Req) (w:World) (uv:Int->Int) (cap lf:Int) (h1:w.cell? (aq R 1)=some (iv cap)) (ha:0<=uv 13/\uv 13<=4294967296) (hb:0<=uv 14/\uv 14<=4294967296) (hd:0<=uv 12/\uv 12<=4294967296) (hu:0<=r.units/\r.units<=4294967296) (hc:¬ cap<uv 13+uv 14+uv 12+r.units) (hl:lf<r.units)
 (HU:Hid (∀ st:Int,(st=13\/st=14\/st=12)->∀ W,Below w.heap.size w W->Calls Tryz.prog 125 #[pt R 0,iv st,iv r.cust] W fun e w'=>e=.returned (iv (uv st))/\Below W.heap.size W w'))
 (HQ:Hid (∀ W,Below w.heap.size w W->Calls Tryz.prog 123 #[pt R 0] W fun e w'=>∃ oa oc,e=.returned (.slice oa ql oc)/\Below W.heap.size W w'))
 (HL:Hid (∀ W,Below w.heap.size w W->Calls Tryz.prog 151 #[pt R 0] W fun e w'=>e=.returned (iv lf)/\Below W.heap.size W w')) :
 Calls Tryz.prog 148 #[pt R 0,r.val] w fun e w'=>e=.returned (.agg #[iv 5,iv 0,iv 0,iv 0])/\Below w.heap.size w w':=by
 obtain ⟨k,t,c,u,o⟩:=r
 unfold Req.val
 simp only at HU hu hc ⊢
 have hRw:R<w.heap.size:=World.block_lt_of_cell? w _ h1
 go_enter Tryz.func148,Tryz.ntmps148
 go_wp2_with fail
 have w01:Below w.heap.size w ((w.alloc (.cells #[iv k,iv t,iv c,iv u,iv o] 46)).alloc (.cells #[iv 0,iv 0,iv 0,iv 0] 42)):=bL
 have rb:((w.alloc (.cells #[iv k,iv t,iv c,iv u,iv o] 46)).alloc (.cells #[iv 0,iv 0,iv 0,iv 0] 42)).heap[w.heap.size]?=some (.cells #[iv k,iv t,iv c,iv u,iv o] 46 (0,0)):=(Below.heap_alloc _ _ _ (by simp)).trans (heap_alloc_new w _)
 have n0:((w.alloc (.cells #[iv k,iv t,iv c,iv u,iv o] 46)).alloc (.cells #[iv 0,iv 0,iv 0,iv 0] 42)).heap[w.heap.size+1]?=some (.cells #[iv 0,iv 0,iv 0,iv 0] 42 (0,0)):=by
  have:=heap_alloc_new (w.alloc (.cells #[iv k,iv t,iv c,iv u,iv o] 46)) (.cells #[iv 0,iv 0,iv 0,iv 0] 42)
  rwa [show (w.alloc (.cells #[iv k,iv t,iv c,iv u,iv o] 46)).heap.size=w.heap.size+1 by simp] at this
 have hz:w.heap.size+2<=((w.alloc (.cells #[iv k,iv t,iv c,iv u,iv o] 46)).alloc (.cells #[iv 0,iv 0,iv 0,iv 0] 42)).heap.size:=by simp
 generalize (w.alloc (.cells #[iv k,iv t,iv c,iv u,iv o] 46)).alloc (.cells #[iv 0,iv 0,iv 0,iv 0] 42)=W0 at w01 rb n0 hz ⊢
 have e2:W0.cell? (aq w.heap.size 2)=some (iv c):=by rw [Joins.cell_of_block rb];rfl
 replace w01:Hid _:=w01
 replace rb:Hid _:=rb
 replace n0:Hid _:=n0
 have hz0:w.heap.size<W0.heap.size:=by omega
 replace hc:Hid _:=hc
 replace hu:Hid _:=hu
 replace h1:Hid _:=h1
 go_region_held3 (fun w'=>w'.cell? (aq w.heap.size 2)=some (iv c)) (simp [go_sem, *])
  (first|(go_at_call 125;refine (HU.out _ (by decide) _ bL).mono ?_;rintro e w1 ⟨rfl,b⟩
          replace w01:Hid (Below w.heap.size w w1):=Below.trans (show Below w.heap.size w _ from bL) (b.mono (by first|omega|(simp<;>omega)))
          replace rb:Hid (w1.heap[w.heap.size]?=_):=(b.block w.heap.size (by first|omega|(simp<;>omega))).trans rb.out
          replace n0:Hid (w1.heap[w.heap.size+1]?=_):=(b.block (w.heap.size+1) (by first|omega|(simp<;>omega))).trans n0.out
          have e2:w1.cell? (aq w.heap.size 2)=some (iv c):=by rw [Joins.cell_of_block rb.out];rfl
          replace hz:w.heap.size+2<=w1.heap.size:=Nat.le_trans hz (by have:=b.size;first|exact this|simpa using this)
          have hz0:w.heap.size<w1.heap.size:=by omega
          clear b))
 have hw1:IntKind.i64.wrap (uv 13+uv 14)=uv 13+uv 14:=jag (by omega) (by omega)
 have hw2:IntKind.i64.wrap (uv 13+uv 14+uv 12)=uv 13+uv 14+uv 12:=jag (by omega) (by omega)
 rw [hw1,hw2]
 have hc':=hc.out
 have hu':0<=u/\u<=4294967296:=hu.out
 have hh:0<=uv 13+uv 14+uv 12/\uv 13+uv 14+uv 12<=12884901888:=by omega
 clear hw1 hw2 hc hu
 generalize uv 13+uv 14+uv 12=has at hc' hh ⊢
 clear ha hb hd HU
 go_wp2_with
  (first|(go_at_call 123;refine (HQ.out  _ bL).mono ?_;rintro e w1 ⟨oa,oc,rfl,b⟩
          replace w01:Hid (Below w.heap.size w w1):=Below.trans (show Below w.heap.size w _ from bL) (b.mono (by first|omega|(simp<;>omega)))
          replace rb:Hid (w1.heap[w.heap.size]?=_):=(b.block w.heap.size (by first|omega|(simp<;>omega))).trans rb.out
          replace n0:Hid (w1.heap[w.heap.size+1]?=_):=(b.block (w.heap.size+1) (by first|omega|(simp<;>omega))).trans n0.out
          have e2:w1.cell? (aq w.heap.size 2)=some (iv c):=by rw [Joins.cell_of_block rb.out];rfl
          replace hz:w.heap.size+2<=w1.heap.size:=Nat.le_trans hz (by have:=b.size;first|exact this|simpa using this)
          have hz0:w.heap.size<w1.heap.size:=by omega
          clear b))
 have e3:w1.cell? (aq w.heap.size 3)=some (iv u):=by rw [Joins.cell_of_block rb.out];rfl
 have x1:=(w01.out.cell (p:=(aq R 1)) hRw).trans h1.out
 have hRw1:R<w1.heap.size:=by omega
 have hw:IntKind.i64.wrap (has+u)=has+u:=jag (by omega) (by omega)
 have hcd:decide (cap<has+u)=false:=by simpa using hc'
 have hld:decide (lf<u)=true:=by simpa using hl
 go_quiet (fail)
 clear hcd hc' hw hh hu' x1 e2
 go_wp2_with fail
 go_region_held3 (fun w'=>w'.cell? (aq w.heap.size 3)=some (iv u)) (simp [go_sem, *])
  (first|(go_at_call 151;refine (HL.out  _ bL).mono ?_;rintro e w1 ⟨rfl,b⟩
          replace w01:Hid (Below w.heap.size w w1):=Below.trans (show Below w.heap.size w _ from bL) (b.mono (by first|omega|(simp<;>omega)))
          replace rb:Hid (w1.heap[w.heap.size]?=_):=(b.block w.heap.size (by first|omega|(simp<;>omega))).trans rb.out
          replace n0:Hid (w1.heap[w.heap.size+1]?=_):=(b.block (w.heap.size+1) (by first|omega|(simp<;>omega))).trans n0.out
          have e3:w1.cell? (aq w.heap.size 3)=some (iv u):=by rw [Joins.cell_of_block rb.out];rfl
          replace hz:w.heap.size+2<=w1.heap.size:=Nat.le_trans hz (by have:=b.size;first|exact this|simpa using this)
          have hz0:w.heap.size<w1.heap.size:=by omega
          clear b))
 obtain ⟨s0,s1,s2,s3⟩:=ja2 n0.out
 have f0:=ja0 n0.out 0
 have f1:=ja0 n0.out 1
 have f2:=ja0 n0.out 2
 have f3:=ja0 n0.out 3
 have hz1:w.heap.size+1<w1.heap.size:=by omega
 go_wp2
 refine bodyPost_ret (v:=.agg #[iv 5,iv 0,iv 0,iv 0]) (by simp [results,Tryz.results148,go_sem,s0,s1,s2,s3]) rfl ⟨rfl,?_⟩
 exact bL
theorem jy7 (R ql:Nat) (r:Req) (w:World) (uv:Int->Int) (cap lf:Int) (h1:w.cell? (aq R 1)=some (iv cap)) (ha:0<=uv 13/\uv 13<=4294967296) (hb:0<=uv 14/\uv 14<=4294967296) (hd:0<=uv 12/\uv 12<=4294967296) (hu:0<=r.units/\r.units<=4294967296) (hc:¬ cap<uv 13+uv 14+uv 12+r.units) (hl:¬ lf<r.units) (oo:Option Addr) (n oc':Nat) (h9:w.cell? (aq R 9)=some (.slice oo n oc')) (hn:4294967296<=n)
 (HU:Hid (∀ st:Int,(st=13\/st=14\/st=12)->∀ W,Below w.heap.size w W->Calls Tryz.prog 125 #[pt R 0,iv st,iv r.cust] W fun e w'=>e=.returned (iv (uv st))/\Below W.heap.size W w'))
 (HQ:Hid (∀ W,Below w.heap.size w W->Calls Tryz.prog 123 #[pt R 0] W fun e w'=>∃ oa oc,e=.returned (.slice oa ql oc)/\Below W.heap.size W w'))
 (HL:Hid (∀ W,Below w.heap.size w W->Calls Tryz.prog 151 #[pt R 0] W fun e w'=>e=.returned (iv lf)/\Below W.heap.size W w')) :
 Calls Tryz.prog 148 #[pt R 0,r.val] w fun e w'=>e=.returned (.agg #[iv 6,iv 0,iv 0,iv 0])/\Below w.heap.size w w':=by
 replace h9:Hid _:=h9
 obtain ⟨k,t,c,u,o⟩:=r
 unfold Req.val
 simp only at HU hu hc ⊢
 have hRw:R<w.heap.size:=World.block_lt_of_cell? w _ h1
 go_enter Tryz.func148,Tryz.ntmps148
 go_wp2_with fail
 have w01:Below w.heap.size w ((w.alloc (.cells #[iv k,iv t,iv c,iv u,iv o] 46)).alloc (.cells #[iv 0,iv 0,iv 0,iv 0] 42)):=bL
 have rb:((w.alloc (.cells #[iv k,iv t,iv c,iv u,iv o] 46)).alloc (.cells #[iv 0,iv 0,iv 0,iv 0] 42)).heap[w.heap.size]?=some (.cells #[iv k,iv t,iv c,iv u,iv o] 46 (0,0)):=(Below.heap_alloc _ _ _ (by simp)).trans (heap_alloc_new w _)
 have n0:((w.alloc (.cells #[iv k,iv t,iv c,iv u,iv o] 46)).alloc (.cells #[iv 0,iv 0,iv 0,iv 0] 42)).heap[w.heap.size+1]?=some (.cells #[iv 0,iv 0,iv 0,iv 0] 42 (0,0)):=by
  have:=heap_alloc_new (w.alloc (.cells #[iv k,iv t,iv c,iv u,iv o] 46)) (.cells #[iv 0,iv 0,iv 0,iv 0] 42)
  rwa [show (w.alloc (.cells #[iv k,iv t,iv c,iv u,iv o] 46)).heap.size=w.heap.size+1 by simp] at this
 have hz:w.heap.size+2<=((w.alloc (.cells #[iv k,iv t,iv c,iv u,iv o] 46)).alloc (.cells #[iv 0,iv 0,iv 0,iv 0] 42)).heap.size:=by simp
 generalize (w.alloc (.cells #[iv k,iv t,iv c,iv u,iv o] 46)).alloc (.cells #[iv 0,iv 0,iv 0,iv 0] 42)=W0 at w01 rb n0 hz ⊢
 have e2:W0.cell? (aq w.heap.size 2)=some (iv c):=by rw [Joins.cell_of_block rb];rfl
 replace w01:Hid _:=w01
 replace rb:Hid _:=rb
 replace n0:Hid _:=n0
 have hz0:w.heap.size<W0.heap.size:=by omega
 replace hc:Hid _:=hc
 replace hu:Hid _:=hu
 replace h1:Hid _:=h1
 go_region_held3 (fun w'=>w'.cell? (aq w.heap.size 2)=some (iv c)) (simp [go_sem, *])
  (first|(go_at_call 125;refine (HU.out _ (by decide) _ bL).mono ?_;rintro e w1 ⟨rfl,b⟩
          replace w01:Hid (Below w.heap.size w w1):=Below.trans (show Below w.heap.size w _ from bL) (b.mono (by first|omega|(simp<;>omega)))
          replace rb:Hid (w1.heap[w.heap.size]?=_):=(b.block w.heap.size (by first|omega|(simp<;>omega))).trans rb.out
          replace n0:Hid (w1.heap[w.heap.size+1]?=_):=(b.block (w.heap.size+1) (by first|omega|(simp<;>omega))).trans n0.out
          have e2:w1.cell? (aq w.heap.size 2)=some (iv c):=by rw [Joins.cell_of_block rb.out];rfl
          replace hz:w.heap.size+2<=w1.heap.size:=Nat.le_trans hz (by have:=b.size;first|exact this|simpa using this)
          have hz0:w.heap.size<w1.heap.size:=by omega
          clear b))
 have hw1:IntKind.i64.wrap (uv 13+uv 14)=uv 13+uv 14:=jag (by omega) (by omega)
 have hw2:IntKind.i64.wrap (uv 13+uv 14+uv 12)=uv 13+uv 14+uv 12:=jag (by omega) (by omega)
 rw [hw1,hw2]
 have hc':=hc.out
 have hu':0<=u/\u<=4294967296:=hu.out
 have hh:0<=uv 13+uv 14+uv 12/\uv 13+uv 14+uv 12<=12884901888:=by omega
 clear hw1 hw2 hc hu
 generalize uv 13+uv 14+uv 12=has at hc' hh ⊢
 clear ha hb hd HU
 go_wp2_with
  (first|(go_at_call 123;refine (HQ.out  _ bL).mono ?_;rintro e w1 ⟨oa,oc,rfl,b⟩
          replace w01:Hid (Below w.heap.size w w1):=Below.trans (show Below w.heap.size w _ from bL) (b.mono (by first|omega|(simp<;>omega)))
          replace rb:Hid (w1.heap[w.heap.size]?=_):=(b.block w.heap.size (by first|omega|(simp<;>omega))).trans rb.out
          replace n0:Hid (w1.heap[w.heap.size+1]?=_):=(b.block (w.heap.size+1) (by first|omega|(simp<;>omega))).trans n0.out
          have e2:w1.cell? (aq w.heap.size 2)=some (iv c):=by rw [Joins.cell_of_block rb.out];rfl
          replace hz:w.heap.size+2<=w1.heap.size:=Nat.le_trans hz (by have:=b.size;first|exact this|simpa using this)
          have hz0:w.heap.size<w1.heap.size:=by omega
          clear b))
 have e3:w1.cell? (aq w.heap.size 3)=some (iv u):=by rw [Joins.cell_of_block rb.out];rfl
 have x1:=(w01.out.cell (p:=(aq R 1)) hRw).trans h1.out
 have hRw1:R<w1.heap.size:=by omega
 have hw:IntKind.i64.wrap (has+u)=has+u:=jag (by omega) (by omega)
 have hcd:decide (cap<has+u)=false:=by simpa using hc'
 have hld:decide (lf<u)=false:=by simpa using hl
 have hnd:decide ((4294967296:Int)<=(n:Int))=true:=by simp;omega
 go_quiet (fail)
 clear hcd hc' hw hh hu' x1 e2
 go_wp2_with fail
 go_region_held3 (fun w'=>w'.cell? (aq w.heap.size 3)=some (iv u)) (simp [go_sem, *])
  (first|(go_at_call 151;refine (HL.out  _ bL).mono ?_;rintro e w1 ⟨rfl,b⟩
          replace w01:Hid (Below w.heap.size w w1):=Below.trans (show Below w.heap.size w _ from bL) (b.mono (by first|omega|(simp<;>omega)))
          replace rb:Hid (w1.heap[w.heap.size]?=_):=(b.block w.heap.size (by first|omega|(simp<;>omega))).trans rb.out
          replace n0:Hid (w1.heap[w.heap.size+1]?=_):=(b.block (w.heap.size+1) (by first|omega|(simp<;>omega))).trans n0.out
          have e3:w1.cell? (aq w.heap.size 3)=some (iv u):=by rw [Joins.cell_of_block rb.out];rfl
          replace hz:w.heap.size+2<=w1.heap.size:=Nat.le_trans hz (by have:=b.size;first|exact this|simpa using this)
          have hz0:w.heap.size<w1.heap.size:=by omega
          clear b))
 have x9:=(w01.out.cell (p:=(aq R 9)) hRw).trans h9.out
 have hRw2:R<w1.heap.size:=by omega
 obtain ⟨s0,s1,s2,s3⟩:=ja2 n0.out
 have f0:=ja0 n0.out 0
 have f1:=ja0 n0.out 1
 have f2:=ja0 n0.out 2
 have f3:=ja0 n0.out 3
 have hz1:w.heap.size+1<w1.heap.size:=by omega
 go_wp2
 refine bodyPost_ret (v:=.agg #[iv 6,iv 0,iv 0,iv 0]) (by simp [results,Tryz.results148,go_sem,s0,s1,s2,s3]) rfl ⟨rfl,?_⟩
 exact bL
theorem jyp (R ql:Nat) (r:Req) (w:World) (uv:Int->Int) (cap lf:Int) (h1:w.cell? (aq R 1)=some (iv cap)) (ha:0<=uv 13/\uv 13<=4294967296) (hb:0<=uv 14/\uv 14<=4294967296) (hd:0<=uv 12/\uv 12<=4294967296) (hu:0<=r.units/\r.units<=4294967296) (hc:¬ cap<uv 13+uv 14+uv 12+r.units) (hl:¬ lf<r.units) (oo:Option Addr) (n oc':Nat) (h9:w.cell? (aq R 9)=some (.slice oo n oc')) (hn:n<4294967296) (h2:w.cell? (aq R 2)=some (iv ql)) (hq:0<ql)
 (HU:Hid (∀ st:Int,(st=13\/st=14\/st=12)->∀ W,Below w.heap.size w W->Calls Tryz.prog 125 #[pt R 0,iv st,iv r.cust] W fun e w'=>e=.returned (iv (uv st))/\Below W.heap.size W w'))
 (HQ:Hid (∀ W,Below w.heap.size w W->Calls Tryz.prog 123 #[pt R 0] W fun e w'=>∃ oa oc,e=.returned (.slice oa ql oc)/\Below W.heap.size W w'))
 (HL:Hid (∀ W,Below w.heap.size w W->Calls Tryz.prog 151 #[pt R 0] W fun e w'=>e=.returned (iv lf)/\Below W.heap.size W w')) :
 Calls Tryz.prog 148 #[pt R 0,r.val] w fun e w'=>e=.returned (.agg #[iv 6,iv 0,iv 0,iv 0])/\Below w.heap.size w w':=by
 replace h9:Hid _:=h9
 replace h2:Hid _:=h2
 obtain ⟨k,t,c,u,o⟩:=r
 unfold Req.val
 simp only at HU hu hc ⊢
 have hRw:R<w.heap.size:=World.block_lt_of_cell? w _ h1
 go_enter Tryz.func148,Tryz.ntmps148
 go_wp2_with fail
 have w01:Below w.heap.size w ((w.alloc (.cells #[iv k,iv t,iv c,iv u,iv o] 46)).alloc (.cells #[iv 0,iv 0,iv 0,iv 0] 42)):=bL
 have rb:((w.alloc (.cells #[iv k,iv t,iv c,iv u,iv o] 46)).alloc (.cells #[iv 0,iv 0,iv 0,iv 0] 42)).heap[w.heap.size]?=some (.cells #[iv k,iv t,iv c,iv u,iv o] 46 (0,0)):=(Below.heap_alloc _ _ _ (by simp)).trans (heap_alloc_new w _)
 have n0:((w.alloc (.cells #[iv k,iv t,iv c,iv u,iv o] 46)).alloc (.cells #[iv 0,iv 0,iv 0,iv 0] 42)).heap[w.heap.size+1]?=some (.cells #[iv 0,iv 0,iv 0,iv 0] 42 (0,0)):=by
  have:=heap_alloc_new (w.alloc (.cells #[iv k,iv t,iv c,iv u,iv o] 46)) (.cells #[iv 0,iv 0,iv 0,iv 0] 42)
  rwa [show (w.alloc (.cells #[iv k,iv t,iv c,iv u,iv o] 46)).heap.size=w.heap.size+1 by simp] at this
 have hz:w.heap.size+2<=((w.alloc (.cells #[iv k,iv t,iv c,iv u,iv o] 46)).alloc (.cells #[iv 0,iv 0,iv 0,iv 0] 42)).heap.size:=by simp
 generalize (w.alloc (.cells #[iv k,iv t,iv c,iv u,iv o] 46)).alloc (.cells #[iv 0,iv 0,iv 0,iv 0] 42)=W0 at w01 rb n0 hz ⊢
 have e2:W0.cell? (aq w.heap.size 2)=some (iv c):=by rw [Joins.cell_of_block rb];rfl
 replace w01:Hid _:=w01
 replace rb:Hid _:=rb
 replace n0:Hid _:=n0
 have hz0:w.heap.size<W0.heap.size:=by omega
 replace hc:Hid _:=hc
 replace hu:Hid _:=hu
 replace h1:Hid _:=h1
 go_region_held3 (fun w'=>w'.cell? (aq w.heap.size 2)=some (iv c)) (simp [go_sem, *])
  (first|(go_at_call 125;refine (HU.out _ (by decide) _ bL).mono ?_;rintro e w1 ⟨rfl,b⟩
          replace w01:Hid (Below w.heap.size w w1):=Below.trans (show Below w.heap.size w _ from bL) (b.mono (by first|omega|(simp<;>omega)))
          replace rb:Hid (w1.heap[w.heap.size]?=_):=(b.block w.heap.size (by first|omega|(simp<;>omega))).trans rb.out
          replace n0:Hid (w1.heap[w.heap.size+1]?=_):=(b.block (w.heap.size+1) (by first|omega|(simp<;>omega))).trans n0.out
          have e2:w1.cell? (aq w.heap.size 2)=some (iv c):=by rw [Joins.cell_of_block rb.out];rfl
          replace hz:w.heap.size+2<=w1.heap.size:=Nat.le_trans hz (by have:=b.size;first|exact this|simpa using this)
          have hz0:w.heap.size<w1.heap.size:=by omega
          clear b))
 have hw1:IntKind.i64.wrap (uv 13+uv 14)=uv 13+uv 14:=jag (by omega) (by omega)
 have hw2:IntKind.i64.wrap (uv 13+uv 14+uv 12)=uv 13+uv 14+uv 12:=jag (by omega) (by omega)
 rw [hw1,hw2]
 have hc':=hc.out
 have hu':0<=u/\u<=4294967296:=hu.out
 have hh:0<=uv 13+uv 14+uv 12/\uv 13+uv 14+uv 12<=12884901888:=by omega
 clear hw1 hw2 hc hu
 generalize uv 13+uv 14+uv 12=has at hc' hh ⊢
 clear ha hb hd HU
 go_wp2_with
  (first|(go_at_call 123;refine (HQ.out  _ bL).mono ?_;rintro e w1 ⟨oa,oc,rfl,b⟩
          replace w01:Hid (Below w.heap.size w w1):=Below.trans (show Below w.heap.size w _ from bL) (b.mono (by first|omega|(simp<;>omega)))
          replace rb:Hid (w1.heap[w.heap.size]?=_):=(b.block w.heap.size (by first|omega|(simp<;>omega))).trans rb.out
          replace n0:Hid (w1.heap[w.heap.size+1]?=_):=(b.block (w.heap.size+1) (by first|omega|(simp<;>omega))).trans n0.out
          have e2:w1.cell? (aq w.heap.size 2)=some (iv c):=by rw [Joins.cell_of_block rb.out];rfl
          replace hz:w.heap.size+2<=w1.heap.size:=Nat.le_trans hz (by have:=b.size;first|exact this|simpa using this)
          have hz0:w.heap.size<w1.heap.size:=by omega
          clear b))
 have e3:w1.cell? (aq w.heap.size 3)=some (iv u):=by rw [Joins.cell_of_block rb.out];rfl
 have x1:=(w01.out.cell (p:=(aq R 1)) hRw).trans h1.out
 have hRw1:R<w1.heap.size:=by omega
 have hw:IntKind.i64.wrap (has+u)=has+u:=jag (by omega) (by omega)
 have hcd:decide (cap<has+u)=false:=by simpa using hc'
 have hld:decide (lf<u)=false:=by simpa using hl
 have hnd:decide ((4294967296:Int)<=(n:Int))=false:=by simp;omega
 have hqd:decide ((0:Int)<(ql:Int))=true:=by simp;omega
 go_quiet (fail)
 clear hcd hc' hw hh hu' x1 e2
 go_wp2_with fail
 go_region_held3 (fun w'=>w'.cell? (aq w.heap.size 3)=some (iv u)) (simp [go_sem, *])
  (first|(go_at_call 151;refine (HL.out  _ bL).mono ?_;rintro e w1 ⟨rfl,b⟩
          replace w01:Hid (Below w.heap.size w w1):=Below.trans (show Below w.heap.size w _ from bL) (b.mono (by first|omega|(simp<;>omega)))
          replace rb:Hid (w1.heap[w.heap.size]?=_):=(b.block w.heap.size (by first|omega|(simp<;>omega))).trans rb.out
          replace n0:Hid (w1.heap[w.heap.size+1]?=_):=(b.block (w.heap.size+1) (by first|omega|(simp<;>omega))).trans n0.out
          have e3:w1.cell? (aq w.heap.size 3)=some (iv u):=by rw [Joins.cell_of_block rb.out];rfl
          replace hz:w.heap.size+2<=w1.heap.size:=Nat.le_trans hz (by have:=b.size;first|exact this|simpa using this)
          have hz0:w.heap.size<w1.heap.size:=by omega
          clear b))
 have x9:=(w01.out.cell (p:=(aq R 9)) hRw).trans h9.out
 have x2:=(w01.out.cell (p:=(aq R 2)) hRw).trans h2.out
 have hRw2:R<w1.heap.size:=by omega
 obtain ⟨s0,s1,s2,s3⟩:=ja2 n0.out
 have f0:=ja0 n0.out 0
 have f1:=ja0 n0.out 1
 have f2:=ja0 n0.out 2
 have f3:=ja0 n0.out 3
 have hz1:w.heap.size+1<w1.heap.size:=by omega
 go_wp2_with fail
 go_quiet (fail)
 go_wp2
 refine bodyPost_ret (v:=.agg #[iv 6,iv 0,iv 0,iv 0]) (by simp [results,Tryz.results148,go_sem,s0,s1,s2,s3]) rfl ⟨rfl,?_⟩
 exact bL
end Go.Proofs.YtfhncfghblkgeaaGreat
