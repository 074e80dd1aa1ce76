import Derived.Test.YtfhncfghblkgeaaGreatL05
set_option maxRecDepth 100000
set_option maxHeartbeats 2000000
namespace Go.Proofs.YtfhncfghblkgeaaGreat
open Go.RowKit
section
structure Req where
 kind:Int
 token:Int
 cust:Int
 units:Int
 order:Int
def Req.val (r:Req):Value:=.agg #[iv r.kind,iv r.token,iv r.cust,iv r.units,iv r.order]
def Rep.val (r:Rep):Value:=.agg #[iv r.kind,iv r.order,iv r.cents,iv r.upto]
def jej (os:List Ord) (cust order:Int):Option Nat:=if order<=os.length/\(os.getD (order - 1).toNat ja3).cust=cust then some (order - 1).toNat else none
def qf8:Option Nat->Int
 | some i=>i
 | none=>-1
theorem jsm {os:List Ord} {cust order:Int} {i:Nat} (ho:1<=order) (h:jej os cust order=some i):i<os.length/\order=i+1/\(os.getD i ja3).cust=cust:=by
 unfold jej at h
 split at h
 ·next hc =>
  have h':=Option.some.inj h
  subst h'
  exact ⟨by omega,by omega,hc.2⟩
 ·simp at h
theorem qa2 (R:Nat) (v:Value) (os:List Ord) (r:Req) (w:World) (h9:w.cell? (aq R 9)=some v) (hd:jre w v os) (hl:os.length * 48<=140737488355328) (ho:1<=r.order/\r.order<=4294967296) :
 Calls Tryz.prog 167 #[pt R 0,r.val] w fun e w'=>e=.returned (iv (qf8 (jej os r.cust r.order)))/\Below w.heap.size w w':=by
 obtain ⟨a,cp,rfl,hc⟩:=hd
 have hRw:R<w.heap.size:=World.block_lt_of_cell? w _ h9
 obtain ⟨k,t,c,u,o⟩:=r
 simp only at ho
 unfold Req.val
 simp only
 by_cases hle:o<=os.length
 ·obtain ⟨m,rfl⟩:∃ m:Nat,o=(m:Int)+1:=⟨(o - 1).toNat,by omega⟩
  have hm:m<os.length:=by omega
  obtain ⟨g,rfl,hgw,hcell⟩:=hc (by omega)
  obtain ⟨c0,_⟩:=hcell m hm
  have HF:Hid (jej os c ((m:Int)+1)=if (os.getD m ja3).cust=c then some m else none):=by
   unfold Hid jej
   have e:((m:Int)+1 - 1).toNat=m:=by omega
   rw [e]
   by_cases h:(os.getD m ja3).cust=c
   ·rw [if_pos ⟨by omega,h⟩,if_pos h]
   ·rw [if_neg (fun x=>h x.2),if_neg h]
  generalize (os.getD m ja3).cust=oc at c0 HF
  have hgt:decide ((os.length:Int)<(m:Int)+1)=false:=by simp;omega
  have b0:(0:Int)<=(m:Int):=by omega
  have b1:(m:Int)<(os.length:Int):=by omega
  clear hcell hc
  have hw:IntKind.i64.wrap ((m:Int)+1 - 1)=(m:Int):=by rw [Int.add_sub_cancel];exact jag (by omega) (by omega)
  by_cases hcc:oc=c
  ·subst hcc
   go_enter Tryz.func167,Tryz.ntmps167
   go_wp2_with fail
   go_quiet (fail)
   go_wp2
   go_ret
   exact ⟨by have h1:=HF.out;simp only [if_true] at h1;rw [h1];rfl,bL⟩
  ·have hc1:(oc==c)=false:=by simpa using hcc
   go_enter Tryz.func167,Tryz.ntmps167
   go_wp2_with fail
   go_quiet (fail)
   go_wp2
   go_ret
   exact ⟨by rw [HF.out,if_neg hcc];rfl,bL⟩
 ·have HF:Hid (jej os c o=none):=by unfold Hid jej;rw [if_neg (fun x=>hle x.1)]
  have hgt:decide ((os.length:Int)<o)=true:=by simp;omega
  clear hc
  go_enter Tryz.func167,Tryz.ntmps167
  go_wp2_with fail
  go_quiet (fail)
  go_wp2
  go_ret
  exact ⟨by rw [HF.out];rfl,bL⟩
theorem ja2 {w:World} {R:Nat} {c0 c1 c2 c3:Value} {T:TypeId} (h:w.heap[R]?=some (.cells #[c0,c1,c2,c3] T (0,0))):w.cell? (aq R 0)=some c0/\w.cell? (aq R 1)=some c1/\w.cell? (aq R 2)=some c2/\w.cell? (aq R 3)=some c3 :=
 ⟨by rw [Joins.cell_of_block h];rfl,by rw [Joins.cell_of_block h];rfl,by rw [Joins.cell_of_block h];rfl,by rw [Joins.cell_of_block h];rfl⟩
theorem jca {w w2:World} {B b:Nat} {v0 v1 v2 v3:Value} (h:Below B w w2) (hb:B<=b):Below B w ((((w2.setCell (aq b 0) v0).setCell (aq b 1) v1).setCell (aq b 2) v2).setCell (aq b 3) v3) :=
 (((h.setCell (p:=(aq b 0)) hb _).setCell (p:=(aq b 1)) hb _).setCell (p:=(aq b 2)) hb _).setCell (p:=(aq b 3)) hb _
def Sal.poll (S:Sal) (r:Req):Rep:=match jej S.os r.cust r.order with
 | none=>{ qfy with kind:=19 }
 | some i =>
   if (S.os.getD i ja3).state=12 then ⟨12,r.order,0,(S.os.getD i ja3).upto⟩
   else if (S.os.getD i ja3).state=13 then ⟨13,r.order,(S.os.getD i ja3).cents,(S.os.getD i ja3).upto⟩
   else if S.C.keep<=S.now - (S.os.getD i ja3).ended then { qfy with kind:=19 }
   else if (S.os.getD i ja3).state=14 then ⟨14,r.order,(S.os.getD i ja3).units * (S.os.getD i ja3).cents,0⟩
   else ⟨(S.os.getD i ja3).state,r.order,0,0⟩
section
variable {w w':World} {B R:Nat} {S:Sal} {ap:Option Addr} {lp cp:Nat} {vo va:Value}
theorem jkb (h:saleAt w B R S ap lp cp vo va) (hl:S.os.length * 48+48<=140737488351232) (r:Req) (ho:1<=r.order/\r.order<=4294967296) :
 ∀ W,Below w.heap.size w W->Calls Tryz.prog 167 #[pt R 0,r.val] W fun e w'=>e=.returned (iv (qf8 (jej S.os r.cust r.order)))/\Below W.heap.size W w':=by
 intro W hW
 have h':=ja9 h hW
 exact qa2 R vo S.os r W (by rw [Joins.cell_of_block h'.blk];rfl) (jed h'.os) (by omega) ho
end
theorem jwe (R:Nat) (r:Req) (w:World)
 (HF:Hid (∀ W,Below w.heap.size w W->Calls Tryz.prog 167 #[pt R 0,r.val] W fun e w'=>e=.returned (iv (-1))/\Below W.heap.size W w')) :
 Calls Tryz.prog 146 #[pt R 0,r.val] w fun e w'=>e=.returned (.agg #[iv 19,iv 0,iv 0,iv 0])/\Below w.heap.size w w':=by
 obtain ⟨k,t,c,u,o⟩:=r
 unfold Req.val at HF ⊢
 simp only at HF ⊢
 go_enter Tryz.func146,Tryz.ntmps146
 go_wp2_with (go_at_call 167;refine (HF.out _ bL).mono ?_;rintro e w1 ⟨rfl,b1⟩
              have hz1:w.heap.size+2<=w1.heap.size:=by have:=b1.size;simpa using this
              have n0:w1.heap[w.heap.size+1]?=some (.cells #[iv 0,iv 0,iv 0,iv 0] 42 (0,0)):=(b1.block _ (by simp)).trans (by
               have:=heap_alloc_new (w.alloc (.cells #[iv k,iv t,iv c,iv u,iv o] 46)) (.cells #[iv 0,iv 0,iv 0,iv 0] 42)
               rwa [show (w.alloc (.cells #[iv k,iv t,iv c,iv u,iv o] 46)).heap.size=w.heap.size+1 by simp] at this)
              obtain ⟨s0,s1,s2,s3⟩:=ja2 n0
              have f0:=ja0 n0 0
              have f1:=ja0 n0 1
              have f2:=ja0 n0 2
              have f3:=ja0 n0 3
              have w01:Below w.heap.size w w1:=Below.trans (show Below w.heap.size w _ from bL) (b1.mono (by simp<;>omega)))
 refine bodyPost_ret (v:=.agg #[iv 19,iv 0,iv 0,iv 0]) (by simp [results,Tryz.results146,go_sem,s0,s1,s2,s3]) rfl ⟨rfl,?_⟩
 exact jca w01 (by omega)
theorem jsq (R g cap n i:Nat) (now keep:Int) (q:Ord) (r:Req) (w:World) (h9:w.cell? (aq R 9)=some (.slice (some (aq g 0)) n cap)) (h8:w.cell? (aq R 8)=some (iv now)) (h5:w.cell? (aq R 5)=some (iv keep)) (hi:i<n) (hq:jib w g i q) (hgw:g<w.heap.size)
 (hb:0<=now/\now<=4611686018427387904/\0<=q.ended/\q.ended<=4611686018427387904/\0<=q.units/\q.units<=4294967296/\0<=q.cents/\q.cents<=1073741824) (hs:q.state=12)
 (HF:Hid (∀ W,Below w.heap.size w W->Calls Tryz.prog 167 #[pt R 0,r.val] W fun e w'=>e=.returned (iv i)/\Below W.heap.size W w')) :
 Calls Tryz.prog 146 #[pt R 0,r.val] w fun e w'=>e=.returned (.agg #[iv (12),iv r.order,iv (0),iv (q.upto)])/\Below w.heap.size w w':=by
 obtain ⟨k,t,c,u,o⟩:=r
 obtain ⟨qcust,qunits,qstate,qcents,qupto,qended⟩:=q
 unfold Req.val at HF ⊢
 simp only at HF hb hs ⊢
 have hRw:R<w.heap.size:=World.block_lt_of_cell? w _ h9
 obtain ⟨e0,e1,e2,e3,e4,e5⟩:=hq
 simp only at e0 e1 e2 e3 e4 e5
 have b0:(0:Int)<=(i:Int):=by omega
 have b1':(i:Int)<(n:Int):=by omega
 have bn:decide ((i:Int)<0)=false:=by simp
 subst hs
 go_enter Tryz.func146,Tryz.ntmps146
 go_wp2_with (go_at_call 167;refine (HF.out _ bL).mono ?_;rintro e w1 ⟨rfl,b1⟩
              have hz1:w.heap.size+2<=w1.heap.size:=by have:=b1.size;simpa using this
              have n0:w1.heap[w.heap.size+1]?=some (.cells #[iv 0,iv 0,iv 0,iv 0] 42 (0,0)):=(b1.block _ (by simp)).trans (by
               have:=heap_alloc_new (w.alloc (.cells #[iv k,iv t,iv c,iv u,iv o] 46)) (.cells #[iv 0,iv 0,iv 0,iv 0] 42)
               rwa [show (w.alloc (.cells #[iv k,iv t,iv c,iv u,iv o] 46)).heap.size=w.heap.size+1 by simp] at this)
              obtain ⟨s0,s1,s2,s3⟩:=ja2 n0
              have f0:=ja0 n0 0
              have f1:=ja0 n0 1
              have f2:=ja0 n0 2
              have f3:=ja0 n0 3
              have w01:Below w.heap.size w w1:=Below.trans (show Below w.heap.size w _ from bL) (b1.mono (by simp<;>omega))
              have d9:=(w01.cell (p:=(aq R 9)) hRw).trans h9
              have d8:=(w01.cell (p:=(aq R 8)) hRw).trans h8
              have d5:=(w01.cell (p:=(aq R 5)) hRw).trans h5
              have q0:=(w01.cell (p:=(aq g (i * 6))) hgw).trans e0
              have q1:=(w01.cell (p:=(aq g (i * 6+1))) hgw).trans e1
              have q2:=(w01.cell (p:=(aq g (i * 6+2))) hgw).trans e2
              have q3:=(w01.cell (p:=(aq g (i * 6+3))) hgw).trans e3
              have q4:=(w01.cell (p:=(aq g (i * 6+4))) hgw).trans e4
              have q5:=(w01.cell (p:=(aq g (i * 6+5))) hgw).trans e5
              have qo:w1.cell? (aq w.heap.size 4)=some (iv o):=(b1.cell (p:=(aq w.heap.size 4)) (by simp<;>omega)).trans (by simp [go_sem])
              have hsz0:w.heap.size<w1.heap.size:=by omega
              have hsz1:w.heap.size+1<w1.heap.size:=by omega
              have hRw1:R<w1.heap.size:=by omega
              have hgw1:g<w1.heap.size:=by omega
              clear b1 n0 e0 e1 e2 e3 e4 e5 h9 h8 h5)
 refine bodyPost_ret (v:=.agg #[iv (12),iv (o),iv (0),iv (qupto)]) (by simp [results,Tryz.results146,go_sem,s0,s1,s2,s3,hsz1]) rfl ⟨rfl,?_⟩
 exact bL
theorem jvu (R g cap n i:Nat) (now keep:Int) (q:Ord) (r:Req) (w:World) (h9:w.cell? (aq R 9)=some (.slice (some (aq g 0)) n cap)) (h8:w.cell? (aq R 8)=some (iv now)) (h5:w.cell? (aq R 5)=some (iv keep)) (hi:i<n) (hq:jib w g i q) (hgw:g<w.heap.size)
 (hb:0<=now/\now<=4611686018427387904/\0<=q.ended/\q.ended<=4611686018427387904/\0<=q.units/\q.units<=4294967296/\0<=q.cents/\q.cents<=1073741824) (hs:q.state=13)
 (HF:Hid (∀ W,Below w.heap.size w W->Calls Tryz.prog 167 #[pt R 0,r.val] W fun e w'=>e=.returned (iv i)/\Below W.heap.size W w')) :
 Calls Tryz.prog 146 #[pt R 0,r.val] w fun e w'=>e=.returned (.agg #[iv (13),iv r.order,iv (q.cents),iv (q.upto)])/\Below w.heap.size w w':=by
 obtain ⟨k,t,c,u,o⟩:=r
 obtain ⟨qcust,qunits,qstate,qcents,qupto,qended⟩:=q
 unfold Req.val at HF ⊢
 simp only at HF hb hs ⊢
 have hRw:R<w.heap.size:=World.block_lt_of_cell? w _ h9
 obtain ⟨e0,e1,e2,e3,e4,e5⟩:=hq
 simp only at e0 e1 e2 e3 e4 e5
 have b0:(0:Int)<=(i:Int):=by omega
 have b1':(i:Int)<(n:Int):=by omega
 have bn:decide ((i:Int)<0)=false:=by simp
 subst hs
 go_enter Tryz.func146,Tryz.ntmps146
 go_wp2_with (go_at_call 167;refine (HF.out _ bL).mono ?_;rintro e w1 ⟨rfl,b1⟩
              have hz1:w.heap.size+2<=w1.heap.size:=by have:=b1.size;simpa using this
              have n0:w1.heap[w.heap.size+1]?=some (.cells #[iv 0,iv 0,iv 0,iv 0] 42 (0,0)):=(b1.block _ (by simp)).trans (by
               have:=heap_alloc_new (w.alloc (.cells #[iv k,iv t,iv c,iv u,iv o] 46)) (.cells #[iv 0,iv 0,iv 0,iv 0] 42)
               rwa [show (w.alloc (.cells #[iv k,iv t,iv c,iv u,iv o] 46)).heap.size=w.heap.size+1 by simp] at this)
              obtain ⟨s0,s1,s2,s3⟩:=ja2 n0
              have f0:=ja0 n0 0
              have f1:=ja0 n0 1
              have f2:=ja0 n0 2
              have f3:=ja0 n0 3
              have w01:Below w.heap.size w w1:=Below.trans (show Below w.heap.size w _ from bL) (b1.mono (by simp<;>omega))
              have d9:=(w01.cell (p:=(aq R 9)) hRw).trans h9
              have d8:=(w01.cell (p:=(aq R 8)) hRw).trans h8
              have d5:=(w01.cell (p:=(aq R 5)) hRw).trans h5
              have q0:=(w01.cell (p:=(aq g (i * 6))) hgw).trans e0
              have q1:=(w01.cell (p:=(aq g (i * 6+1))) hgw).trans e1
              have q2:=(w01.cell (p:=(aq g (i * 6+2))) hgw).trans e2
              have q3:=(w01.cell (p:=(aq g (i * 6+3))) hgw).trans e3
              have q4:=(w01.cell (p:=(aq g (i * 6+4))) hgw).trans e4
              have q5:=(w01.cell (p:=(aq g (i * 6+5))) hgw).trans e5
              have qo:w1.cell? (aq w.heap.size 4)=some (iv o):=(b1.cell (p:=(aq w.heap.size 4)) (by simp<;>omega)).trans (by simp [go_sem])
              have hsz0:w.heap.size<w1.heap.size:=by omega
              have hsz1:w.heap.size+1<w1.heap.size:=by omega
              have hRw1:R<w1.heap.size:=by omega
              have hgw1:g<w1.heap.size:=by omega
              clear b1 n0 e0 e1 e2 e3 e4 e5 h9 h8 h5)
 refine bodyPost_ret (v:=.agg #[iv (13),iv (o),iv (qcents),iv (qupto)]) (by simp [results,Tryz.results146,go_sem,s0,s1,s2,s3,hsz1]) rfl ⟨rfl,?_⟩
 exact bL
theorem jyo (R g cap n i:Nat) (now keep:Int) (q:Ord) (r:Req) (w:World) (h9:w.cell? (aq R 9)=some (.slice (some (aq g 0)) n cap)) (h8:w.cell? (aq R 8)=some (iv now)) (h5:w.cell? (aq R 5)=some (iv keep)) (hi:i<n) (hq:jib w g i q) (hgw:g<w.heap.size)
 (hb:0<=now/\now<=4611686018427387904/\0<=q.ended/\q.ended<=4611686018427387904/\0<=q.units/\q.units<=4294967296/\0<=q.cents/\q.cents<=1073741824) (hs:q.state≠12/\q.state≠13) (hk:keep<=now - q.ended)
 (HF:Hid (∀ W,Below w.heap.size w W->Calls Tryz.prog 167 #[pt R 0,r.val] W fun e w'=>e=.returned (iv i)/\Below W.heap.size W w')) :
 Calls Tryz.prog 146 #[pt R 0,r.val] w fun e w'=>e=.returned (.agg #[iv (19),iv (0),iv (0),iv (0)])/\Below w.heap.size w w':=by
 obtain ⟨k,t,c,u,o⟩:=r
 obtain ⟨qcust,qunits,qstate,qcents,qupto,qended⟩:=q
 unfold Req.val at HF ⊢
 simp only at HF hb hs hk ⊢
 have hRw:R<w.heap.size:=World.block_lt_of_cell? w _ h9
 obtain ⟨e0,e1,e2,e3,e4,e5⟩:=hq
 simp only at e0 e1 e2 e3 e4 e5
 have b0:(0:Int)<=(i:Int):=by omega
 have b1':(i:Int)<(n:Int):=by omega
 have bn:decide ((i:Int)<0)=false:=by simp
 have hw:IntKind.i64.wrap (now - qended)=now - qended:=jag (by omega) (by omega)
 have hs1:(qstate==12)=false:=by simpa using hs.1
 have hs2:(qstate==13)=false:=by simpa using hs.2
 go_enter Tryz.func146,Tryz.ntmps146
 go_wp2_with (go_at_call 167;refine (HF.out _ bL).mono ?_;rintro e w1 ⟨rfl,b1⟩
              have hz1:w.heap.size+2<=w1.heap.size:=by have:=b1.size;simpa using this
              have n0:w1.heap[w.heap.size+1]?=some (.cells #[iv 0,iv 0,iv 0,iv 0] 42 (0,0)):=(b1.block _ (by simp)).trans (by
               have:=heap_alloc_new (w.alloc (.cells #[iv k,iv t,iv c,iv u,iv o] 46)) (.cells #[iv 0,iv 0,iv 0,iv 0] 42)
               rwa [show (w.alloc (.cells #[iv k,iv t,iv c,iv u,iv o] 46)).heap.size=w.heap.size+1 by simp] at this)
              obtain ⟨s0,s1,s2,s3⟩:=ja2 n0
              have f0:=ja0 n0 0
              have f1:=ja0 n0 1
              have f2:=ja0 n0 2
              have f3:=ja0 n0 3
              have w01:Below w.heap.size w w1:=Below.trans (show Below w.heap.size w _ from bL) (b1.mono (by simp<;>omega))
              have d9:=(w01.cell (p:=(aq R 9)) hRw).trans h9
              have d8:=(w01.cell (p:=(aq R 8)) hRw).trans h8
              have d5:=(w01.cell (p:=(aq R 5)) hRw).trans h5
              have q0:=(w01.cell (p:=(aq g (i * 6))) hgw).trans e0
              have q1:=(w01.cell (p:=(aq g (i * 6+1))) hgw).trans e1
              have q2:=(w01.cell (p:=(aq g (i * 6+2))) hgw).trans e2
              have q3:=(w01.cell (p:=(aq g (i * 6+3))) hgw).trans e3
              have q4:=(w01.cell (p:=(aq g (i * 6+4))) hgw).trans e4
              have q5:=(w01.cell (p:=(aq g (i * 6+5))) hgw).trans e5
              have qo:w1.cell? (aq w.heap.size 4)=some (iv o):=(b1.cell (p:=(aq w.heap.size 4)) (by simp<;>omega)).trans (by simp [go_sem])
              have hsz0:w.heap.size<w1.heap.size:=by omega
              have hsz1:w.heap.size+1<w1.heap.size:=by omega
              have hRw1:R<w1.heap.size:=by omega
              have hgw1:g<w1.heap.size:=by omega
              clear b1 n0 e0 e1 e2 e3 e4 e5 h9 h8 h5)
 go_quiet (fail)
 go_wp2
 refine bodyPost_ret (v:=.agg #[iv (19),iv (0),iv (0),iv (0)]) (by simp [results,Tryz.results146,go_sem,s0,s1,s2,s3,hsz1]) rfl ⟨rfl,?_⟩
 exact bL
theorem jw6 (R g cap n i:Nat) (now keep:Int) (q:Ord) (r:Req) (w:World) (h9:w.cell? (aq R 9)=some (.slice (some (aq g 0)) n cap)) (h8:w.cell? (aq R 8)=some (iv now)) (h5:w.cell? (aq R 5)=some (iv keep)) (hi:i<n) (hq:jib w g i q) (hgw:g<w.heap.size)
 (hb:0<=now/\now<=4611686018427387904/\0<=q.ended/\q.ended<=4611686018427387904/\0<=q.units/\q.units<=4294967296/\0<=q.cents/\q.cents<=1073741824) (hs:q.state=14) (hk:¬ keep<=now - q.ended)
 (HF:Hid (∀ W,Below w.heap.size w W->Calls Tryz.prog 167 #[pt R 0,r.val] W fun e w'=>e=.returned (iv i)/\Below W.heap.size W w')) :
 Calls Tryz.prog 146 #[pt R 0,r.val] w fun e w'=>e=.returned (.agg #[iv (14),iv r.order,iv (q.units * q.cents),iv (0)])/\Below w.heap.size w w':=by
 obtain ⟨k,t,c,u,o⟩:=r
 obtain ⟨qcust,qunits,qstate,qcents,qupto,qended⟩:=q
 unfold Req.val at HF ⊢
 simp only at HF hb hs hk ⊢
 have hRw:R<w.heap.size:=World.block_lt_of_cell? w _ h9
 obtain ⟨e0,e1,e2,e3,e4,e5⟩:=hq
 simp only at e0 e1 e2 e3 e4 e5
 have b0:(0:Int)<=(i:Int):=by omega
 have b1':(i:Int)<(n:Int):=by omega
 have bn:decide ((i:Int)<0)=false:=by simp
 subst hs
 have hw:IntKind.i64.wrap (now - qended)=now - qended:=jag (by omega) (by omega)
 have hk':decide (keep<=now - qended)=false:=by simpa using hk
 have hm:0<=qunits * qcents/\qunits * qcents<=4611686018427387904:=⟨Int.mul_nonneg hb.2.2.2.2.1 hb.2.2.2.2.2.2.1,Int.le_trans (Int.mul_le_mul hb.2.2.2.2.2.1 hb.2.2.2.2.2.2.2 hb.2.2.2.2.2.2.1 (by omega)) (by omega)⟩
 go_enter Tryz.func146,Tryz.ntmps146
 go_wp2_with (go_at_call 167;refine (HF.out _ bL).mono ?_;rintro e w1 ⟨rfl,b1⟩
              have hz1:w.heap.size+2<=w1.heap.size:=by have:=b1.size;simpa using this
              have n0:w1.heap[w.heap.size+1]?=some (.cells #[iv 0,iv 0,iv 0,iv 0] 42 (0,0)):=(b1.block _ (by simp)).trans (by
               have:=heap_alloc_new (w.alloc (.cells #[iv k,iv t,iv c,iv u,iv o] 46)) (.cells #[iv 0,iv 0,iv 0,iv 0] 42)
               rwa [show (w.alloc (.cells #[iv k,iv t,iv c,iv u,iv o] 46)).heap.size=w.heap.size+1 by simp] at this)
              obtain ⟨s0,s1,s2,s3⟩:=ja2 n0
              have f0:=ja0 n0 0
              have f1:=ja0 n0 1
              have f2:=ja0 n0 2
              have f3:=ja0 n0 3
              have w01:Below w.heap.size w w1:=Below.trans (show Below w.heap.size w _ from bL) (b1.mono (by simp<;>omega))
              have d9:=(w01.cell (p:=(aq R 9)) hRw).trans h9
              have d8:=(w01.cell (p:=(aq R 8)) hRw).trans h8
              have d5:=(w01.cell (p:=(aq R 5)) hRw).trans h5
              have q0:=(w01.cell (p:=(aq g (i * 6))) hgw).trans e0
              have q1:=(w01.cell (p:=(aq g (i * 6+1))) hgw).trans e1
              have q2:=(w01.cell (p:=(aq g (i * 6+2))) hgw).trans e2
              have q3:=(w01.cell (p:=(aq g (i * 6+3))) hgw).trans e3
              have q4:=(w01.cell (p:=(aq g (i * 6+4))) hgw).trans e4
              have q5:=(w01.cell (p:=(aq g (i * 6+5))) hgw).trans e5
              have qo:w1.cell? (aq w.heap.size 4)=some (iv o):=(b1.cell (p:=(aq w.heap.size 4)) (by simp<;>omega)).trans (by simp [go_sem])
              have hsz0:w.heap.size<w1.heap.size:=by omega
              have hsz1:w.heap.size+1<w1.heap.size:=by omega
              have hRw1:R<w1.heap.size:=by omega
              have hgw1:g<w1.heap.size:=by omega
              clear b1 n0 e0 e1 e2 e3 e4 e5 h9 h8 h5)
 go_quiet (fail)
 go_wp2
 refine bodyPost_ret (v:=.agg #[iv (14),iv (o),iv (qunits * qcents),iv (0)]) (by simp [results,Tryz.results146,go_sem,s0,s1,s2,s3,hsz1]) rfl ⟨rfl,?_⟩
 exact bL
theorem jte (R g cap n i:Nat) (now keep:Int) (q:Ord) (r:Req) (w:World) (h9:w.cell? (aq R 9)=some (.slice (some (aq g 0)) n cap)) (h8:w.cell? (aq R 8)=some (iv now)) (h5:w.cell? (aq R 5)=some (iv keep)) (hi:i<n) (hq:jib w g i q) (hgw:g<w.heap.size)
 (hb:0<=now/\now<=4611686018427387904/\0<=q.ended/\q.ended<=4611686018427387904/\0<=q.units/\q.units<=4294967296/\0<=q.cents/\q.cents<=1073741824) (hs:q.state≠12/\q.state≠13) (h14:q.state≠14) (hk:¬ keep<=now - q.ended)
 (HF:Hid (∀ W,Below w.heap.size w W->Calls Tryz.prog 167 #[pt R 0,r.val] W fun e w'=>e=.returned (iv i)/\Below W.heap.size W w')) :
 Calls Tryz.prog 146 #[pt R 0,r.val] w fun e w'=>e=.returned (.agg #[iv (q.state),iv r.order,iv (0),iv (0)])/\Below w.heap.size w w':=by
 obtain ⟨k,t,c,u,o⟩:=r
 obtain ⟨qcust,qunits,qstate,qcents,qupto,qended⟩:=q
 unfold Req.val at HF ⊢
 simp only at HF hb hs hk h14 ⊢
 have hRw:R<w.heap.size:=World.block_lt_of_cell? w _ h9
 obtain ⟨e0,e1,e2,e3,e4,e5⟩:=hq
 simp only at e0 e1 e2 e3 e4 e5
 have b0:(0:Int)<=(i:Int):=by omega
 have b1':(i:Int)<(n:Int):=by omega
 have bn:decide ((i:Int)<0)=false:=by simp
 have hw:IntKind.i64.wrap (now - qended)=now - qended:=jag (by omega) (by omega)
 have hs1:(qstate==12)=false:=by simpa using hs.1
 have hs2:(qstate==13)=false:=by simpa using hs.2
 have hs3:(qstate==14)=false:=by simpa using h14
 have hk':decide (keep<=now - qended)=false:=by simpa using hk
 go_enter Tryz.func146,Tryz.ntmps146
 go_wp2_with (go_at_call 167;refine (HF.out _ bL).mono ?_;rintro e w1 ⟨rfl,b1⟩
              have hz1:w.heap.size+2<=w1.heap.size:=by have:=b1.size;simpa using this
              have n0:w1.heap[w.heap.size+1]?=some (.cells #[iv 0,iv 0,iv 0,iv 0] 42 (0,0)):=(b1.block _ (by simp)).trans (by
               have:=heap_alloc_new (w.alloc (.cells #[iv k,iv t,iv c,iv u,iv o] 46)) (.cells #[iv 0,iv 0,iv 0,iv 0] 42)
               rwa [show (w.alloc (.cells #[iv k,iv t,iv c,iv u,iv o] 46)).heap.size=w.heap.size+1 by simp] at this)
              obtain ⟨s0,s1,s2,s3⟩:=ja2 n0
              have f0:=ja0 n0 0
              have f1:=ja0 n0 1
              have f2:=ja0 n0 2
              have f3:=ja0 n0 3
              have w01:Below w.heap.size w w1:=Below.trans (show Below w.heap.size w _ from bL) (b1.mono (by simp<;>omega))
              have d9:=(w01.cell (p:=(aq R 9)) hRw).trans h9
              have d8:=(w01.cell (p:=(aq R 8)) hRw).trans h8
              have d5:=(w01.cell (p:=(aq R 5)) hRw).trans h5
              have q0:=(w01.cell (p:=(aq g (i * 6))) hgw).trans e0
              have q1:=(w01.cell (p:=(aq g (i * 6+1))) hgw).trans e1
              have q2:=(w01.cell (p:=(aq g (i * 6+2))) hgw).trans e2
              have q3:=(w01.cell (p:=(aq g (i * 6+3))) hgw).trans e3
              have q4:=(w01.cell (p:=(aq g (i * 6+4))) hgw).trans e4
              have q5:=(w01.cell (p:=(aq g (i * 6+5))) hgw).trans e5
              have qo:w1.cell? (aq w.heap.size 4)=some (iv o):=(b1.cell (p:=(aq w.heap.size 4)) (by simp<;>omega)).trans (by simp [go_sem])
              have hsz0:w.heap.size<w1.heap.size:=by omega
              have hsz1:w.heap.size+1<w1.heap.size:=by omega
              have hRw1:R<w1.heap.size:=by omega
              have hgw1:g<w1.heap.size:=by omega
              clear b1 n0 e0 e1 e2 e3 e4 e5 h9 h8 h5)
 go_quiet (fail)
 go_wp2
 refine bodyPost_ret (v:=.agg #[iv (qstate),iv (o),iv (0),iv (0)]) (by simp [results,Tryz.results146,go_sem,s0,s1,s2,s3,hsz1]) rfl ⟨rfl,?_⟩
 exact bL
end
end Go.Proofs.YtfhncfghblkgeaaGreat
