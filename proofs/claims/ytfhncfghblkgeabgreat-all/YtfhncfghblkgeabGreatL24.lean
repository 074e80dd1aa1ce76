import Derived.Test.YtfhncfghblkgeabGreatL23
set_option maxRecDepth 100000
set_option maxHeartbeats 2000000
namespace Go.Proofs.YtfhncfghblkgeabGreat
open Go.RowKit
section
structure Req where
 kind:Int
 token:Int
 cust:Int
 units:Int
 order:Int
def Req.val (r:Req):Value:=.agg #[iv r.kind,iv r.token,iv r.cust,iv r.units,iv r.order]
def Rep.val (r:Rep):Value:=.agg #[iv r.kind,iv r.order,iv r.cents,iv r.upto]
def oM (os:List Ord) (cust order:Int):Option Nat:=if order<=os.length/\(os.getD (order - 1).toNat qD).cust=cust then some (order - 1).toNat else none
def ZC:Option Nat->Int
 | some i=>i
 | none=>-1
theorem Vb {os:List Ord} {cust order:Int} {i:Nat} (ho:1<=order) (h:oM os cust order=some i):i<os.length/\order=i+1/\(os.getD i qD).cust=cust:=by
 unfold oM at h
 split at h
 ·next hc =>
  have h':=Option.some.inj h
  subst h'
  exact ⟨uO,uO,hc.2⟩
 ·simp at h
theorem Rs (R:Nat) (v:Value) (os:List Ord) (r:Req) (w:World) (h9:w.cell? (aq R 9)=some v) (hd:Xl w v os) (hl:os.length * 48<=140737488355328) (ho:1<=r.order/\r.order<=4294967296) :
 Ca 164 #[pt R 0,r.val] w fun e w'=>e=.returned (iv (ZC (oM os r.cust r.order)))/\Below w.heap.size w w':=by
 obtain ⟨a,cp,rfl,hc⟩:=hd
 have hRw:R<w.heap.size:=uC w _ h9
 obtain ⟨k,t,c,u,o⟩:=r
 simp only at ho
 unfold Req.val
 simp only
 by_cases hle:o<=os.length
 ·obtain ⟨m,rfl⟩:∃ m:Nat,o=(m:Int)+1:=⟨(o - 1).toNat,uO⟩
  have hm:m<os.length:=uO
  obtain ⟨g,rfl,hgw,hcell⟩:=hc uO
  obtain ⟨c0,_⟩:=hcell m hm
  have HF:Hid (oM os c ((m:Int)+1)=if (os.getD m qD).cust=c then some m else none):=by
   unfold Hid oM
   have e:((m:Int)+1 - 1).toNat=m:=uO
   rw [e]
   by_cases h:(os.getD m qD).cust=c
   ·rw [uQ ⟨uO,h⟩,uQ h]
   ·rw [uP (fun x=>h x.2),uP h]
  generalize (os.getD m qD).cust=oc at c0 HF
  have hgt:decide ((os.length:Int)<(m:Int)+1)=false:=by simp;omega
  have b0:(0:Int)<=(m:Int):=uO
  have b1:(m:Int)<(os.length:Int):=uO
  clear hcell hc
  have hw:IntKind.i64.wrap ((m:Int)+1 - 1)=(m:Int):=by rw [Int.add_sub_cancel];exact yA uO uO
  by_cases hcc:oc=c
  ·subst hcc
   go_enter Tryz.func164,Tryz.ntmps164
   go_wp2_with fail
   go_quiet (fail)
   go_wp2
   go_ret
   exact ⟨by have h1:=HF.out;simp only [if_true] at h1;rw [h1];rfl,bL⟩
  ·have hc1:(oc==c)=false:=by simpa using hcc
   go_enter Tryz.func164,Tryz.ntmps164
   go_wp2_with fail
   go_quiet (fail)
   go_wp2
   go_ret
   exact ⟨by rw [HF.out,uP hcc];rfl,bL⟩
 ·have HF:Hid (oM os c o=none):=by unfold Hid oM;rw [uP (fun x=>hle x.1)]
  have hgt:decide ((os.length:Int)<o)=true:=by simp;omega
  clear hc
  go_enter Tryz.func164,Tryz.ntmps164
  go_wp2_with fail
  go_quiet (fail)
  go_wp2
  go_ret
  exact ⟨by rw [HF.out];rfl,bL⟩
theorem qC {w:World} {R:Nat} {c0 c1 c2 c3:Value} {T:TypeId} (h:w.heap[R]?=some (.cells #[c0,c1,c2,c3] T)):w.cell? (aq R 0)=some c0/\w.cell? (aq R 1)=some c1/\w.cell? (aq R 2)=some c2/\w.cell? (aq R 3)=some c3 :=
 ⟨cB h,cB h,cB h,cB h⟩
theorem jM {w w2:World} {B b:Nat} {v0 v1 v2 v3:Value} (h:Below B w w2) (hb:B<=b):Below B w ((((w2.sc b 0 v0).sc b 1 v1).sc b 2 v2).sc b 3 v3) :=
 (((h.setCell (p:=(aq b 0)) hb _).setCell (p:=(aq b 1)) hb _).setCell (p:=(aq b 2)) hb _).setCell (p:=(aq b 3)) hb _
def Sal.poll (S:Sal) (r:Req):Rep:=match oM S.os r.cust r.order with
 | none=>{ ZF with kind:=19 }
 | some i =>
   if (S.os.getD i qD).state=12 then ⟨12,r.order,0,(S.os.getD i qD).upto⟩
   else if (S.os.getD i qD).state=13 then ⟨13,r.order,(S.os.getD i qD).cents,(S.os.getD i qD).upto⟩
   else if S.C.keep<=S.now - (S.os.getD i qD).ended then { ZF with kind:=19 }
   else if (S.os.getD i qD).state=14 then ⟨14,r.order,(S.os.getD i qD).units * (S.os.getD i qD).cents,0⟩
   else ⟨(S.os.getD i qD).state,r.order,0,0⟩
section
variable {w w':World} {B R:Nat} {S:Sal} {ap:Option Addr} {lp cp:Nat} {vo va:Value}
theorem bJ (h:saleAt w B R S ap lp cp vo va) (hl:S.os.length * 48+48<=140737488351232) (r:Req) (ho:1<=r.order/\r.order<=4294967296) :
 ∀ W,Below w.heap.size w W->Ca 164 #[pt R 0,r.val] W fun e w'=>e=.returned (iv (ZC (oM S.os r.cust r.order)))/\Below W.heap.size W w':=by
 intro W hW
 have h':=qL h hW
 exact Rs R vo S.os r W (cB h'.blk) (oJ h'.os) uO ho
end
theorem Fj (R:Nat) (r:Req) (w:World)
 (HF:Hid (∀ W,Below w.heap.size w W->Ca 164 #[pt R 0,r.val] W fun e w'=>e=.returned (iv (-1))/\Below W.heap.size W w')) :
 Ca 143 #[pt R 0,r.val] w fun e w'=>e=.returned (.agg #[iv 19,iv 0,iv 0,iv 0])/\Below w.heap.size w w':=by
 obtain ⟨k,t,c,u,o⟩:=r
 unfold Req.val at HF ⊢
 simp only at HF ⊢
 go_enter Tryz.func143,Tryz.ntmps143
 go_wp2_with (go_at_call 164;refine (HF.out _ bL).mono ?_;rintro e w1 ⟨rfl,b1⟩
              have hz1:w.heap.size+2<=w1.heap.size:=by have:=b1.size;simpa using this
              have n0:=(b1.block _ vS).trans (zq2 w #[iv k,iv t,iv c,iv u,iv o] 39 #[iv 0,iv 0,iv 0,iv 0] 33).out
              obtain ⟨s0,s1,s2,s3⟩:=qC n0
              have f0:=qA n0 0
              have f1:=qA n0 1
              have f2:=qA n0 2
              have f3:=qA n0 3
              have w01:Bl w w1:=uL (show Below w.heap.size w _ from bL) (b1.mono uS))
 refine uK (v:=.agg #[iv 19,iv 0,iv 0,iv 0]) (by simp [results,Tryz.results143,go_sem,s0,s1,s2,s3]) rfl ⟨rfl,?_⟩
 exact jM w01 uO
theorem Vz (R g cap n i:Nat) (now keep:Int) (q:Ord) (r:Req) (w:World) (h9:w.cell? (aq R 9)=some (.slice (some (aq g 0)) n cap)) (h8:w.cell? (aq R 8)=some (iv now)) (h5:w.cell? (aq R 5)=some (iv keep)) (hi:i<n) (hq:nG w g i q) (hgw:g<w.heap.size)
 (hb:0<=now/\now<=4611686018427387904/\0<=q.ended/\q.ended<=4611686018427387904/\0<=q.units/\q.units<=4294967296/\0<=q.cents/\q.cents<=1073741824) (hs:q.state=12)
 (HF:Hid (∀ W,Below w.heap.size w W->Ca 164 #[pt R 0,r.val] W fun e w'=>e=.returned (iv i)/\Below W.heap.size W w')) :
 Ca 143 #[pt R 0,r.val] w fun e w'=>e=.returned (.agg #[iv (12),iv r.order,iv (0),iv (q.upto)])/\Below w.heap.size w w':=by
 obtain ⟨k,t,c,u,o⟩:=r
 obtain ⟨qcust,qunits,qstate,qcents,qupto,qended⟩:=q
 unfold Req.val at HF ⊢
 simp only at HF hb hs ⊢
 have hRw:R<w.heap.size:=uC w _ h9
 obtain ⟨e0,e1,e2,e3,e4,e5⟩:=hq
 simp only at e0 e1 e2 e3 e4 e5
 have b0:(0:Int)<=(i:Int):=uO
 have b1':(i:Int)<(n:Int):=uO
 have bn:decide ((i:Int)<0)=false:=by simp
 subst hs
 go_enter Tryz.func143,Tryz.ntmps143
 go_wp2_with (go_at_call 164;refine (HF.out _ bL).mono ?_;rintro e w1 ⟨rfl,b1⟩
              have hz1:w.heap.size+2<=w1.heap.size:=by have:=b1.size;simpa using this
              have n0:=(b1.block _ vS).trans (zq2 w #[iv k,iv t,iv c,iv u,iv o] 39 #[iv 0,iv 0,iv 0,iv 0] 33).out
              obtain ⟨s0,s1,s2,s3⟩:=qC n0
              have f0:=qA n0 0
              have f1:=qA n0 1
              have f2:=qA n0 2
              have f3:=qA n0 3
              have w01:Below w.heap.size w w1:=uL (show Below w.heap.size w _ from bL) (b1.mono uS)
              have d9:=(w01.cell (p:=(aq R 9)) hRw).trans h9
              have d8:=(w01.cell (p:=(aq R 8)) hRw).trans h8
              have d5:=(w01.cell (p:=(aq R 5)) hRw).trans h5
              have q0:=(w01.cell (p:=(aq g (i * 6))) hgw).trans e0
              have q1:=(w01.cell (p:=(aq g (i * 6+1))) hgw).trans e1
              have q2:=(w01.cell (p:=(aq g (i * 6+2))) hgw).trans e2
              have q3:=(w01.cell (p:=(aq g (i * 6+3))) hgw).trans e3
              have q4:=(w01.cell (p:=(aq g (i * 6+4))) hgw).trans e4
              have q5:=(w01.cell (p:=(aq g (i * 6+5))) hgw).trans e5
              have qo:w1.cell? (aq w.heap.size 4)=some (iv o):=(b1.cell (p:=(aq w.heap.size 4)) uS).trans uU
              have hsz0:w.heap.size<w1.heap.size:=uO
              have hsz1:w.heap.size+1<w1.heap.size:=uO
              have hRw1:R<w1.heap.size:=uO
              have hgw1:g<w1.heap.size:=uO
              clear b1 n0 e0 e1 e2 e3 e4 e5 h9 h8 h5)
 refine uK (v:=.agg #[iv (12),iv (o),iv (0),iv (qupto)]) (by simp [results,Tryz.results143,go_sem,s0,s1,s2,s3,hsz1]) rfl ⟨rfl,?_⟩
 exact bL
theorem Fp (R g cap n i:Nat) (now keep:Int) (q:Ord) (r:Req) (w:World) (h9:w.cell? (aq R 9)=some (.slice (some (aq g 0)) n cap)) (h8:w.cell? (aq R 8)=some (iv now)) (h5:w.cell? (aq R 5)=some (iv keep)) (hi:i<n) (hq:nG w g i q) (hgw:g<w.heap.size)
 (hb:0<=now/\now<=4611686018427387904/\0<=q.ended/\q.ended<=4611686018427387904/\0<=q.units/\q.units<=4294967296/\0<=q.cents/\q.cents<=1073741824) (hs:q.state=13)
 (HF:Hid (∀ W,Below w.heap.size w W->Ca 164 #[pt R 0,r.val] W fun e w'=>e=.returned (iv i)/\Below W.heap.size W w')) :
 Ca 143 #[pt R 0,r.val] w fun e w'=>e=.returned (.agg #[iv (13),iv r.order,iv (q.cents),iv (q.upto)])/\Below w.heap.size w w':=by
 obtain ⟨k,t,c,u,o⟩:=r
 obtain ⟨qcust,qunits,qstate,qcents,qupto,qended⟩:=q
 unfold Req.val at HF ⊢
 simp only at HF hb hs ⊢
 have hRw:R<w.heap.size:=uC w _ h9
 obtain ⟨e0,e1,e2,e3,e4,e5⟩:=hq
 simp only at e0 e1 e2 e3 e4 e5
 have b0:(0:Int)<=(i:Int):=uO
 have b1':(i:Int)<(n:Int):=uO
 have bn:decide ((i:Int)<0)=false:=by simp
 subst hs
 go_enter Tryz.func143,Tryz.ntmps143
 go_wp2_with (go_at_call 164;refine (HF.out _ bL).mono ?_;rintro e w1 ⟨rfl,b1⟩
              have hz1:w.heap.size+2<=w1.heap.size:=by have:=b1.size;simpa using this
              have n0:=(b1.block _ vS).trans (zq2 w #[iv k,iv t,iv c,iv u,iv o] 39 #[iv 0,iv 0,iv 0,iv 0] 33).out
              obtain ⟨s0,s1,s2,s3⟩:=qC n0
              have f0:=qA n0 0
              have f1:=qA n0 1
              have f2:=qA n0 2
              have f3:=qA n0 3
              have w01:Below w.heap.size w w1:=uL (show Below w.heap.size w _ from bL) (b1.mono uS)
              have d9:=(w01.cell (p:=(aq R 9)) hRw).trans h9
              have d8:=(w01.cell (p:=(aq R 8)) hRw).trans h8
              have d5:=(w01.cell (p:=(aq R 5)) hRw).trans h5
              have q0:=(w01.cell (p:=(aq g (i * 6))) hgw).trans e0
              have q1:=(w01.cell (p:=(aq g (i * 6+1))) hgw).trans e1
              have q2:=(w01.cell (p:=(aq g (i * 6+2))) hgw).trans e2
              have q3:=(w01.cell (p:=(aq g (i * 6+3))) hgw).trans e3
              have q4:=(w01.cell (p:=(aq g (i * 6+4))) hgw).trans e4
              have q5:=(w01.cell (p:=(aq g (i * 6+5))) hgw).trans e5
              have qo:w1.cell? (aq w.heap.size 4)=some (iv o):=(b1.cell (p:=(aq w.heap.size 4)) uS).trans uU
              have hsz0:w.heap.size<w1.heap.size:=uO
              have hsz1:w.heap.size+1<w1.heap.size:=uO
              have hRw1:R<w1.heap.size:=uO
              have hgw1:g<w1.heap.size:=uO
              clear b1 n0 e0 e1 e2 e3 e4 e5 h9 h8 h5)
 refine uK (v:=.agg #[iv (13),iv (o),iv (qcents),iv (qupto)]) (by simp [results,Tryz.results143,go_sem,s0,s1,s2,s3,hsz1]) rfl ⟨rfl,?_⟩
 exact bL
theorem Mi (R g cap n i:Nat) (now keep:Int) (q:Ord) (r:Req) (w:World) (h9:w.cell? (aq R 9)=some (.slice (some (aq g 0)) n cap)) (h8:w.cell? (aq R 8)=some (iv now)) (h5:w.cell? (aq R 5)=some (iv keep)) (hi:i<n) (hq:nG w g i q) (hgw:g<w.heap.size)
 (hb:0<=now/\now<=4611686018427387904/\0<=q.ended/\q.ended<=4611686018427387904/\0<=q.units/\q.units<=4294967296/\0<=q.cents/\q.cents<=1073741824) (hs:q.state≠12/\q.state≠13) (hk:keep<=now - q.ended)
 (HF:Hid (∀ W,Below w.heap.size w W->Ca 164 #[pt R 0,r.val] W fun e w'=>e=.returned (iv i)/\Below W.heap.size W w')) :
 Ca 143 #[pt R 0,r.val] w fun e w'=>e=.returned (.agg #[iv (19),iv (0),iv (0),iv (0)])/\Below w.heap.size w w':=by
 obtain ⟨k,t,c,u,o⟩:=r
 obtain ⟨qcust,qunits,qstate,qcents,qupto,qended⟩:=q
 unfold Req.val at HF ⊢
 simp only at HF hb hs hk ⊢
 have hRw:R<w.heap.size:=uC w _ h9
 obtain ⟨e0,e1,e2,e3,e4,e5⟩:=hq
 simp only at e0 e1 e2 e3 e4 e5
 have b0:(0:Int)<=(i:Int):=uO
 have b1':(i:Int)<(n:Int):=uO
 have bn:decide ((i:Int)<0)=false:=by simp
 have hw:IntKind.i64.wrap (now - qended)=now - qended:=yA uO uO
 have hs1:(qstate==12)=false:=by simpa using hs.1
 have hs2:(qstate==13)=false:=by simpa using hs.2
 go_enter Tryz.func143,Tryz.ntmps143
 go_wp2_with (go_at_call 164;refine (HF.out _ bL).mono ?_;rintro e w1 ⟨rfl,b1⟩
              have hz1:w.heap.size+2<=w1.heap.size:=by have:=b1.size;simpa using this
              have n0:=(b1.block _ vS).trans (zq2 w #[iv k,iv t,iv c,iv u,iv o] 39 #[iv 0,iv 0,iv 0,iv 0] 33).out
              obtain ⟨s0,s1,s2,s3⟩:=qC n0
              have f0:=qA n0 0
              have f1:=qA n0 1
              have f2:=qA n0 2
              have f3:=qA n0 3
              have w01:Bl w w1:=uL (show Below w.heap.size w _ from bL) (b1.mono uS)
              have d9:=(w01.cell (p:=(aq R 9)) hRw).trans h9
              have d8:=(w01.cell (p:=(aq R 8)) hRw).trans h8
              have d5:=(w01.cell (p:=(aq R 5)) hRw).trans h5
              have q0:=(w01.cell (p:=(aq g (i * 6))) hgw).trans e0
              have q1:=(w01.cell (p:=(aq g (i * 6+1))) hgw).trans e1
              have q2:=(w01.cell (p:=(aq g (i * 6+2))) hgw).trans e2
              have q3:=(w01.cell (p:=(aq g (i * 6+3))) hgw).trans e3
              have q4:=(w01.cell (p:=(aq g (i * 6+4))) hgw).trans e4
              have q5:=(w01.cell (p:=(aq g (i * 6+5))) hgw).trans e5
              have qo:w1.cell? (aq w.heap.size 4)=some (iv o):=(b1.cell (p:=(aq w.heap.size 4)) uS).trans uU
              have hsz0:w.heap.size<w1.heap.size:=uO
              have hsz1:w.heap.size+1<w1.heap.size:=uO
              have hRw1:R<w1.heap.size:=uO
              have hgw1:g<w1.heap.size:=uO
              clear b1 n0 e0 e1 e2 e3 e4 e5 h9 h8 h5)
 go_quiet (fail)
 go_wp2
 refine uK (v:=.agg #[iv (19),iv (0),iv (0),iv (0)]) (by simp [results,Tryz.results143,go_sem,s0,s1,s2,s3,hsz1]) rfl ⟨rfl,?_⟩
 exact bL
theorem Dv (R g cap n i:Nat) (now keep:Int) (q:Ord) (r:Req) (w:World) (h9:w.cell? (aq R 9)=some (.slice (some (aq g 0)) n cap)) (h8:w.cell? (aq R 8)=some (iv now)) (h5:w.cell? (aq R 5)=some (iv keep)) (hi:i<n) (hq:nG w g i q) (hgw:g<w.heap.size)
 (hb:0<=now/\now<=4611686018427387904/\0<=q.ended/\q.ended<=4611686018427387904/\0<=q.units/\q.units<=4294967296/\0<=q.cents/\q.cents<=1073741824) (hs:q.state=14) (hk:¬ keep<=now - q.ended)
 (HF:Hid (∀ W,Below w.heap.size w W->Ca 164 #[pt R 0,r.val] W fun e w'=>e=.returned (iv i)/\Below W.heap.size W w')) :
 Ca 143 #[pt R 0,r.val] w fun e w'=>e=.returned (.agg #[iv (14),iv r.order,iv (q.units * q.cents),iv (0)])/\Below w.heap.size w w':=by
 obtain ⟨k,t,c,u,o⟩:=r
 obtain ⟨qcust,qunits,qstate,qcents,qupto,qended⟩:=q
 unfold Req.val at HF ⊢
 simp only at HF hb hs hk ⊢
 have hRw:R<w.heap.size:=uC w _ h9
 obtain ⟨e0,e1,e2,e3,e4,e5⟩:=hq
 simp only at e0 e1 e2 e3 e4 e5
 have b0:(0:Int)<=(i:Int):=uO
 have b1':(i:Int)<(n:Int):=uO
 have bn:decide ((i:Int)<0)=false:=by simp
 subst hs
 have hw:IntKind.i64.wrap (now - qended)=now - qended:=yA uO uO
 have hk':decide (keep<=now - qended)=false:=by simpa using hk
 have hm:0<=qunits * qcents/\qunits * qcents<=4611686018427387904:=⟨Int.mul_nonneg hb.2.2.2.2.1 hb.2.2.2.2.2.2.1,Int.le_trans (Int.mul_le_mul hb.2.2.2.2.2.1 hb.2.2.2.2.2.2.2 hb.2.2.2.2.2.2.1 uO) uO⟩
 go_enter Tryz.func143,Tryz.ntmps143
 go_wp2_with (go_at_call 164;refine (HF.out _ bL).mono ?_;rintro e w1 ⟨rfl,b1⟩
              have hz1:w.heap.size+2<=w1.heap.size:=by have:=b1.size;simpa using this
              have n0:=(b1.block _ vS).trans (zq2 w #[iv k,iv t,iv c,iv u,iv o] 39 #[iv 0,iv 0,iv 0,iv 0] 33).out
              obtain ⟨s0,s1,s2,s3⟩:=qC n0
              have f0:=qA n0 0
              have f1:=qA n0 1
              have f2:=qA n0 2
              have f3:=qA n0 3
              have w01:Below w.heap.size w w1:=uL (show Below w.heap.size w _ from bL) (b1.mono uS)
              have d9:=(w01.cell (p:=(aq R 9)) hRw).trans h9
              have d8:=(w01.cell (p:=(aq R 8)) hRw).trans h8
              have d5:=(w01.cell (p:=(aq R 5)) hRw).trans h5
              have q0:=(w01.cell (p:=(aq g (i * 6))) hgw).trans e0
              have q1:=(w01.cell (p:=(aq g (i * 6+1))) hgw).trans e1
              have q2:=(w01.cell (p:=(aq g (i * 6+2))) hgw).trans e2
              have q3:=(w01.cell (p:=(aq g (i * 6+3))) hgw).trans e3
              have q4:=(w01.cell (p:=(aq g (i * 6+4))) hgw).trans e4
              have q5:=(w01.cell (p:=(aq g (i * 6+5))) hgw).trans e5
              have qo:w1.cell? (aq w.heap.size 4)=some (iv o):=(b1.cell (p:=(aq w.heap.size 4)) uS).trans uU
              have hsz0:w.heap.size<w1.heap.size:=uO
              have hsz1:w.heap.size+1<w1.heap.size:=uO
              have hRw1:R<w1.heap.size:=uO
              have hgw1:g<w1.heap.size:=uO
              clear b1 n0 e0 e1 e2 e3 e4 e5 h9 h8 h5)
 go_quiet (fail)
 go_wp2
 refine uK (v:=.agg #[iv (14),iv (o),iv (qunits * qcents),iv (0)]) (by simp [results,Tryz.results143,go_sem,s0,s1,s2,s3,hsz1]) rfl ⟨rfl,?_⟩
 exact bL
theorem Vt (R g cap n i:Nat) (now keep:Int) (q:Ord) (r:Req) (w:World) (h9:w.cell? (aq R 9)=some (.slice (some (aq g 0)) n cap)) (h8:w.cell? (aq R 8)=some (iv now)) (h5:w.cell? (aq R 5)=some (iv keep)) (hi:i<n) (hq:nG w g i q) (hgw:g<w.heap.size)
 (hb:0<=now/\now<=4611686018427387904/\0<=q.ended/\q.ended<=4611686018427387904/\0<=q.units/\q.units<=4294967296/\0<=q.cents/\q.cents<=1073741824) (hs:q.state≠12/\q.state≠13) (h14:q.state≠14) (hk:¬ keep<=now - q.ended)
 (HF:Hid (∀ W,Below w.heap.size w W->Ca 164 #[pt R 0,r.val] W fun e w'=>e=.returned (iv i)/\Below W.heap.size W w')) :
 Ca 143 #[pt R 0,r.val] w fun e w'=>e=.returned (.agg #[iv (q.state),iv r.order,iv (0),iv (0)])/\Below w.heap.size w w':=by
 obtain ⟨k,t,c,u,o⟩:=r
 obtain ⟨qcust,qunits,qstate,qcents,qupto,qended⟩:=q
 unfold Req.val at HF ⊢
 simp only at HF hb hs hk h14 ⊢
 have hRw:R<w.heap.size:=uC w _ h9
 obtain ⟨e0,e1,e2,e3,e4,e5⟩:=hq
 simp only at e0 e1 e2 e3 e4 e5
 have b0:(0:Int)<=(i:Int):=uO
 have b1':(i:Int)<(n:Int):=uO
 have bn:decide ((i:Int)<0)=false:=by simp
 have hw:IntKind.i64.wrap (now - qended)=now - qended:=yA uO uO
 have hs1:(qstate==12)=false:=by simpa using hs.1
 have hs2:(qstate==13)=false:=by simpa using hs.2
 have hs3:(qstate==14)=false:=by simpa using h14
 have hk':decide (keep<=now - qended)=false:=by simpa using hk
 go_enter Tryz.func143,Tryz.ntmps143
 go_wp2_with (go_at_call 164;refine (HF.out _ bL).mono ?_;rintro e w1 ⟨rfl,b1⟩
              have hz1:w.heap.size+2<=w1.heap.size:=by have:=b1.size;simpa using this
              have n0:=(b1.block _ vS).trans (zq2 w #[iv k,iv t,iv c,iv u,iv o] 39 #[iv 0,iv 0,iv 0,iv 0] 33).out
              obtain ⟨s0,s1,s2,s3⟩:=qC n0
              have f0:=qA n0 0
              have f1:=qA n0 1
              have f2:=qA n0 2
              have f3:=qA n0 3
              have w01:Bl w w1:=uL (show Below w.heap.size w _ from bL) (b1.mono uS)
              have d9:=(w01.cell (p:=(aq R 9)) hRw).trans h9
              have d8:=(w01.cell (p:=(aq R 8)) hRw).trans h8
              have d5:=(w01.cell (p:=(aq R 5)) hRw).trans h5
              have q0:=(w01.cell (p:=(aq g (i * 6))) hgw).trans e0
              have q1:=(w01.cell (p:=(aq g (i * 6+1))) hgw).trans e1
              have q2:=(w01.cell (p:=(aq g (i * 6+2))) hgw).trans e2
              have q3:=(w01.cell (p:=(aq g (i * 6+3))) hgw).trans e3
              have q4:=(w01.cell (p:=(aq g (i * 6+4))) hgw).trans e4
              have q5:=(w01.cell (p:=(aq g (i * 6+5))) hgw).trans e5
              have qo:w1.cell? (aq w.heap.size 4)=some (iv o):=(b1.cell (p:=(aq w.heap.size 4)) uS).trans uU
              have hsz0:w.heap.size<w1.heap.size:=uO
              have hsz1:w.heap.size+1<w1.heap.size:=uO
              have hRw1:R<w1.heap.size:=uO
              have hgw1:g<w1.heap.size:=uO
              clear b1 n0 e0 e1 e2 e3 e4 e5 h9 h8 h5)
 go_quiet (fail)
 go_wp2
 refine uK (v:=.agg #[iv (qstate),iv (o),iv (0),iv (0)]) (by simp [results,Tryz.results143,go_sem,s0,s1,s2,s3,hsz1]) rfl ⟨rfl,?_⟩
 exact bL
end
