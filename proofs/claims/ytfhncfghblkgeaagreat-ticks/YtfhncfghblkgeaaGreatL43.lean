import Derived.Test.YtfhncfghblkgeaaGreatL34
import Derived.Test.YtfhncfghblkgeaaGreatL41
import Derived.Test.YtfhncfghblkgeaaGreatL42
set_option maxRecDepth 100000
set_option maxHeartbeats 2000000
namespace Go.Proofs.YtfhncfghblkgeaaGreat
open Go.RowKit
theorem qc7 (x:Nat) (ba:Option Addr) (bl bc:Nat) (k t c u o er:Int) (w:World) (he:(er != 0)=true)
 (HU:Hid (∀ W,Below w.heap.size w W->Calls Tryz.prog 62 #[.slice ba bl bc] W fun e w'=>e=.returned (.tuple #[.agg #[iv k,iv t,iv c,iv u,iv o],iv er])/\Below W.heap.size W w')) :
 Calls Tryz.prog 33 #[pt x 0,.slice ba bl bc] w fun e w'=>e=.returned (.agg #[iv 1,iv 0,iv 0,iv 0])/\Below w.heap.size w w':=by
 go_enter Tryz.func33,Tryz.ntmps33
 have rb0:Hid ((w.alloc (.cells #[iv 0,iv 0,iv 0,iv 0] 42)).heap[w.heap.size]?=some (.cells #[iv 0,iv 0,iv 0,iv 0] 42 (0,0))):=heap_alloc_new w _
 have hbl:Hid (Below w.heap.size w (w.alloc (.cells #[iv 0,iv 0,iv 0,iv 0] 42))):=(Below.refl _ _).alloc (Nat.le_refl _) _
 go_wp2_with fail
 generalize w.alloc (.cells #[iv 0,iv 0,iv 0,iv 0] 42)=W0 at rb0 hbl ⊢
 refine (HU.out _ hbl.out).mono ?_
 rintro e W1 ⟨rfl,b1⟩
 have lr0:w.heap.size<W0.heap.size:=(blt rb0.out)
 have hb1:Hid (Below w.heap.size w W1):=Below.trans hbl.out (b1.mono hbl.out.size)
 have rb1:Hid _:=(b1.block _ lr0).trans rb0.out
 have lr1:w.heap.size<W1.heap.size:=(blt rb1.out)
 clear b1 lr0 rb0 hbl HU
 obtain ⟨s0,s1,s2,s3⟩:=ja2 rb1.out
 have f0:=ja0 rb1.out 0
 have f1:=ja0 rb1.out 1
 have f2:=ja0 rb1.out 2
 have f3:=ja0 rb1.out 3
 go_wp2
 refine bodyPost_ret (v:=.agg #[iv 1,iv 0,iv 0,iv 0]) (by simp [results,Tryz.results33,go_sem,s0,s1,s2,s3,lr1]) rfl ⟨rfl,?_⟩
 exact jie hb1.out (Nat.le_refl _) (by omega)
theorem qao (x:Nat) (ba:Option Addr) (bl bc:Nat) (t c u o a0 a1 a2 a3:Int) (w:World)
 (HU:Hid (∀ W,Below w.heap.size w W->Calls Tryz.prog 62 #[.slice ba bl bc] W fun e w'=>e=.returned (.tuple #[.agg #[iv 4,iv t,iv c,iv u,iv o],iv 0])/\Below W.heap.size W w'))
 (HP:Hid (∀ W,Below w.heap.size w W->Calls Tryz.prog 63 #[pt x 0,.agg #[iv 4,iv t,iv c,iv u,iv o]] W fun e w'=>e=.returned (.agg #[iv a0,iv a1,iv a2,iv a3])/\Below W.heap.size W w')) :
 Calls Tryz.prog 33 #[pt x 0,.slice ba bl bc] w fun e w'=>e=.returned (.agg #[iv a0,iv a1,iv a2,iv a3])/\Below w.heap.size w w':=by
 go_enter Tryz.func33,Tryz.ntmps33
 have rb0:Hid ((w.alloc (.cells #[iv 0,iv 0,iv 0,iv 0] 42)).heap[w.heap.size]?=some (.cells #[iv 0,iv 0,iv 0,iv 0] 42 (0,0))):=heap_alloc_new w _
 have hbl:Hid (Below w.heap.size w (w.alloc (.cells #[iv 0,iv 0,iv 0,iv 0] 42))):=(Below.refl _ _).alloc (Nat.le_refl _) _
 go_wp2_with fail
 generalize w.alloc (.cells #[iv 0,iv 0,iv 0,iv 0] 42)=W0 at rb0 hbl ⊢
 refine (HU.out _ hbl.out).mono ?_
 rintro e W1 ⟨rfl,b1⟩
 have lr0:w.heap.size<W0.heap.size:=(blt rb0.out)
 have hb1:Hid (Below w.heap.size w W1):=Below.trans hbl.out (b1.mono hbl.out.size)
 have rb1:Hid _:=(b1.block _ lr0).trans rb0.out
 have lr1:w.heap.size<W1.heap.size:=(blt rb1.out)
 clear b1 lr0 rb0 hbl HU
 go_wp2_with fail
 refine (HP.out _ (hb1.out.alloc (by omega) _)).mono ?_
 rintro e W2 ⟨rfl,b2⟩
 have hb2:Hid (Below w.heap.size w W2):=Below.trans (hb1.out.alloc (by omega) _) (b2.mono (by simp;omega))
 have rb2:Hid (W2.heap[w.heap.size]?=some (.cells #[iv 0,iv 0,iv 0,iv 0] 42 (0,0))):=(b2.block _ (by simp;omega)).trans ((Below.heap_alloc _ _ _ lr1).trans rb1.out)
 have lr2:w.heap.size<W2.heap.size:=(blt rb2.out)
 clear b2 rb1 hb1 lr1 HP
 obtain ⟨s0,s1,s2,s3⟩:=ja2 rb2.out
 have f0:=ja0 rb2.out 0
 have f1:=ja0 rb2.out 1
 have f2:=ja0 rb2.out 2
 have f3:=ja0 rb2.out 3
 go_wp2
 refine bodyPost_ret (v:=.agg #[iv a0,iv a1,iv a2,iv a3]) (by simp [results,Tryz.results33,go_sem,s0,s1,s2,s3]) rfl ⟨rfl,?_⟩
 exact jca hb2.out (Nat.le_refl _)
theorem jzr (x:Nat) (own:Nat->Prop) (P0 P1:World->(Nat->Prop)->Prop) (K0:Keeps P0) (K1:Keeps P1) (ba:Option Addr) (bl bc:Nat) (k t c u o a0 a1 a2 a3:Int) (w:World) (hk4:(k==4)=false) (hw:∀ k,own k->k<w.heap.size) (h:P0 w own)
 (HU:Hid (∀ W,Below w.heap.size w W->Calls Tryz.prog 62 #[.slice ba bl bc] W fun e w'=>e=.returned (.tuple #[.agg #[iv k,iv t,iv c,iv u,iv o],iv 0])/\Below W.heap.size W w'))
 (HA:Hid (jck w own P0 P1 64 #[pt x 0,.agg #[iv k,iv t,iv c,iv u,iv o]] (.agg #[iv a0,iv a1,iv a2,iv a3]))) :
 Calls Tryz.prog 33 #[pt x 0,.slice ba bl bc] w fun e w'=>e=.returned (.agg #[iv a0,iv a1,iv a2,iv a3])/\jbq P1 w w' own:=by
 have HST:Hid (∀ W,Below w.heap.size w W->w.heap.size<W.heap.size->jal P0 w own (fun j=>j=w.heap.size) W):=fun W hb hz=>jat K0 h hb (fun j e=>by subst e;omega)
 replace hw:Hid _:=hw
 clear h
 go_enter Tryz.func33,Tryz.ntmps33
 have rb0:Hid ((w.alloc (.cells #[iv 0,iv 0,iv 0,iv 0] 42)).heap[w.heap.size]?=some (.cells #[iv 0,iv 0,iv 0,iv 0] 42 (0,0))):=heap_alloc_new w _
 have hbl:Hid (Below w.heap.size w (w.alloc (.cells #[iv 0,iv 0,iv 0,iv 0] 42))):=(Below.refl _ _).alloc (Nat.le_refl _) _
 go_wp2_with fail
 generalize w.alloc (.cells #[iv 0,iv 0,iv 0,iv 0] 42)=W0 at rb0 hbl ⊢
 refine (HU.out _ hbl.out).mono ?_
 rintro e W1 ⟨rfl,b1⟩
 have lr0:w.heap.size<W0.heap.size:=(blt rb0.out)
 have hb1:Hid (Below w.heap.size w W1):=Below.trans hbl.out (b1.mono hbl.out.size)
 have rb1:Hid _:=(b1.block _ lr0).trans rb0.out
 have lr1:w.heap.size<W1.heap.size:=(blt rb1.out)
 clear b1 lr0 rb0 hbl HU
 go_wp2_with fail
 refine (HA.out _ _ (HST.out _ (hb1.out.alloc (by omega) _) (by simp;omega))).mono ?_
 rintro e W2 ⟨rfl,hT2,hk⟩
 have rb2:Hid (W2.heap[w.heap.size]?=some (.cells #[iv 0,iv 0,iv 0,iv 0] 42 (0,0))):=(hk _ rfl).trans ((Below.heap_alloc _ _ _ lr1).trans rb1.out)
 have lr2:w.heap.size<W2.heap.size:=(blt rb2.out)
 have HE:Hid (∀ v0 v1 v2 v3,jbq P1 w ((((W2.setCell (aq w.heap.size 0) v0).setCell (aq w.heap.size 1) v1).setCell (aq w.heap.size 2) v2).setCell (aq w.heap.size 3) v3) own):=fun v0 v1 v2 v3=>jbe (jbu K1 hT2 hw.out rfl v0 v1 v2 v3)
 clear hk hT2 rb1 hb1 lr1 HA
 obtain ⟨s0,s1,s2,s3⟩:=ja2 rb2.out
 have f0:=ja0 rb2.out 0
 have f1:=ja0 rb2.out 1
 have f2:=ja0 rb2.out 2
 have f3:=ja0 rb2.out 3
 go_wp2
 refine bodyPost_ret (v:=.agg #[iv a0,iv a1,iv a2,iv a3]) (by simp [results,Tryz.results33,go_sem,s0,s1,s2,s3]) rfl ⟨rfl,?_⟩
 exact HE.out _ _ _ _
theorem qeg (x:Nat) (now:Int) (w:World) (h:w.cell? (aq x 8)=some (iv now)) :
 Calls Tryz.prog 19 #[pt x 0] w fun e w'=>e=.returned (iv now)/\Below w.heap.size w w':=by
 go_enter Tryz.func19,Tryz.ntmps19
 go_wp2
 go_ret
 exact ⟨rfl,Below.refl _ _⟩
theorem jv2 (x:Nat) (c:Int) (w:World) (hc:jc3 c=false) :
 Calls Tryz.prog 31 #[pt x 0,iv c] w fun e w'=>e=.returned (.tuple #[.agg #[iv 0,iv 0,iv 0],iv 3])/\Below w.heap.size w w':=by
 have HE:Hid (∀ O,Below w.heap.size w (w.alloc O)):=fun O=>(Below.refl _ _).alloc (Nat.le_refl _) _
 by_cases h1:c<1
 ·have d1:decide (c<1)=true:=by simpa using h1
  clear hc
  go_enter Tryz.func31,Tryz.ntmps31
  go_wp2
  refine bodyPost_ret (v:=.tuple #[.agg #[iv 0,iv 0,iv 0],iv 3]) (by simp [results,Tryz.results31,go_sem]) rfl ⟨rfl,?_⟩
  exact HE.out _
 ·have h2:4294967296<c:=by
   simp [jc3] at hc
   omega
  have d1:decide (c<1)=false:=by simpa using h1
  have d2:decide (4294967296<c)=true:=by simpa using h2
  clear hc
  go_enter Tryz.func31,Tryz.ntmps31
  go_wp2
  refine bodyPost_ret (v:=.tuple #[.agg #[iv 0,iv 0,iv 0],iv 3]) (by simp [results,Tryz.results31,go_sem]) rfl ⟨rfl,?_⟩
  exact HE.out _
theorem jsu (x:Nat) (c a b d:Int) (w:World) (h1:1<=c) (h2:c<=4294967296)
 (HA:Hid (∀ W,Below w.heap.size w W->Calls Tryz.prog 61 #[pt x 19,iv c] W fun e w'=>e=.returned (.agg #[iv a,iv b,iv d])/\Below W.heap.size W w')) :
 Calls Tryz.prog 31 #[pt x 0,iv c] w fun e w'=>e=.returned (.tuple #[.agg #[iv a,iv b,iv d],iv 0])/\Below w.heap.size w w':=by
 have j1:¬ c<1:=by omega
 have j2:¬ 4294967296<c:=by omega
 have d1:decide (c<1)=false:=by simpa using j1
 have d2:decide (4294967296<c)=false:=by simpa using j2
 go_enter Tryz.func31,Tryz.ntmps31
 have rb0:Hid ((w.alloc (.cells #[iv 0,iv 0,iv 0] 87)).heap[w.heap.size]?=some (.cells #[iv 0,iv 0,iv 0] 87 (0,0))):=heap_alloc_new w _
 have hbl:Hid (Below w.heap.size w (w.alloc (.cells #[iv 0,iv 0,iv 0] 87))):=(Below.refl _ _).alloc (Nat.le_refl _) _
 go_wp2_with fail
 generalize w.alloc (.cells #[iv 0,iv 0,iv 0] 87)=W0 at rb0 hbl ⊢
 refine (HA.out _ hbl.out).mono ?_
 rintro e W1 ⟨rfl,b1⟩
 have lr0:w.heap.size<W0.heap.size:=(blt rb0.out)
 have hb1:Hid (Below w.heap.size w W1):=Below.trans hbl.out (b1.mono hbl.out.size)
 have rb1:Hid (W1.heap[w.heap.size]?=some (.cells #[iv 0,iv 0,iv 0] 87 (0,0))):=(b1.block _ lr0).trans rb0.out
 have lr1:w.heap.size<W1.heap.size:=(blt rb1.out)
 clear b1 lr0 rb0 hbl HA
 obtain ⟨s0,s1,s2⟩:=jc2 rb1.out
 have f0:=ja0 rb1.out 0
 have f1:=ja0 rb1.out 1
 have f2:=ja0 rb1.out 2
 go_wp2
 refine bodyPost_ret (v:=.tuple #[.agg #[iv a,iv b,iv d],iv 0]) (by simp [results,Tryz.results31,go_sem,s0,s1,s2]) rfl ⟨rfl,?_⟩
 exact jnt hb1.out (Nat.le_refl _)
section
structure restP (S:Sal):Prop where
 R:restS S
 qlen:((ja7 S.os).length:Int)<=S.C.queue
 alen:(S.answers:Int)<=S.C.tokens
theorem jsx {S:Sal} (hl:1<=S.C.lease) (h:∀ o∈S.os,o.alive->S.now<o.upto):∀ o∈S.promote.os,o.alive->S.now<o.upto :=
 jhv (Q:=fun o=>o.alive->S.now<o.upto) S (fun o c _ _ _=>by show S.now<S.now+S.C.lease;omega) h
theorem ju3 {S:Sal} {i:Nat} {st:Int} (hst:st≠12/\st≠13) (h:∀ o∈S.os,o.alive->S.now<o.upto):∀ o∈(S.ends i st).os,o.alive->S.now<o.upto:=by
 intro o ho ha
 rcases ji9 (show o∈S.os.set i _ from ho) with rfl|ho
 ·exact absurd ha (fun c=>c.elim hst.1 hst.2)
 ·exact h o ho ha
theorem jll {S:Sal} (h:∀ o∈S.os,o.alive->S.now<o.upto):∀ o∈S.drained.os,o.alive->S.now<o.upto:=by
 intro o ho ha
 obtain ⟨p,hp,rfl⟩:=List.mem_map.1 (show o∈S.os.map (dry S.left S.now) from ho)
 unfold dry at ha ⊢
 split
 ·next hc=>rw [if_pos hc] at ha;exact absurd ha (fun c=>c.elim (show ¬ (18:Int)=12 by decide) (show ¬ (18:Int)=13 by decide))
 ·next hc=>rw [if_neg hc] at ha;exact h p hp ha
theorem jiz:∀ (n:Nat) (S:Sal),(ja7 (jax n S).os).length<=(ja7 S.os).length
 | 0,_=>Nat.le_refl _
 | n+1,S=>by
   unfold jax
   split
   ·exact Nat.le_refl _
   ·next q qs hq =>
    split
    ·exact Nat.le_refl _
    ·refine Nat.le_trans (jiz n _) ?_
     rw [jew hq,hq]
     simp
theorem jky (S:Sal):(ja7 S.promote.os).length<=(ja7 S.os).length:=jiz _ S
theorem jj2 {S:Sal} {i:Nat} (hi:i<S.os.length) {st:Int} (hst:st≠12):(ja7 (S.ends i st).os).length<=(ja7 S.os).length:=by
 show (ja7 (S.os.set i _)).length<=_
 rw [jlj _ hi hst]
 exact List.length_filter_le _ _
theorem ji3:∀ (qs:List Nat) (S:Sal),(∀ q∈qs,q<S.os.length)->(ja7 (jay S qs).os).length<=(ja7 S.os).length
 | [],_,_=>Nat.le_refl _
 | q :: qs,S,h=>by
   have e:jay S (q :: qs)=jay (if S.left<(S.os.getD q ja3).units then S.ends q 18 else S) qs:=rfl
   rw [e]
   split
   ·exact Nat.le_trans (ji3 qs _ (fun x hx=>by rw [jch];exact h x (List.mem_cons_of_mem _ hx))) (jj2 (h q List.mem_cons_self) (by decide))
   ·exact ji3 qs _ (fun x hx=>h x (List.mem_cons_of_mem _ hx))
theorem jl3 (S:Sal):(ja7 S.drained.os).length<=(ja7 S.os).length:=by
 rw [← jcx]
 exact ji3 _ S (fun q hq=>jes S.os _ q hq)
theorem jf8 {S T:Sal} (h:restP S) (hC:T.C=S.C) (hn:T.now=S.now) (ha:T.ansL=S.ansL) (hf:∀ o∈T.os,o.alive->T.now<o.upto) (hq:(ja7 T.os).length<=(ja7 S.os).length):restP T.promote:=by
 obtain ⟨a,b,c⟩:=jec T
 have hR:=h.R
 refine ⟨⟨?_,jhu T,?_,?_,?_,?_,?_⟩,?_,?_⟩
 ·rw [b];exact jsx (by rw [hC];exact hR.lease.1) hf
 ·rw [a,hC];exact hR.lease
 ·rw [a,hC];exact hR.wait
 ·rw [a,hC];exact hR.keep
 ·rw [a,hC];exact hR.tokens
 ·rw [a,hC];exact hR.queue
 ·have h1:=jky T
  have h2:=h.qlen
  rw [a,hC]
  omega
 ·have:T.promote.answers=S.answers:=by unfold Sal.answers Sal.remem;rw [c,ha,b,hn,a,hC]
  rw [this,a,hC]
  exact h.alen
theorem jqk {S:Sal} (h:restP S) (r:Req):restP (S.confirm r).2:=by
 unfold Sal.confirm
 split
 ·exact h
 ·next i hf =>
  split
  ·exact h
  ·by_cases hi:i<S.os.length
   ·have hl:=hi
    obtain ⟨d,e,f⟩:=jez (ja7 (S.ends i 14).os) (S.ends i 14)
    refine jf8 h d e f ?_ ?_
    ·rw [e,jcx]
     exact jll (S:=S.ends i 14) (ju3 (by decide) h.R.fut)
    ·rw [jcx]
     exact Nat.le_trans (jl3 _) (jj2 hl (by decide))
   ·have e1:S.ends i 14=S:=by
     unfold Sal.ends Sal.put
     rw [List.set_eq_of_length_le (Nat.le_of_not_lt hi)]
    obtain ⟨d,e,f⟩:=jez (ja7 (S.ends i 14).os) (S.ends i 14)
    refine jf8 h d e f ?_ ?_
    ·rw [e,jcx,e1]
     exact jll h.R.fut
    ·rw [jcx,e1]
     exact jl3 _
theorem jso {S:Sal} (h:restP S) (r:Req):restP (S.cancel r).2:=by
 unfold Sal.cancel
 split
 ·exact h
 ·next i hf =>
  split
  ·exact h
  ·by_cases hi:i<S.os.length
   ·exact jf8 (T:=S.ends i 16) h rfl rfl rfl (ju3 (by decide) h.R.fut) (jj2 hi (by decide))
   ·have e1:S.ends i 16=S:=by
     unfold Sal.ends Sal.put
     rw [List.set_eq_of_length_le (Nat.le_of_not_lt hi)]
    rw [e1]
    exact jf8 (T:=S) h rfl rfl rfl h.R.fut (Nat.le_refl _)
theorem qcp {S:Sal} (h:restP S) (r:Req):restP (S.ask r).2:=by
 have hR:=h.R
 unfold Sal.ask
 split
 ·exact h
 split
 ·exact h
 split
 ·exact h
 split
 ·next hq =>
  obtain ⟨e1,e2⟩:=jhb S r.cust r.units
  show restP ((S.more ⟨r.cust,r.units,0,0,0,0⟩).holds S.os.length)
  rw [e1,e2]
  have hqs:ja7 (S.more ⟨r.cust,r.units,13,S.price,S.now+S.C.lease,0⟩).os=[]:=by
   show ja7 (S.os++[_])=_
   rw [jnn,if_neg (show ¬ (13:Int)=12 by decide)]
   exact hq.1
  refine ⟨⟨fun o ho ha=>?_,fun q qs c=>(by rw [hqs] at c;cases c),hR.lease,hR.wait,hR.keep,hR.tokens,hR.queue⟩,?_,h.alen⟩
  ·rcases List.mem_append.1 (show o∈S.os++[_] from ho) with ho|ho
   ·exact hR.fut o ho ha
   ·have e:o=⟨r.cust,r.units,13,S.price,S.now+S.C.lease,0⟩:=by simpa using ho
    rw [e]
    show S.now<S.now+S.C.lease
    have:=hR.lease.1
    omega
  ·rw [hqs]
   have:=hR.queue.1
   show ((0:Nat):Int)<=S.C.queue
   omega
 split
 ·exact h
 ·next c1 c2 c3 c4 c5 =>
  have hqs:ja7 (S.more ⟨r.cust,r.units,12,0,S.now+S.C.wait,0⟩).os=ja7 S.os++[S.os.length]:=by
   show ja7 (S.os++[_])=_
   rw [jnn,if_pos rfl]
  have hfree:(S.more ⟨r.cust,r.units,12,0,S.now+S.C.wait,0⟩).free=S.free:=by
   unfold Sal.free Sal.left
   show S.C.stock - ja4 (S.os++[_]) 14 0 - ja4 (S.os++[_]) 13 0=_
   rw [jbz,jbz,jn8,jn8,if_neg (show ¬ (12:Int)=14 by decide),if_neg (show ¬ (12:Int)=13 by decide)]
   omega
  refine ⟨⟨fun o ho ha=>?_,fun q qs c=>?_,hR.lease,hR.wait,hR.keep,hR.tokens,hR.queue⟩,?_,h.alen⟩
  ·rcases List.mem_append.1 (show o∈S.os++[_] from ho) with ho|ho
   ·exact hR.fut o ho ha
   ·have e:o=⟨r.cust,r.units,12,0,S.now+S.C.wait,0⟩:=by simpa using ho
    rw [e]
    show S.now<S.now+S.C.wait
    have:=hR.wait.1
    omega
  ·rw [hfree]
   rw [hqs] at c
   cases hq:ja7 S.os with
   | nil =>
     rw [hq] at c
     simp at c
     rw [← c.1]
     show S.free<((S.os++[_]).getD S.os.length ja3).units
     rw [jau (by omega),if_pos rfl]
     show S.free<r.units
     have:¬ r.units<=S.free:=fun d=>c4 ⟨hq,d⟩
     omega
   | cons q' qs' =>
     rw [hq] at c
     simp at c
     rw [← c.1]
     obtain ⟨_,hl,_⟩:=jcl hq ja3 (by decide)
     show S.free<((S.os++[_]).getD q' ja3).units
     rw [jau (by omega),if_neg (by omega)]
     exact hR.stable q' qs' hq
  ·rw [hqs]
   have:=h.qlen
   show (((ja7 S.os++[S.os.length]).length:Nat):Int)<=S.C.queue
   rw [List.length_append]
   simp
   omega
theorem qaa {S:Sal} (h:restP S) (r:Req):restP (S.doS r).2:=by
 unfold Sal.doS
 split
 ·exact qcp h r
 split
 ·exact jqk h r
 ·exact jso h r
theorem qdp {a b:List Int} (ha:∀ x∈a,0<=x/\x<256) (hb:∀ x∈b,0<=x/\x<256) (h:strOfNums a=strOfNums b):a=b:=by
 refine joz a b ha hb ?_
 have:=congrArg (fun s:ByteArray=>s.data.toList) h
 simpa [strOfNums] using this
section
variable {an:Int} {atl:List (Int × Int)} {att:List Ent} {al:List PAns} {keep:Int} {ansL:List Ans}
theorem relA.count (h:relA an atl att al keep ansL):al.length=(ansL.filter (fun a=>decide (an<a.at'+keep))).length:=by
 have mem:∀ t,t∈(ansL.filter (fun a=>decide (an<a.at'+keep))).map Ans.token↔∃ j,j<ansL.length/\an<(ansL.getD j jbt).at'+keep/\t=(ansL.getD j jbt).token:=by
  intro t
  rw [List.mem_map]
  constructor
  ·rintro ⟨a,ha,rfl⟩
   obtain ⟨h1,h2⟩:=List.mem_filter.1 ha
   obtain ⟨j,hj,rfl⟩:=List.getElem_of_mem h1
   have e:ansL.getD j jbt=ansL[j]:=by simp [List.getD,List.getElem?_eq_getElem hj]
   exact ⟨j,hj,by rw [e];simpa using h2,by rw [e]⟩
  ·rintro ⟨j,hj,h2,rfl⟩
   have e:ansL.getD j jbt=ansL[j]:=by simp [List.getD,List.getElem?_eq_getElem hj]
   exact ⟨ansL.getD j jbt,List.mem_filter.2 ⟨by rw [e];exact List.getElem_mem hj,by simpa using h2⟩,rfl⟩
 have n2:((ansL.filter (fun a=>decide (an<a.at'+keep))).map Ans.token).Nodup:=by
  have key:∀ (l:List Ans),(∀ i j,i<l.length->j<l.length->an<(l.getD i jbt).at'+keep->an<(l.getD j jbt).at'+keep->(l.getD i jbt).token=(l.getD j jbt).token->i=j)->((l.filter (fun a=>decide (an<a.at'+keep))).map Ans.token).Nodup:=by
   intro l
   induction l with
   | nil=>intro _;simp
   | cons a l ih =>
     intro hu
     have ihl:=ih (fun i j hi hj h1 h2 h3=>by
      have:=hu (i+1) (j+1) (by simpa using hi) (by simpa using hj) h1 h2 h3
      omega)
     rw [List.filter_cons]
     split
     ·next ha =>
      rw [List.map_cons,List.nodup_cons]
      refine ⟨fun hm=>?_,ihl⟩
      obtain ⟨b,hb,e⟩:=List.mem_map.1 hm
      obtain ⟨h1,h2⟩:=List.mem_filter.1 hb
      obtain ⟨j,hj,rfl⟩:=List.getElem_of_mem h1
      have e2:l.getD j jbt=l[j]:=by simp [List.getD,List.getElem?_eq_getElem hj]
      have:=hu 0 (j+1) (by simp) (by simpa using hj) (by simpa using ha) (by show an<(l.getD j jbt).at'+keep;rw [e2];simpa using h2) (by show a.token=(l.getD j jbt).token;rw [e2];exact e.symm)
      omega
     ·exact ihl
  exact key ansL h.uniq
 have l1:=jaw (al.map PAns.t) _ h.ls.once (fun t ht=>(mem t).2 (by
  obtain ⟨a,ha,rfl⟩:=List.mem_map.1 ht
  obtain ⟨j,a1,a2,a3⟩:=h.al a ha
  exact ⟨j,a1,a2,a3⟩))
 have l2:=jaw _ (al.map PAns.t) n2 (fun t ht=>by
  obtain ⟨j,a1,a2,rfl⟩:=(mem t).1 ht
  obtain ⟨a,ha,e,_⟩:=h.reqs j a1 a2
  exact List.mem_map.2 ⟨a,ha,e⟩)
 simp only [List.length_map] at l1 l2
 omega
theorem relA.add (h:relA an atl att al keep ansL) (a:PAns) (now:Int) (han:an=now) (hk:1<=keep) (hb:isB a.k a.t a.c a.u a.o=true) (hn:∀ j,j<ansL.length->an<(ansL.getD j jbt).at'+keep->(ansL.getD j jbt).token≠a.t) :
 relA an (jft an atl a.t (now+keep)) (jbb (a.t,0) al.length att) (al++[a]) keep (ansL++[⟨strOfNums (ja8 a.k (jaj a.k a.t a.c a.u a.o)),a.t,⟨a.rk,a.ro,a.rc,a.ru⟩,now⟩]):=by
 have hg:∀ j,j<ansL.length+1->(ansL++[(⟨strOfNums (ja8 a.k (jaj a.k a.t a.c a.u a.o)),a.t,⟨a.rk,a.ro,a.rc,a.ru⟩,now⟩:Ans)]).getD j jbt=if j=ansL.length then ⟨strOfNums (ja8 a.k (jaj a.k a.t a.c a.u a.o)),a.t,⟨a.rk,a.ro,a.rc,a.ru⟩,now⟩ else ansL.getD j jbt:=by
  intro j hj
  simp only [List.getD]
  by_cases e:j=ansL.length
  ·subst e;simp
  ·rw [if_neg e,List.getElem?_append_left (by omega)]
 generalize hA:(⟨strOfNums (ja8 a.k (jaj a.k a.t a.c a.u a.o)),a.t,⟨a.rk,a.ro,a.rc,a.ru⟩,now⟩:Ans)=A at hg
 have ht:A.token=a.t:=by rw [← hA]
 have hat:A.at'=now:=by rw [← hA]
 have hal:∀ b∈al,b.t≠a.t:=fun b hb' e=>by
  obtain ⟨j,j1,j2,j3⟩:=h.al b hb'
  exact hn j j1 j2 (by rw [← j3,e])
 have hx:¬ 0<=joq atl a.t:=by
  rw [jh7]
  rintro ⟨p,hp,e⟩
  obtain ⟨j,j1,j2,rfl⟩:=(h.tl p).1 hp
  exact hn j j1 j2 e
 have hset:jft an atl a.t (now+keep)=atl++[(now+keep,a.t)]:=by
  unfold jft
  rw [if_neg (by omega),if_neg hx]
 refine ⟨jjb h.once,jln h.ls hal,fun j hj hm=>?_,fun i j hi hj h1 h2 h3=>?_,fun b hb'=>?_,fun p=>?_⟩
 ·simp only [List.length_append,List.length_singleton] at hj
  rw [hg j hj] at hm ⊢
  by_cases e:j=ansL.length
  ·rw [if_pos e]
   exact ⟨a,by simp,by rw [ht],hb,by rw [← hA],by rw [← hA]⟩
  ·rw [if_neg e] at hm ⊢
   obtain ⟨b,q1,q2⟩:=h.reqs j (by omega) hm
   exact ⟨b,List.mem_append_left _ q1,q2⟩
 ·simp only [List.length_append,List.length_singleton] at hi hj
  rw [hg i hi] at h1 h3
  rw [hg j hj] at h2 h3
  by_cases e1:i=ansL.length<;>by_cases e2:j=ansL.length
  ·omega
  ·rw [if_pos e1] at h3;rw [if_neg e2] at h2 h3
   exact absurd (h3.symm.trans ht) (hn j (by omega) h2)
  ·rw [if_neg e1] at h1 h3;rw [if_pos e2] at h3
   exact absurd (h3.trans ht) (hn i (by omega) h1)
  ·rw [if_neg e1] at h1 h3;rw [if_neg e2] at h2 h3
   exact h.uniq i j (by omega) (by omega) h1 h2 h3
 ·rcases List.mem_append.1 hb' with hb'|hb'
  ·obtain ⟨j,j1,j2,j3⟩:=h.al b hb'
   exact ⟨j,by simp;omega,by rw [hg j (by omega),if_neg (by omega)];exact j2,by rw [hg j (by omega),if_neg (by omega)];exact j3⟩
  ·have e:b=a:=by simpa using hb'
   rw [e]
   exact ⟨ansL.length,by simp,by rw [hg _ (by omega),if_pos rfl,hat];omega,by rw [hg _ (by omega),if_pos rfl,ht]⟩
 ·rw [hset,List.mem_append,h.tl]
  constructor
  ·rintro (⟨j,j1,j2,rfl⟩|hp)
   ·exact ⟨j,by simp;omega,by rw [hg j (by omega),if_neg (by omega)];exact j2,by rw [hg j (by omega),if_neg (by omega)]⟩
   ·have e:p=(now+keep,a.t):=by simpa using hp
    rw [e]
    exact ⟨ansL.length,by simp,by rw [hg _ (by omega),if_pos rfl,hat];omega,by rw [hg _ (by omega),if_pos rfl,hat,ht]⟩
  ·rintro ⟨j,j1,j2,rfl⟩
   simp only [List.length_append,List.length_singleton] at j1
   rw [hg j j1] at j2 ⊢
   by_cases e:j=ansL.length
   ·rw [if_pos e,hat,ht]
    exact .inr (by simp)
   ·rw [if_neg e] at j2 ⊢
    exact .inl ⟨j,by omega,j2,rfl⟩
end
end
section
theorem PMem.acells {W:World} {x:Nat} {own:Nat->Prop} {V:PV} {g:PG} (h:PMem W x own V g) {j:Nat} {a:PAns} (hj:V.al[j]?=some a):∃ b,g.ao=some (aq b 0)/\j<V.al.length/\∀ k,k<9->∀ u,a.vals[k]?=some u->W.cell? (aq b (j * 9+k))=some u:=by
 have hl:=(List.getElem?_eq_some_iff.1 hj).1
 have hd:V.al.getD j pans0=a:=by simp [List.getD,hj]
 have ho:=h.arow
 rcases ho.2 with ⟨_,h0⟩|⟨b,cap,cur,hv,_,hh,_⟩
 ·omega
 ·have hv':=hv
  simp only [Value.slice.injEq] at hv'
  obtain ⟨e1,_,e2⟩:=hv'
  rw [hv] at ho
  refine ⟨b,e1,hl,fun k hk u hu=>?_⟩
  have:=ho.cells (g:=b) rfl _ _ ((jmp hl k hk).trans (by rw [hd];exact hu))
  rwa [Addr.add_lit,Nat.zero_add] at this
section
variable {w:World} {x:Nat} {own:Nat->Prop} {S:Sal} {last:Nat} {an:Int}
theorem jwx {W:World} {V:PV} {tok:Int} {j:Nat} {a:PAns} (h:psm W x own V) (hs:srt V.att) (hg:jb0 (tok,0) V.att=some (j:Int)) (hj:V.al[j]?=some a) :
 Calls Tryz.prog 100 #[pt x 23,iv tok] W fun e w'=>e=.returned (.tuple #[a.val,.bool true])/\Below W.heap.size W w':=by
 obtain ⟨g,h⟩:=h
 obtain ⟨b,hb,hl,c⟩:=h.acells hj
 exact qcq x 23 b V.al.length g.ac j g.att tok a.k a.t a.c a.u a.o a.rk a.ro a.rc a.ru W (h.cell 24 _ rfl) h.att.1 (by rw [h.att.2];exact hs) (by rw [h.att.2];exact hg) (by rw [← hb];exact h.cell 26 _ rfl) hl (c 0 (by omega) _ rfl) (c 1 (by omega) _ rfl) (c 2 (by omega) _ rfl) (c 3 (by omega) _ rfl) (c 4 (by omega) _ rfl) (c 5 (by omega) _ rfl) (c 6 (by omega) _ rfl) (c 7 (by omega) _ rfl) (c 8 (by omega) _ rfl)
theorem jzw {W:World} {V:PV} {tok:Int} (h:psm W x own V) (hs:srt V.att) (hg:jb0 (tok,0) V.att=none) :
 Calls Tryz.prog 100 #[pt x 23,iv tok] W fun e w'=>e=.returned (.tuple #[pans0.val,.bool false])/\Below W.heap.size W w':=by
 obtain ⟨g,h⟩:=h
 exact qe4 x 23 g.att tok W (h.cell 24 _ rfl) h.att.1 (by rw [h.att.2];exact hs) (by rw [h.att.2];exact hg)
theorem jir (S:Sal) (a:Ans):S.remem a=true↔S.now<a.at'+S.C.keep:=by
 unfold Sal.remem
 rw [decide_eq_true_iff]
 omega
theorem jgc {S:Sal} {atl:List (Int × Int)} {att:List Ent} {al:List PAns} (h:relA S.now atl att al S.C.keep S.ansL):al.length=S.answers:=by
 rw [h.count]
 unfold Sal.answers
 congr 1
 apply List.filter_congr
 intro a _
 have:=jir S a
 cases hr:S.remem a
 ·rw [hr] at this
  simp only [Bool.false_eq_true,false_iff] at this
  simpa using this
 ·rw [hr] at this
  simpa using this.1 rfl
theorem jze {S:Sal} {atl:List (Int × Int)} {att:List Ent} {al:List PAns} (h:relA S.now atl att al S.C.keep S.ansL) {j:Nat} (hj:j<S.ansL.length) (hm:S.now<(S.ansL.getD j jbt).at'+S.C.keep):S.used (S.ansL.getD j jbt).token=some (S.ansL.getD j jbt):=by
 have ej:S.ansL.getD j jbt=S.ansL[j]:=by simp [List.getD,List.getElem?_eq_getElem hj]
 cases hu:S.used (S.ansL.getD j jbt).token with
 | none =>
   unfold Sal.used at hu
   rw [List.find?_eq_none] at hu
   have:=hu (S.ansL.getD j jbt) (by rw [ej];exact List.getElem_mem hj)
   rw [(jir S _).2 hm] at this
   simp at this
 | some a =>
   obtain ⟨i,hi,he,h1,h2,_⟩:=jm7 hu
   have:=h.uniq i j hi hj (by rw [he];exact (jir S a).1 h1) hm (by rw [he];exact h2)
   rw [← he,this]
theorem jw4 {S:Sal} {atl:List (Int × Int)} {att:List Ent} {al:List PAns} (h:relA S.now atl att al S.C.keep S.ansL) {t:Int} (hn:∀ a∈al,a.t≠t):S.used t=none:=by
 cases hu:S.used t with
 | none=>rfl
 | some a =>
   obtain ⟨i,hi,he,h1,h2,_⟩:=jm7 hu
   obtain ⟨b,hb,e,_⟩:=h.reqs i hi (by rw [he];exact (jir S a).1 h1)
   exact absurd (e.trans (by rw [he];exact h2)) (hn b hb)
theorem jxr (h:psx S.now x S last w own) :
 Calls Tryz.prog 60 #[pt x 23] w fun e w'=>e=.returned (iv S.answers)/\Below w.heap.size w w':=by
 obtain ⟨V,⟨g,hm⟩,hr,ha,han⟩:=h
 have:=qac x 23 V.att.length w (hm.cell 25 _ rfl)
 rw [han] at ha
 rw [jfl ha.ls,jgc ha] at this
 exact this
theorem qg4 (h:psx S.now x S last w own) (hR:restP S) (a:PAns) (hb:isB a.k a.t a.c a.u a.o=true) (hn:S.used a.t=none) :
 Calls Tryz.prog 102 #[pt x 23,a.val,iv (S.now+S.C.keep)] w fun e w'=>e=.returned (.tuple #[])/\jbq (psx S.now x { S with ansL:=S.ansL++[⟨strOfNums (ja8 a.k (jaj a.k a.t a.c a.u a.o)),a.t,⟨a.rk,a.ro,a.rc,a.ru⟩,S.now⟩] } last) w w' own:=by
 obtain ⟨V,hm,hr,ha,han⟩:=h
 have ha0:=ha
 rw [han] at ha0
 have hcnt:=jgc ha0
 have hl1:=jfl ha.ls
 have hal:V.al.length<=4294967296:=by have:=hR.alen;have:=hR.R.tokens.2;omega
 have hz2:V.atl.length<=V.al.length:=by
  have:=jaw (V.atl.map (fun p:Int × Int=>p.2)) (V.al.map PAns.t) (show (V.atl.map (fun p:Int × Int=>p.2)).Nodup from ha.once) (fun y hy=>by
   obtain ⟨p,hp,rfl⟩:=List.mem_map.1 hy
   obtain ⟨j,j1,j2,rfl⟩:=(ha.tl p).1 hp
   obtain ⟨b,hb',e,_⟩:=ha.reqs j j1 j2
   exact List.mem_map.2 ⟨b,hb',e⟩)
  simpa using this
 have hun:∀ j,j<S.ansL.length->V.an<(S.ansL.getD j jbt).at'+S.C.keep->(S.ansL.getD j jbt).token≠a.t:=fun j hj hm' e=>by
  have:=jze ha0 hj (han▸hm')
  rw [e,hn] at this
  cases this
 have hgn:jb0 (a.t,0) V.att=none:=ji0 ha.ls (fun b hb' e=>by
  obtain ⟨j,j1,j2,j3⟩:=ha.al b hb'
  exact hun j j1 j2 (by rw [← j3,e]))
 refine (qfl a (S.now+S.C.keep) w x own V hm ha.ls.srt hgn hal (by omega) (by omega)).mono ?_
 rintro e w' ⟨rfl,hq⟩
 exact ⟨rfl,jeo hq ⟨hr.C,hr.now,hr.last,hr.tn,hr.once,hr.tl,hr.kin,hr.live,hr.ls,hr.ol,hr.turns,hr.sizes,hr.held,hr.sold,hr.lu,hr.cust⟩ (ha.add a S.now han hR.R.keep.1 hb hun) han⟩
theorem jpd (hJ:salJ S) (hR:restP S):saleK S:=⟨hJ.I,hJ.len,hR.R.lease,hR.R.wait,hR.R.keep⟩
theorem qfa (h:psx S.now x S S.os.length w own) (hJ:salJ S) (hR:restP S) (r:Req) (hb:isB r.kind r.token r.cust r.units r.order=true) (hk:r.kind≠4) :
 Calls Tryz.prog 64 #[pt x 0,r.val] w fun e w'=>e=.returned (S.send (ja8 r.kind (jaj r.kind r.token r.cust r.units r.order)) r 0).1.val/\jbq (psx S.now x (S.send (ja8 r.kind (jaj r.kind r.token r.cust r.units r.order)) r 0).2 (S.send (ja8 r.kind (jaj r.kind r.token r.cust r.units r.order)) r 0).2.os.length) w w' own:=by
 have hKK:=jpd hJ hR
 have K:=jb3 S.now x S S.os.length
 have hw:=K.lt h
 obtain ⟨_,_,_,c8,c5,c6,_,_⟩:=jeu h
 have hnum:=jt4 hb
 obtain ⟨V0,hm0,hr0,ha0,han0⟩:=id h
 rw [han0] at ha0
 have hsend:S.send (ja8 r.kind (jaj r.kind r.token r.cust r.units r.order)) r 0=match S.used r.token with
  | some a=>if a.frame=strOfNums (ja8 r.kind (jaj r.kind r.token r.cust r.units r.order)) then (a.rep,S) else (⟨10,0,0,0⟩,S)
  | none =>
    if (S.answers:Int)=S.C.tokens then (⟨11,0,0,0⟩,S)
    else ((S.doS r).1,{ (S.doS r).2 with ansL:=(S.doS r).2.ansL++[⟨strOfNums (ja8 r.kind (jaj r.kind r.token r.cust r.units r.order)),r.token,(S.doS r).1,S.now⟩] }):=by
  unfold Sal.send
  rw [if_neg (fun c=>c rfl),if_neg hk]
  cases S.used r.token<;>rfl
 rcases jvy ha0.ls r.token with ⟨j,a,hj,hat,hg⟩|⟨hn,hg⟩
 ·obtain ⟨j',q1,q2,q3⟩:=ha0.al a (List.mem_of_getElem? hj)
  obtain ⟨a',m1,m2,m3,m4,m5⟩:=ha0.reqs j' q1 q2
  have eaa:a'=a:=by
   obtain ⟨i',hi'⟩:=List.mem_iff_getElem?.1 m1
   have:=jhw ha0.ls.once hi' hj (m2.trans q3.symm)
   rw [this,hj] at hi'
   simpa using hi'.symm
  subst eaa
  have hu:S.used r.token=some (S.ansL.getD j' jbt):=by
   have:=jze ha0 q1 q2
   rwa [← q3,hat] at this
  rw [hu] at hsend
  have HG:∀ W,Below w.heap.size w W->Calls Tryz.prog 100 #[pt x 23,iv r.token] W fun e w'=>e=.returned (.tuple #[a'.val,.bool true])/\Below W.heap.size W w':=fun W hW=>jwx (jgv hm0 hW) ha0.ls.srt hg hj
  by_cases he:a'.k=r.kind/\a'.t=r.token/\a'.c=r.cust/\a'.u=r.units/\a'.o=r.order
  ·obtain ⟨e1,e2,e3,e4,e5⟩:=he
   have hfr:(S.ansL.getD j' jbt).frame=strOfNums (ja8 r.kind (jaj r.kind r.token r.cust r.units r.order)):=by rw [m4,e1,e2,e3,e4,e5]
   have hse:S.send (ja8 r.kind (jaj r.kind r.token r.cust r.units r.order)) r 0=(⟨a'.rk,a'.ro,a'.rc,a'.ru⟩,S):=by
    rw [hsend]
    simp only
    rw [if_pos hfr,m5]
   rw [hse]
   have hv:a'.val=.agg #[iv r.kind,iv r.token,iv r.cust,iv r.units,iv r.order,iv a'.rk,iv a'.ro,iv a'.rc,iv a'.ru]:=by unfold PAns.val;rw [e1,e2,e3,e4,e5]
   rw [hv] at HG
   refine (qc1 x r.kind r.token r.cust r.units r.order a'.rk a'.ro a'.rc a'.ru w HG).mono ?_
   rintro e w' ⟨rfl,hb'⟩
   exact ⟨rfl,jb7 K h hb'⟩
  ·have hfr:¬ (S.ansL.getD j' jbt).frame=strOfNums (ja8 r.kind (jaj r.kind r.token r.cust r.units r.order)):=by
    rw [m4]
    intro c
    have:=qdp (jcz m3) (jcz hb) c
    obtain ⟨i1,i2,i3,i4,i5⟩:=jr3 m3 hb this
    exact he ⟨i1,i2,i3,i4,i5⟩
   have hse:S.send (ja8 r.kind (jaj r.kind r.token r.cust r.units r.order)) r 0=(⟨10,0,0,0⟩,S):=by
    rw [hsend]
    simp only
    rw [if_neg hfr]
   rw [hse]
   refine (juy x r.kind r.token r.cust r.units r.order a'.k a'.t a'.c a'.u a'.o a'.rk a'.ro a'.rc a'.ru w he HG).mono ?_
   rintro e w' ⟨rfl,hb'⟩
   exact ⟨rfl,jb7 K h hb'⟩
 ·have hu:=jw4 ha0 hn
  rw [hu] at hsend
  have HG:∀ W,Below w.heap.size w W->Calls Tryz.prog 100 #[pt x 23,iv r.token] W fun e w'=>e=.returned (.tuple #[pans0.val,.bool false])/\Below W.heap.size W w':=fun W hW=>jzw (jgv hm0 hW) ha0.ls.srt hg
  have HZ:∀ W,Below w.heap.size w W->Calls Tryz.prog 60 #[pt x 23] W fun e w'=>e=.returned (iv S.answers)/\Below W.heap.size W w':=fun W hW=>jxr (jb6 h hW)
  have hal:=hR.alen
  by_cases hf:(S.answers:Int)=S.C.tokens
  ·have hse:S.send (ja8 r.kind (jaj r.kind r.token r.cust r.units r.order)) r 0=(⟨11,0,0,0⟩,S):=by
    rw [hsend]
    simp only
    rw [if_pos hf]
   rw [hse]
   refine (qa8 x r.kind r.token r.cust r.units r.order S.answers S.C.tokens w (by omega) HG c6 HZ).mono ?_
   rintro e w' ⟨rfl,hb'⟩
   exact ⟨rfl,jb7 K h hb'⟩
  ·have hse:S.send (ja8 r.kind (jaj r.kind r.token r.cust r.units r.order)) r 0=((S.doS r).1,{ (S.doS r).2 with ansL:=(S.doS r).2.ansL++[⟨strOfNums (ja8 r.kind (jaj r.kind r.token r.cust r.units r.order)),r.token,(S.doS r).1,S.now⟩] }):=by
    rw [hsend]
    simp only
    rw [if_neg hf]
   rw [hse]
   obtain ⟨d1,d2,d3⟩:=jja S r
   have hRd:=qaa hR r
   have hund:(S.doS r).2.used r.token=none:=by
    unfold Sal.used Sal.remem
    rw [d3,d2,d1]
    exact hu
   have hnow:=hJ.I.now
   have hkp:=hR.R.keep
   have h1:r.kind=1->r.cust≠0/\1<=r.units/\r.units<=4294967296:=fun e=>by
    rcases hnum with ⟨_,q1,q2,q3⟩|⟨q,_,_⟩|⟨q,_,_⟩
    ·exact ⟨by omega,q2,q3⟩
    ·omega
    ·omega
   have h2:r.kind≠1->1<=r.order:=fun e=>by
    rcases hnum with ⟨q,_,_,_⟩|⟨_,q,_⟩|⟨_,q,_⟩
    ·exact absurd q e
    ·exact q
    ·exact q
   have HC:∀ (loc:Nat->Prop) (W:World) (T:Sal) (last:Nat),T.C=S.C->T.now=S.now->jal (psx S.now x T last) w own loc W->W.cell? (aq x 8)=some (iv S.now)/\W.cell? (aq x 5)=some (iv S.C.keep)/\x<W.heap.size:=fun loc W T last e1 e2 hT=>by
    obtain ⟨o1,a1,_⟩:=hT
    obtain ⟨_,_,_,q8,q5,_⟩:=jeu a1
    rw [e2] at q8
    rw [e1] at q5
    exact ⟨q8,q5,World.block_lt_of_cell? W _ q8⟩
   exact qbc x own (psx S.now x S S.os.length) (psx S.now x (S.doS r).2 (S.doS r).2.os.length) (psx S.now x { (S.doS r).2 with ansL:=(S.doS r).2.ansL++[⟨strOfNums (ja8 r.kind (jaj r.kind r.token r.cust r.units r.order)),r.token,(S.doS r).1,S.now⟩] } (S.doS r).2.os.length) K (jb3 _ _ _ _) (jb3 _ _ _ _) r.kind r.token r.cust r.units r.order S.answers S.C.tokens S.now S.C.keep (S.doS r).1.kind (S.doS r).1.order (S.doS r).1.cents (S.doS r).1.upto w (by omega) ⟨by omega,by omega⟩ hw h HG c6 HZ
    (fun loc W hT=>HC loc W _ _ (by exact d1) (by exact d2) hT) (fun loc W hT=>HC loc W _ _ (by exact d1) (by exact d2) hT)
    (fun loc W hW=>jaf hw (fun W o hp=>qgc hp hKK hR.qlen r h1 h2) W hW)
    (fun loc W hW=>jaf hw (fun W o hp=>by
      have hp':psx (S.doS r).2.now x (S.doS r).2 (S.doS r).2.os.length W o:=by rw [d2];exact hp
      have:=qg4 hp' hRd ⟨r.kind,r.token,r.cust,r.units,r.order,(S.doS r).1.kind,(S.doS r).1.order,(S.doS r).1.cents,(S.doS r).1.upto⟩ hb hund
      rw [← d1,← d2]
      exact this) W hW)
def PSW (w:World) (x:Nat) (own:Nat->Prop) (S:Sal):Prop:=psx S.now x S S.os.length w own/\restP S
theorem qap {S:Sal} (h:restP S) (bs:List Int) (r:Req) (err:Int):restP (S.send bs r err).2:=by
 unfold Sal.send
 split
 ·exact h
 split
 ·exact h
 split
 ·split<;>exact h
 ·split
  ·exact h
  ·next hf =>
   obtain ⟨d1,d2,d3⟩:=jja S r
   have hd:=qaa h r
   refine ⟨⟨hd.R.fut,hd.R.stable,hd.R.lease,hd.R.wait,hd.R.keep,hd.R.tokens,hd.R.queue⟩,hd.qlen,?_⟩
   have ha:=h.alen
   show ((((S.doS r).2.ansL++[_]).filter (fun a:Ans=>decide ((S.doS r).2.now - a.at'<(S.doS r).2.C.keep))).length:Int)<=(S.doS r).2.C.tokens
   rw [d1,d2,d3,List.filter_append,List.length_append]
   have h1:(S.ansL.filter (fun a:Ans=>decide (S.now - a.at'<S.C.keep))).length=S.answers:=rfl
   rw [h1]
   have h2:=List.length_filter_le (fun a:Ans=>decide (S.now - a.at'<S.C.keep)) [(⟨strOfNums bs,r.token,(S.doS r).1,S.now⟩:Ans)]
   simp only [List.length_singleton] at h2
   omega
theorem qg2:SendOK PSW where
 lt:=fun h=>(jb3 _ _ _ _).lt h.1
 keep:=fun h hz hk=>⟨(jb3 _ _ _ _).keep h.1 hz hk,h.2⟩
 send:=by
  intro w x own S ba bl bc bs k t c u o err h hJ hs hun
  obtain ⟨hp,hR⟩:=h
  have hKK:=jpd hJ hR
  have K:=jb3 S.now x S S.os.length
  have HU:∀ W,Below w.heap.size w W->Calls Tryz.prog 62 #[.slice ba bl bc] W fun e w'=>e=.returned (.tuple #[.agg #[iv k,iv t,iv c,iv u,iv o],iv err])/\Below W.heap.size W w':=fun W hW=>by
   refine (jwg ba bl bc bs W (jaa hs hW)).mono ?_
   rintro e w' ⟨k',t',c',u',o',err',rfl,hun',hb⟩
   obtain ⟨rfl,rfl,rfl,rfl,rfl,rfl⟩:=qdj hun hun'
   exact ⟨rfl,hb⟩
  have stay:∀ {w':World} {S':Sal},S'=S->Below w.heap.size w w'->js6 PSW w w' x own S':=by
   rintro w' _ rfl hb
   obtain ⟨o',a1,a2,a3⟩:=jb7 K hp hb
   exact ⟨o',⟨a1,hR⟩,a2,a3⟩
  by_cases he:err=0
  ·subst he
   obtain ⟨_,hb,rfl⟩:=hun.resolve_right (fun c=>by have:=c.1;omega)
   by_cases hk:k=4
   ·subst hk
    have hse:S.send (ja8 4 (jaj 4 t c u o)) ⟨4,t,c,u,o⟩ 0=(S.poll ⟨4,t,c,u,o⟩,S):=by
       unfold Sal.send
       rw [if_neg (fun c=>c rfl),if_pos rfl]
    have ho:1<=o:=by
       rcases jt4 hb with ⟨q,_⟩|⟨q,_⟩|⟨_,q,_⟩
       ·omega
       ·omega
       ·exact q
    rw [hse]
    refine (qao x ba bl bc t c u o _ _ _ _ w HU (fun W hW=>qfq (jb6 hp hW) hKK ⟨4,t,c,u,o⟩ ho)).mono ?_
    rintro e w' ⟨rfl,hb'⟩
    exact ⟨rfl,stay rfl hb'⟩
   ·refine (jzr x own (psx S.now x S S.os.length) _ K (jb3 _ _ _ _) ba bl bc k t c u o _ _ _ _ w (by simpa using hk) (K.lt hp) hp HU (fun loc W hW=>jaf (K.lt hp) (fun W o' hp'=>qfa hp' hJ hR ⟨k,t,c,u,o⟩ hb hk) W hW)).mono ?_
    rintro e w' ⟨rfl,o',a1,a2,a3⟩
    refine ⟨rfl,o',⟨?_,qap hR _ _ _⟩,a2,a3⟩
    rw [(jm6 S _ _ _).2.1]
    exact a1
  ·have hse:S.send bs ⟨k,t,c,u,o⟩ err=(⟨1,0,0,0⟩,S):=by
    unfold Sal.send
    rw [if_pos he]
   rw [hse]
   refine (qc7 x ba bl bc k t c u o err w (bne_iff_ne.2 he) HU).mono ?_
   rintro e w' ⟨rfl,hb'⟩
   exact ⟨rfl,stay rfl hb'⟩
end
end
section
section
variable {V:PV} {S:Sal} {last:Nat} {K:Nat->Prop}
theorem relO.clock (h:relO V S last K) {t:Int} (ht:V.tn<=t):relO { V with now:=t } { S with now:=t } last K :=
 ⟨h.C,rfl,h.last,ht,h.once,h.tl,h.kin,h.live,h.ls,h.ol,h.turns,h.sizes,h.held,h.sold,h.lu,h.cust⟩
theorem relO.advance (h:relO V S last K) {t:Int} (h1:V.tn<=t) (h2:t<=S.now):relO { V with tn:=t,tl:=jur V.tn t V.tl } S last K:=by
 have he:jur V.tn t V.tl=V.tl.filter (fun p=>decide (t<p.1)):=by
  unfold jur
  rw [if_neg (by omega),jui]
 rw [he]
 refine ⟨h.C,h.now,h.last,h2,jee _ h.once,fun p=>?_,h.kin,h.live,h.ls,h.ol,h.turns,h.sizes,h.held,h.sold,h.lu,h.cust⟩
 show p∈V.tl.filter (fun p=>decide (t<p.1))↔∃ i,K i/\t<_/\_
 rw [List.mem_filter,h.tl]
 constructor
 ·rintro ⟨⟨i,a,b,rfl⟩,c⟩
  exact ⟨i,a,by simpa using c,rfl⟩
 ·rintro ⟨i,a,b,rfl⟩
  exact ⟨⟨i,a,by omega,rfl⟩,by simpa using b⟩
theorem relO.due (h:relO V S last K) {t:Int} (h1:V.tn<=t) (p:Int × Int):p∈jho V.tn t V.tl↔∃ i,K i/\V.tn<(S.os.getD i ja3).untl S.C/\(S.os.getD i ja3).untl S.C<=t/\p=((S.os.getD i ja3).untl S.C,(i:Int)+1):=by
 have he:(jho V.tn t V.tl).Perm (V.tl.filter (fun p=>decide (p.1<=t))):=by
  unfold jho
  rw [if_neg (by omega)]
  exact (jg2 t _ V.tl rfl).2.1
 rw [he.mem_iff,List.mem_filter,h.tl]
 constructor
 ·rintro ⟨⟨i,a,b,rfl⟩,c⟩
  exact ⟨i,a,b,by simpa using c,rfl⟩
 ·rintro ⟨i,a,b,c,rfl⟩
  exact ⟨⟨i,a,b,rfl⟩,by simpa using c⟩
theorem relO.drop (h:relO V S last K) {i:Nat} (ha:¬ (S.os.getD i ja3).alive) (hu:(S.os.getD i ja3).untl S.C<=V.tn) {j:Nat} {z:POrd} (hj:V.ol[j]?=some (jbo S.C i (S.os.getD i ja3))) (hz:V.ol[V.ol.length - 1]?=some z) (rm:Int) :
 relO { V with ot:=jcp ((i:Int)+1,0) (jbb (z.num,0) j V.ot),ol:=jei V.ol j z,orm:=rm } S last (fun k=>K k/\k≠i):=by
 refine ⟨h.C,h.now,h.last,h.tn,h.once,fun p=>?_,fun k hk=>h.kin k hk.1,fun k hk hs=>⟨h.live k hk hs,fun e=>ha (by rw [e] at hs;exact hs)⟩,jlw h.ls hj hz,fun o=>?_,h.turns,h.sizes,h.held,h.sold,h.lu,h.cust⟩
 ·refine (h.tl p).trans ?_
  constructor
  ·rintro ⟨k,a,b,rfl⟩
   exact ⟨k,⟨a,fun e=>by rw [e] at b;omega⟩,b,rfl⟩
  ·rintro ⟨k,a,b,rfl⟩
   exact ⟨k,a.1,b,rfl⟩
 ·show o∈jei V.ol j z↔_
  rw [jnm h.ls.once hj hz,h.ol]
  constructor
  ·rintro ⟨⟨k,a,rfl⟩,b⟩
   exact ⟨k,⟨a,fun e=>b (by rw [e])⟩,rfl⟩
  ·rintro ⟨k,a,rfl⟩
   exact ⟨⟨k,a.1,rfl⟩,fun c=>a.2 (by simp [jbo] at c;omega)⟩
end
theorem relA.forget {an t:Int} {atl:List (Int × Int)} {att att':List Ent} {al al':List PAns} {keep:Int} {ansL:List Ans} (h:relA an atl att al keep ansL) (ht:an<=t) (hls:Listed PAns.t att' al') (hm:∀ a,a∈al'↔a∈al/\∀ d∈jho an t atl,a.t≠d.2) :
 relA t (jur an t atl) att' al' keep ansL:=by
 have he:jur an t atl=atl.filter (fun p=>decide (t<p.1)):=by
  unfold jur
  rw [if_neg (by omega),jui]
 have hd:∀ p,p∈jho an t atl↔∃ j,j<ansL.length/\an<(ansL.getD j jbt).at'+keep/\(ansL.getD j jbt).at'+keep<=t/\p=((ansL.getD j jbt).at'+keep,(ansL.getD j jbt).token):=fun p=>by
  have hp:(jho an t atl).Perm (atl.filter (fun p=>decide (p.1<=t))):=by
   unfold jho
   rw [if_neg (by omega)]
   exact (jg2 t _ atl rfl).2.1
  rw [hp.mem_iff,List.mem_filter,h.tl]
  constructor
  ·rintro ⟨⟨i,a,b,rfl⟩,c⟩
   exact ⟨i,a,b,by simpa using c,rfl⟩
  ·rintro ⟨i,a,b,c,rfl⟩
   exact ⟨⟨i,a,b,rfl⟩,by simpa using c⟩
 refine ⟨by rw [he];exact jee _ h.once,hls,fun j hj hr=>?_,fun i j hi hj h1 h2=>h.uniq i j hi hj (by omega) (by omega),fun a ha=>?_,fun p=>?_⟩
 ·obtain ⟨a,q1,q2,q3⟩:=h.reqs j hj (by omega)
  refine ⟨a,(hm a).2 ⟨q1,fun d hd' e=>?_⟩,q2,q3⟩
  obtain ⟨i,i1,i2,i3,rfl⟩:=(hd d).1 hd'
  have:=h.uniq i j i1 hj i2 (by omega) (e.symm.trans q2)
  subst this
  omega
 ·obtain ⟨q1,q2⟩:=(hm a).1 ha
  obtain ⟨j,j1,j2,j3⟩:=h.al a q1
  refine ⟨j,j1,?_,j3⟩
  refine Classical.byContradiction fun hn=>q2 _ ((hd _).2 ⟨j,j1,j2,by omega,rfl⟩) j3
 ·rw [he,List.mem_filter,h.tl]
  constructor
  ·rintro ⟨⟨i,a,b,rfl⟩,c⟩
   exact ⟨i,a,by simpa using c,rfl⟩
  ·rintro ⟨i,a,b,rfl⟩
   exact ⟨⟨i,a,by omega,rfl⟩,by simpa using b⟩
theorem jlh {S:Sal} {t:Int} (ht:S.now<=t) (i:Nat):({ S with now:=t }:Sal).knows i↔S.knows i/\((S.os.getD i ja3).alive\/t<(S.os.getD i ja3).untl S.C):=by
 constructor
 ·rintro ⟨h1,h2⟩
  exact ⟨⟨h1,h2.imp id (fun h=>by have h':t<(S.os.getD i ja3).untl S.C:=h;omega)⟩,h2⟩
 ·rintro ⟨⟨h1,_⟩,h2⟩
  exact ⟨h1,h2⟩
end
section
theorem jvn {L L':List (Int × Int)} (h:∀ p,p∈L↔p∈L'):jc5 L=jc5 L'/\jad L=jad L':=by
 by_cases e:L=[]
 ·have e':L'=[]:=List.eq_nil_iff_forall_not_mem.2 (fun p hp=>by rw [← h,e] at hp;simp at hp)
  rw [e,e'];exact ⟨rfl,rfl⟩
 ·have e':L'≠[]:=fun c=>e (List.eq_nil_iff_forall_not_mem.2 (fun p hp=>by rw [h,c] at hp;simp at hp))
  obtain ⟨a1,a2,a3⟩:=jeq e
  obtain ⟨b1,b2,b3⟩:=jeq e'
  exact ⟨a1.trans b1.symm,jff (b3 _ ((h _).1 a2)) (a3 _ ((h _).2 b2))⟩
open Classical in
noncomputable def Sal.kset (S:Sal):List Nat:=(List.range S.os.length).filter (fun i=>decide (S.knows i))
noncomputable def Sal.tset (S:Sal):List (Int × Int):=S.kset.map (fun i=>((S.os.getD i ja3).untl S.C,(i:Int)+1))
theorem jum (S:Sal) (i:Nat):i∈S.kset↔S.knows i:=by
 unfold Sal.kset
 rw [List.mem_filter]
 constructor
 ·rintro ⟨_,h⟩;simpa using h
 ·intro h;exact ⟨List.mem_range.2 h.1,by simpa using h⟩
theorem jlc (S:Sal) (p:Int × Int):p∈S.tset↔∃ i,S.knows i/\p=((S.os.getD i ja3).untl S.C,(i:Int)+1):=by
 unfold Sal.tset
 rw [List.mem_map]
 constructor
 ·rintro ⟨i,h,rfl⟩;exact ⟨i,(jum S i).1 h,rfl⟩
 ·rintro ⟨i,h,rfl⟩;exact ⟨i,(jum S i).2 h,rfl⟩
theorem jiy {S:Sal} (hR:restS S) {i:Nat} (h:S.knows i):S.now<(S.os.getD i ja3).untl S.C:=by
 rcases h.2 with ha|ha
 ·rw [jde ha];exact hR.fut _ (jbf h.1) ha
 ·exact ha
theorem relO.firstK {V:PV} {S:Sal} {last:Nat} (h:relO V S last S.knows) (hR:restS S):jc5 V.tl=jc5 S.tset/\jad V.tl=jad S.tset :=
 jvn (fun p=>by
  rw [h.tl,jlc]
  constructor
  ·rintro ⟨i,a,_,rfl⟩;exact ⟨i,a,rfl⟩
  ·rintro ⟨i,a,rfl⟩
   exact ⟨i,a,by have:=jiy hR a;have:=h.tn;omega,rfl⟩)
theorem jmb {α:Type} {p q:α->Bool}:∀ {l:List α},(∀ x∈l,q x=true->p x=true)->(∃ x∈l,p x=true/\q x=false)->(l.filter q).length<(l.filter p).length
 | [],_,h=>by obtain ⟨x,hx,_⟩:=h;simp at hx
 | a :: l,h1,h2=>by
   have le:(l.filter q).length<=(l.filter p).length:=by
    clear h2
    induction l with
    | nil=>simp
    | cons b l ih =>
      have ih':=ih (fun x hx=>h1 x (by simp at hx ⊢;rcases hx with rfl|hx<;>simp_all))
      have hb:=h1 b (by simp)
      by_cases hq:q b=true
      ·rw [List.filter_cons_of_pos hq,List.filter_cons_of_pos (hb hq)];simpa using ih'
      ·by_cases hp:p b=true
       ·rw [List.filter_cons_of_neg hq,List.filter_cons_of_pos hp];simp;omega
       ·rw [List.filter_cons_of_neg hq,List.filter_cons_of_neg hp];exact ih'
   by_cases hq:q a=true
   ·rw [List.filter_cons_of_pos hq,List.filter_cons_of_pos (h1 a (by simp) hq)]
    obtain ⟨x,hx,hp,hn⟩:=h2
    have:=jmb (p:=p) (q:=q) (l:=l) (fun x hx=>h1 x (List.mem_cons_of_mem _ hx)) ⟨x,by
     rcases List.mem_cons.1 hx with rfl|hx
     ·rw [hq] at hn;cases hn
     ·exact hx,hp,hn⟩
    simpa using this
   ·by_cases hp:p a=true
    ·rw [List.filter_cons_of_neg hq,List.filter_cons_of_pos hp];simp;omega
    ·rw [List.filter_cons_of_neg hq,List.filter_cons_of_neg hp]
     obtain ⟨x,hx,hp',hn⟩:=h2
     exact jmb (p:=p) (q:=q) (l:=l) (fun x hx=>h1 x (List.mem_cons_of_mem _ hx)) ⟨x,by
      rcases List.mem_cons.1 hx with rfl|hx
      ·exact absurd hp' hp
      ·exact hx,hp',hn⟩
noncomputable def Sal.todo (S:Sal):Nat:=jbn S.os * (S.os.length+1)+S.kset.length
structure stopAt (S:Sal) (t:Int):Prop where
 some:∃ i,S.knows i/\t=(S.os.getD i ja3).untl S.C
 min:∀ i,S.knows i->t<=(S.os.getD i ja3).untl S.C
theorem jhn {S:Sal} (h:jc5 S.tset=true):stopAt S (jad S.tset).1:=by
 have hn:S.tset≠[]:=fun e=>by rw [e] at h;rw [jm4.2] at h;cases h
 obtain ⟨_,a2,a3⟩:=jeq hn
 obtain ⟨i,h1,h2⟩:=(jlc S _).1 a2
 refine ⟨⟨i,h1,by rw [h2]⟩,fun k hk=>?_⟩
 have:=a3 _ ((jlc S _).2 ⟨k,hk,rfl⟩)
 have:=jfo.1 this
 have h':((jad S.tset).1<(S.os.getD k ja3).untl S.C)\/((jad S.tset).1=(S.os.getD k ja3).untl S.C/\_):=this
 omega
theorem jux {S:Sal} (h:jc5 S.tset=false) (i:Nat):¬ S.knows i:=fun hk=>by
 have hn:S.tset≠[]:=fun e=>by
  have:=(jlc S _).2 ⟨i,hk,rfl⟩
  rw [e] at this
  simp at this
 rw [(jeq hn).1] at h
 cases h
section
variable {S:Sal} {t:Int}
theorem stopAt.alive (h:stopAt S t):∀ o∈S.os,o.alive->t<=o.upto:=fun o ho ha=>by
 obtain ⟨k,hk,rfl⟩:=jda ho
 have:=h.min k ⟨hk,.inl ha⟩
 rwa [jde ha] at this
theorem stopAt.later (h:stopAt S t) (hR:restS S):S.now<t:=by
 obtain ⟨i,h1,rfl⟩:=h.some
 exact jiy hR h1
theorem qat (h:stopAt S t) (hR:restS S) (h0:0<=S.now):(S.round t).todo<S.todo:=by
 have hl:=(jf1 S t).2.2.2
 have hm:=h.alive
 have hn:=h.later hR
 by_cases hx:∃ o∈S.os,o.alive/\o.upto=t
 ·obtain ⟨o,ho,ha,hu⟩:=hx
  obtain ⟨i,hi,rfl⟩:=jda ho
  have hp:∀ o∈S.os,o.alive->0<=o.upto:=fun o ho ha=>by have:=hR.fut o ho ha;omega
  obtain ⟨d1,d2⟩:=jpt S.os t hp S.os.length (Nat.le_refl _) i hi ha (by omega)
  obtain ⟨k,hk,hs,hku,_⟩:=jjx S.os t S.os.length (Nat.le_refl _) d1
  have:=hm _ (jbf hk) hs.symm
  have e:S.due t=t:=by unfold Sal.due;omega
  have hlt:=jl9 (S:=S) (to:=t) (by omega)
  rw [e] at hlt
  have hks:(S.round t).kset.length<=S.os.length:=by
   unfold Sal.kset
   refine Nat.le_trans (List.length_filter_le _ _) ?_
   rw [List.length_range,hl]
   exact Nat.le_refl _
  have h1:(jbn (S.round t).os+1) * (S.os.length+1)<=jbn S.os * (S.os.length+1):=Nat.mul_le_mul_right _ hlt
  rw [Nat.add_mul,Nat.one_mul] at h1
  unfold Sal.todo
  rw [hl]
  omega
 ·have hr:=jo2 (S:=S) (t:=t) hR.stable (fun o ho ha=>by
   have:=hm o ho ha
   have:o.upto≠t:=fun e=>hx ⟨o,ho,ha,e⟩
   omega)
  rw [hr]
  have hlt:({ S with now:=t }:Sal).kset.length<S.kset.length:=by
   unfold Sal.kset
   refine jmb (fun i _ hi=>?_) ?_
   ·have hi':({ S with now:=t }:Sal).knows i:=by simpa using hi
    have:=((jlh (by omega) i).1 hi').1
    simpa using this
   ·obtain ⟨i,h1,h2⟩:=h.some
    have hno:¬ ({ S with now:=t }:Sal).knows i:=fun c=>by
     rcases ((jlh (by omega) i).1 c).2 with ha|ha
     ·exact hx ⟨_,jbf h1.1,ha,by rw [h2,jde ha]⟩
     ·omega
    exact ⟨i,List.mem_range.2 h1.1,by simpa using h1,by simpa using hno⟩
  show jbn S.os * (S.os.length+1)+_<jbn S.os * (S.os.length+1)+_
  omega
theorem jis (S:Sal) {t:Int} (h:S.now<=t) (T:Sal) (hn:T.now=t) (hC:T.C=S.C) (ha:T.ansL=S.ansL):T.answers<=S.answers:=by
 unfold Sal.answers
 rw [ha]
 have:∀ l:List Ans,(l.filter T.remem).length<=(l.filter S.remem).length:=by
  intro l
  induction l with
  | nil=>simp
  | cons a l ih =>
    have hb:T.remem a=true->S.remem a=true:=by
     unfold Sal.remem
     rw [hn,hC]
     simp only [decide_eq_true_eq]
     omega
    by_cases hq:T.remem a=true
    ·rw [List.filter_cons_of_pos hq,List.filter_cons_of_pos (hb hq)];simpa using ih
    ·rw [List.filter_cons_of_neg hq]
     by_cases hp:S.remem a=true
     ·rw [List.filter_cons_of_pos hp];simp;omega
     ·rw [List.filter_cons_of_neg hp];exact ih
 exact this _
theorem job (S:Sal) (st en:Int) (hen:en≠12):∀ n,n<=S.os.length->(ja7 (jb9 S st en n).os).length<=(ja7 S.os).length
 | 0,_=>Nat.le_refl _
 | n+1,hn=>by
   have ih:=job S st en hen n (by omega)
   unfold jb9
   split
   ·exact Nat.le_trans (jj2 (by rw [jbw];omega) hen) ih
   ·exact ih
theorem jqg (S:Sal) (st en:Int) (hen:en≠12):(ja7 (S.past st en).os).length<=(ja7 S.os).length :=
 Nat.le_trans (jky _) (job S st en hen _ (Nat.le_refl _))
theorem jt9 (h:stopAt S t) (hR:restP S):restP (S.round t):=by
 obtain ⟨a,b,c,d⟩:=jf1 S t
 have hn:=h.later hR.R
 have h1:=jqg ({ S with now:=t }:Sal) 13 15 (by decide)
 have h2:=jqg (({ S with now:=t }:Sal).past 13 15) 12 17 (by decide)
 refine ⟨juz hR.R h.alive,?_,?_⟩
 ·rw [a]
  have:=hR.qlen
  have h3:(ja7 (S.round t).os).length<=(ja7 S.os).length:=Nat.le_trans h2 h1
  omega
 ·rw [a]
  have:=jis S (t:=t) (by omega) (S.round t) b a c
  have:=hR.alen
  omega
theorem jx6 (hJ:salJ S) (ht:0<=t/\t<=4611686018427387904):salJ (S.round t):=by
 obtain ⟨a,b,c,d⟩:=jf1 S t
 refine ⟨juq (juq (jlg hJ.I ht) 13 15 (by decide)) 12 17 (by decide),by rw [a];exact hJ.cap,by rw [a];exact hJ.queue,by rw [d];exact hJ.len,by rw [c];exact hJ.ats⟩
theorem jv9 {to:Int} (hto:S.now<=to) (h:∀ i,S.knows i->to<(S.os.getD i ja3).untl S.C):({ S with now:=to }:Sal).knows=S.knows:=by
 funext i
 exact propext ((jlh hto i).trans ⟨fun c=>c.1,fun c=>⟨c,.inr (h i c)⟩⟩)
theorem jzq {to:Int} (h:∀ i,S.knows i->to<(S.os.getD i ja3).untl S.C):S.tickTo to={ S with now:=to } :=
 js2 (qcm (fun o ho ha=>by
  obtain ⟨k,hk,rfl⟩:=jda ho
  have:=h k ⟨hk,.inl ha⟩
  rwa [jde ha] at this))
theorem jwn {to:Int} (hto:S.now<=to) (h:∀ i,S.knows i->to<(S.os.getD i ja3).untl S.C) (hR:restP S):restP ({ S with now:=to }:Sal):=by
 refine ⟨⟨fun o ho ha=>?_,hR.R.stable,hR.R.lease,hR.R.wait,hR.R.keep,hR.R.tokens,hR.R.queue⟩,hR.qlen,?_⟩
 ·obtain ⟨k,hk,rfl⟩:=jda ho
  have:=h k ⟨hk,.inl ha⟩
  rwa [jde ha] at this
 ·have:=jis S (t:=to) hto ({ S with now:=to }:Sal) rfl rfl rfl
  have:=hR.alen
  show (_:Int)<=S.C.tokens
  omega
theorem jht {k:Nat}:∀ (n:Nat) (S:Sal),((jax n S).os.getD k ja3).state=12->(jax n S).os.getD k ja3=S.os.getD k ja3
 | 0,_,_=>rfl
 | n+1,S,h=>by
   unfold jax at h ⊢
   split
   ·rfl
   ·next q qs hq =>
    split
    ·rfl
    ·next hf =>
     rw [hq] at h
     simp only at h
     rw [if_neg hf] at h
     obtain ⟨_,hl,hs⟩:=jcl hq ja3 (by decide)
     have ih:=jht n (S.holds q) h
     rw [ih] at h ⊢
     have hg:(S.holds q).os.getD k ja3=if k=q then { S.os.getD q ja3 with state:=13,cents:=(S.put q { S.os.getD q ja3 with state:=13 }).price,upto:=S.now+S.C.lease } else S.os.getD k ja3:=jbm _ hl
     rw [hg] at h ⊢
     by_cases e:k=q
     ·rw [if_pos e] at h;exact absurd h (by show ¬ (13:Int)=12;decide)
     ·rw [if_neg e]
theorem jws {k:Nat} (S:Sal) (h:((S.past 13 15).os.getD k ja3).state=12):(S.past 13 15).os.getD k ja3=S.os.getD k ja3:=by
 unfold Sal.past at h ⊢
 have e:=jht _ _ h
 have e':(jb9 S 13 15 S.os.length).promote.os.getD k ja3=(jb9 S 13 15 S.os.length).os.getD k ja3:=e
 rw [e'] at h ⊢
 rw [jgx S 13 15 _ (Nat.le_refl _)] at h ⊢
 split
 ·next hc=>rw [if_pos hc] at h;exact absurd h (by show ¬ (15:Int)=12;decide)
 ·rfl
end
end
end Go.Proofs.YtfhncfghblkgeaaGreat
