import Derived.Test.YtfhncfghblkgeabGreatL04
set_option maxRecDepth 100000
set_option maxHeartbeats 2000000
namespace Go.Proofs.YtfhncfghblkgeabGreat
open Go.RowKit
structure Ord where
 cust:Int
 units:Int
 state:Int
 cents:Int
 upto:Int
 ended:Int
structure Rep where
 kind:Int
 order:Int
 cents:Int
 upto:Int
structure Ans where
 frame:ByteArray
 token:Int
 rep:Rep
 at':Int
structure Cfg where
 stock:Int
 cap:Int
 queue:Int
 lease:Int
 wait:Int
 keep:Int
 tokens:Int
 prices:List (Int × Int)
structure Sal where
 C:Cfg
 now:Int
 os:List Ord
 ansL:List Ans
def qD:Ord:=⟨0,0,0,0,0,0⟩
def ZF:Rep:=⟨0,0,0,0⟩
def zU:Ans:=⟨ByteArray.empty,0,ZF,0⟩
def Ord.is (o:Ord) (st c:Int):Bool:=o.state==st && (c==0 || o.cust==c)
def qF (os:List Ord) (st c:Int):Int:=(os.map (fun o=>if o.is st c then o.units else 0)).sum
theorem Fk (os:List Ord) (st c:Int) {k:Nat} (h:k<os.length):qF (os.take (k+1)) st c=qF (os.take k) st c+if (os.getD k qD).is st c then (os.getD k qD).units else 0:=by
 unfold qF
 rw [List.take_succ_eq_append_getElem h,List.map_append,List.sum_append]
 simp [List.getD,uD h]
theorem kH {os:List Ord} (st c:Int) (h:∀ o∈os,0<=o.units):0<=qF os st c:=by
 induction os with
 | nil=>simp [qF]
 | cons o os ih =>
   have h1:=ih (fun o ho=>h o (List.mem_cons_of_mem _ ho))
   have h2:=h o (List.mem_cons_self)
   simp only [qF,List.map_cons,List.sum_cons] at h1 ⊢
   split<;>omega
theorem Dy {os:List Ord} (st c:Int) (h:∀ o∈os,0<=o.units) (k:Nat):qF (os.take k) st c<=qF os st c:=by
 have h1:qF os st c=qF (os.take k) st c+qF (os.drop k) st c:=by
  unfold qF
  rw [← List.sum_append,← List.map_append,List.take_append_drop]
 have h2:=kH (os:=os.drop k) st c (fun o ho=>h o (List.mem_of_mem_drop ho))
 omega
def Sal.left (S:Sal):Int:=S.C.stock - qF S.os 14 0
def Sal.free (S:Sal):Int:=S.left - qF S.os 13 0
def qZ (os:List Ord):Nat->List Nat
 | 0=>[]
 | k+1=>if (os.getD k qD).state=12 then qZ os k++[k] else qZ os k
def qK (os:List Ord):List Nat:=qZ os os.length
def xG (ps:List (Int × Int)) (sold:Int):Nat->Int
 | 0=>0
 | k+1=>if (ps.getD k (0,0)).1<=sold then (ps.getD k (0,0)).2 else xG ps sold k
def Sal.price (S:Sal):Int:=xG S.C.prices (qF S.os 14 0) S.C.prices.length
def Ord.vals (o:Ord):List Value:=[iv o.cust,iv o.units,iv o.state,iv o.cents,iv o.upto,iv o.ended]
def Ans.vals (a:Ans):List Value:=[.string a.frame,iv a.token,iv a.rep.kind,iv a.rep.order,iv a.rep.cents,iv a.rep.upto,iv a.at']
def zP (os:List Ord):List Value:=os.flatMap Ord.vals
def rT (ansL:List Ans):List Value:=ansL.flatMap Ans.vals
theorem Oe:∀ {os:List Ord} {i:Nat},i<os.length->∀ j,j<6->(zP os)[i * 6+j]?=(os.getD i qD).vals[j]?
 | [],_,h,_,_=>by simp at h
 | o :: os,0,_,j,hj=>by
   simp only [zP,List.flatMap_cons,Nat.zero_mul,Nat.zero_add]
   rw [List.getElem?_append_left (by simpa [Ord.vals] using hj)]
   rfl
 | o :: os,i+1,h,j,hj=>by
   have ih:=Oe (os:=os) (i:=i) (by simpa using h) j hj
   simp only [zP,List.flatMap_cons] at ih ⊢
   rw [List.getElem?_append_right (by simp [Ord.vals];omega)]
   have e:(i+1) * 6+j - o.vals.length=i * 6+j:=by simp [Ord.vals];omega
   rw [e,ih]
   simp [List.getD]
theorem Ut:∀ {ansL:List Ans} {i:Nat},i<ansL.length->∀ j,j<7->(rT ansL)[i * 7+j]?=(ansL.getD i zU).vals[j]?
 | [],_,h,_,_=>by simp at h
 | o :: ansL,0,_,j,hj=>by
   simp only [rT,List.flatMap_cons,Nat.zero_mul,Nat.zero_add]
   rw [List.getElem?_append_left (by simpa [Ans.vals] using hj)]
   rfl
 | o :: ansL,i+1,h,j,hj=>by
   have ih:=Ut (ansL:=ansL) (i:=i) (by simpa using h) j hj
   simp only [rT,List.flatMap_cons] at ih ⊢
   rw [List.getElem?_append_right (by simp [Ans.vals];omega)]
   have e:(i+1) * 7+j - o.vals.length=i * 7+j:=by simp [Ans.vals];omega
   rw [e,ih]
   simp [List.getD]
def nG (w:World) (g i:Nat) (o:Ord):Prop :=
 w.cell? (aq g (i * 6))=some (iv o.cust)/\w.cell? (aq g (i * 6+1))=some (iv o.units)/\w.cell? (aq g (i * 6+2))=some (iv o.state)/\w.cell? (aq g (i * 6+3))=some (iv o.cents)/\w.cell? (aq g (i * 6+4))=some (iv o.upto)/\w.cell? (aq g (i * 6+5))=some (iv o.ended)
def Xl (w:World) (v:Value) (os:List Ord):Prop:=∃ a c,v=.slice a os.length c/\(0<os.length->∃ g,a=some (aq g 0)/\g<w.heap.size/\∀ i,i<os.length->nG w g i (os.getD i qD))
theorem oJ {w:World} {B:Nat} {v:Value} {os:List Ord} {T:TypeId} (h:w.ownsRow B T 6 v os.length (zP os)):Xl w v os:=by
 rcases h.2 with ⟨rfl,h0⟩|⟨g,cap,cur,rfl,hg,hh,_⟩
 ·exact ⟨none,0,by rw [h0],fun hp=>uO⟩
 ·refine ⟨_,_,rfl,fun _=>⟨g,rfl,(blt hh),fun i hi=>?_⟩⟩
  have c:∀ j,j<6->∀ u,(os.getD i qD).vals[j]?=some u->w.cell? (aq g (i * 6+j))=some u:=fun j hj u hu=>by
   have:=h.cells (g:=g) rfl _ _ ((Oe hi j hj).trans hu)
   rwa [Addr.add_lit,Nat.zero_add] at this
  exact ⟨c 0 uO _ rfl,c 1 uO _ rfl,c 2 uO _ rfl,c 3 uO _ rfl,c 4 uO _ rfl,c 5 uO _ rfl⟩
theorem nV {w w':World} {g i:Nat} {o:Ord} (h:nG w g i o) (hb:Bl w w') (hg:g<w.heap.size):nG w' g i o :=
 ⟨(hb.cell (p:=(aq g (i * 6))) hg).trans h.1,(hb.cell (p:=(aq g (i * 6+1))) hg).trans h.2.1,(hb.cell (p:=(aq g (i * 6+2))) hg).trans h.2.2.1,(hb.cell (p:=(aq g (i * 6+3))) hg).trans h.2.2.2.1,(hb.cell (p:=(aq g (i * 6+4))) hg).trans h.2.2.2.2.1,(hb.cell (p:=(aq g (i * 6+5))) hg).trans h.2.2.2.2.2⟩
structure saleAt (w:World) (B R:Nat) (S:Sal) (ap:Option Addr) (lp cp:Nat) (vo va:Value):Prop where
 blk:w.heap[R]?=some (.cells #[iv S.C.stock,iv S.C.cap,iv S.C.queue,iv S.C.lease,iv S.C.wait,iv S.C.keep,iv S.C.tokens,.slice ap lp cp,iv S.now,vo,va] 170)
 tiers:tiersAt w ap lp cp S.C.prices
 low:∀ b off,ap=some (aq b off)->b<B
 os:w.ownsRow B 213 6 vo S.os.length (zP S.os)
 ansL:w.ownsRow B 211 7 va S.ansL.length (rT S.ansL)
theorem jS {w:World} {R:Nat} {c0 c1 c2 c3 c4 c5 c6 c7 c8 c9 c10:Value} {T:TypeId} (h:w.heap[R]?=some (.cells #[c0,c1,c2,c3,c4,c5,c6,c7,c8,c9,c10] T)) :
 w.cell? (aq R 0)=some c0/\w.cell? (aq R 1)=some c1/\w.cell? (aq R 2)=some c2/\w.cell? (aq R 3)=some c3/\w.cell? (aq R 4)=some c4/\w.cell? (aq R 5)=some c5/\w.cell? (aq R 6)=some c6/\w.cell? (aq R 7)=some c7/\w.cell? (aq R 8)=some c8/\w.cell? (aq R 9)=some c9/\w.cell? (aq R 10)=some c10:=by
 refine ⟨?_,?_,?_,?_,?_,?_,?_,?_,?_,?_,?_⟩<;>(rw [uI h];rfl)
theorem Fb (R:Nat) (v:Value) (os:List Ord) (st c:Int) (w:World) (h9:w.cell? (aq R 9)=some v) (hd:Xl w v os) (hl:os.length * 48<=140737488355328) (hn:∀ o∈os,0<=o.units) (hb:qF os st c<=4611686018427387904) :
 Ca 122 #[pt R 0,iv st,iv c] w fun e w'=>e=.returned (iv (qF os st c))/\Below w.heap.size w w':=by
 obtain ⟨a,cp,rfl,hc⟩:=hd
 have hRw:R<w.heap.size:=uC w _ h9
 have HC:Hid (0<os.length->∃ g,a=some (aq g 0)/\g<w.heap.size/\∀ i,i<os.length->nG w g i (os.getD i qD)):=hc
 have HM:Hid (∀ k,0<=qF (os.take k) st c/\qF (os.take k) st c<=4611686018427387904):=fun k=>⟨kH st c (fun o ho=>hn o (List.mem_of_mem_take ho)),Int.le_trans (Dy st c hn k) hb⟩
 have H9:Hid (w.cell? (aq R 9)=some (.slice a os.length cp)):=h9
 clear hc hn hb h9
 go_enter Tryz.func122,Tryz.ntmps122
 go_wp2_with fail
 go_loopw [7,8] (fun n i wr=>∃ k:Nat,k<=os.length/\i=iv k/\n=iv (qF (os.take k) st c)/\Below w.heap.size w wr) (fun _ i _=>os.length - (intOf i).toNat)
 case atStart=>exact ⟨0,Nat.zero_le _,rfl,rfl,uM _ _⟩
 case round =>
  obtain ⟨k,hk,rfl,rfl,hbel⟩:=hrel
  have c9:=(hbel.cell (p:=(aq R 9)) hRw).trans H9.out
  have hRr:R<wr.heap.size:=uB hRw hbel.size
  have hz:=hbel.size
  by_cases hlt:k<os.length
  ·obtain ⟨g,rfl,hgw,hcell⟩:=HC.out uO
   obtain ⟨e0,e1,e2,e3,e4,e5⟩:=nV (hcell k hlt) hbel hgw
   have hgr:g<wr.heap.size:=uB hgw hbel.size
   have HN:Hid (qF (os.take (k+1)) st c=qF (os.take k) st c+if (os.getD k qD).is st c then (os.getD k qD).units else 0):=Fk os st c hlt
   have hm0:=HM.out k
   have hm1:=HM.out (k+1)
   have b0:(0:Int)<=(k:Int):=uO
   have b1:(k:Int)<(os.length:Int):=uO
   generalize os.getD k qD=o at e0 e1 e2 e3 e4 e5 HN
   generalize hm1':qF (os.take (k+1)) st c=m1 at HN hm1
   have HK:Hid (qF (os.take (k+1)) st c=m1):=hm1'
   generalize qF (os.take k) st c=m at HN hm0
   clear hm1'
   obtain ⟨ocust,ounits,ostate,ocents,oupto,oended⟩:=o
   simp only [Ord.is] at e0 e1 e2 e3 e4 e5 HN
   clear hcell HC
   by_cases hs:ostate=st
   ·subst hs
    by_cases hc0:c=0
    ·subst hc0
     have hm2:m1=m+ounits:=by simpa using HN.out
     subst hm2
     go_wp2
     exact ⟨⟨k+1,uO,vN,by rw [HK.out],bL⟩,by simp [intOf];omega⟩
    ·have hc1:(c==0)=false:=by simpa using hc0
     by_cases hcc:ocust=c
     ·subst hcc
      have hm2:m1=m+ounits:=by simpa using HN.out
      subst hm2
      go_wp2
      exact ⟨⟨k+1,uO,vN,by rw [HK.out],bL⟩,by simp [intOf];omega⟩
     ·have hc2:(ocust==c)=false:=by simpa using hcc
      have hm2:m1=m:=by simpa [hc1,hc2] using HN.out
      subst hm2
      go_wp2
      exact ⟨⟨k+1,uO,vN,by rw [HK.out],bL⟩,by simp [intOf];omega⟩
   ·have hs1:(ostate==st)=false:=by simpa using hs
    have hm2:m1=m:=by simpa [hs1] using HN.out
    subst hm2
    go_wp2
    exact ⟨⟨k+1,uO,vN,by rw [HK.out],bL⟩,by simp [intOf];omega⟩
  ·go_wp2
   go_ret
   exact ⟨by rw [List.take_of_length_le uO];rfl,hbel⟩
theorem yA {n:Int} (h0:-9223372036854775808<=n) (h1:n<=9223372036854775807):IntKind.i64.wrap n=n:=by
 rw [IntKind.wrap_i64]
 omega
theorem qL {w w':World} {B R:Nat} {S:Sal} {ap:Option Addr} {lp cp:Nat} {vo va:Value} (h:saleAt w B R S ap lp cp vo va) (hb:Bl w w'):saleAt w' B R S ap lp cp vo va :=
 ⟨(hb.block R (blt h.blk)).trans h.blk,h.tiers.below hb (uA _),h.low,qH h.os hb (uA _),qH h.ansL hb (uA _)⟩
structure salN (S:Sal):Prop where
 units:∀ o∈S.os,0<=o.units/\o.units<=4294967296
 held:∀ c,qF S.os 13 c<=4294967296
 sold:∀ c,qF S.os 14 c<=4294967296
 waits:∀ c,c≠0->qF S.os 12 c<=4294967296
 len:S.os.length * 48+48<=140737488351232
 stock:0<=S.C.stock/\S.C.stock<=4294967296
theorem jT {w:World} {B R:Nat} {S:Sal} {ap:Option Addr} {lp cp:Nat} {vo va:Value} (h:saleAt w B R S ap lp cp vo va) (hN:salN S) (st c:Int) (hc:st=13\/st=14\/(st=12/\c≠0)) :
 ∀ W,Below w.heap.size w W->Ca 122 #[pt R 0,iv st,iv c] W fun e w'=>e=.returned (iv (qF S.os st c))/\Below W.heap.size W w':=by
 intro W hW
 have h':=qL h hW
 have h9:W.cell? (aq R 9)=some vo:=cB h'.blk
 refine Fb R vo S.os st c W h9 (oJ h'.os) (by have:=hN.len;omega) (fun o ho=>(hN.units o ho).1) ?_
 rcases hc with rfl|rfl|⟨rfl,hc⟩
 ·have:=hN.held c;omega
 ·have:=hN.sold c;omega
 ·have:=hN.waits c hc;omega
theorem fN {S:Sal} (hN:salN S) (st c:Int):0<=qF S.os st c:=kH st c (fun o ho=>(hN.units o ho).1)
theorem Fy (R:Nat) (stock u:Int) (w:World) (h0:w.cell? (aq R 0)=some (iv stock)) (hs:0<=stock/\stock<=4294967296) (hu:0<=u/\u<=4294967296)
 (HU:Hid (∀ W,Below w.heap.size w W->Ca 122 #[pt R 0,iv 14,iv 0] W fun e w'=>e=.returned (iv u)/\Below W.heap.size W w')) :
 Ca 148 #[pt R 0] w fun e w'=>e=.returned (iv (stock - u))/\Below w.heap.size w w':=by
 have hRw:R<w.heap.size:=uC w _ h0
 go_enter Tryz.func148,Tryz.ntmps148
 have hw:IntKind.i64.wrap (stock - u)=stock - u:=yA uO uO
 go_wp2_with fail
 go_region_held3 (fun w'=>w'.cell? (aq R 0)=some (iv stock)) (simp [go_sem, *])
  (first|(go_at_call 122;refine (HU.out _ bL).mono ?_;rintro e w1 ⟨rfl,b⟩
          have e0:=(b.cell (p:=(aq R 0)) uS).trans (uN:_=some (iv stock))))
 go_wp2
 go_ret
 exact ⟨rfl,uL (show Below w.heap.size w _ from bL) (b.mono vS)⟩
section
section
variable {w:World} {B R:Nat} {S:Sal} {ap:Option Addr} {lp cp:Nat} {vo va:Value}
theorem bG (h:saleAt w B R S ap lp cp vo va) (hN:salN S) :
 ∀ W,Below w.heap.size w W->Ca 148 #[pt R 0] W fun e w'=>e=.returned (iv S.left)/\Below W.heap.size W w':=by
 intro W hW
 have h':=qL h hW
 exact Fy R S.C.stock (qF S.os 14 0) W (jS h'.blk).1 hN.stock ⟨fN hN 14 0,hN.sold 0⟩ (fun W2 h2=>jT h' hN 14 0 (.inr (.inl rfl)) W2 h2)
end
theorem Hi (R:Nat) (l u:Int) (w:World) (hs:-4294967296<=l/\l<=4294967296) (hu:0<=u/\u<=4294967296)
 (HL:Hid (∀ W,Below w.heap.size w W->Ca 148 #[pt R 0] W fun e w'=>e=.returned (iv l)/\Below W.heap.size W w'))
 (HU:Hid (∀ W,Below w.heap.size w W->Ca 122 #[pt R 0,iv 13,iv 0] W fun e w'=>e=.returned (iv u)/\Below W.heap.size W w')) :
 Ca 121 #[pt R 0] w fun e w'=>e=.returned (iv (l - u))/\Below w.heap.size w w':=by
 go_enter Tryz.func121,Tryz.ntmps121
 go_wp2_with (first
  | (go_at_call 148;refine (HL.out _ bL).mono ?_;rintro e w1 ⟨rfl,b1⟩
     have hb1:Bl w w1:=uL (show Below w.heap.size w _ from bL) (b1.mono vS))
  | (go_at_call 122;refine (HU.out _ bL).mono ?_;rintro e w2 ⟨rfl,b2⟩))
 go_ret
 exact ⟨rfl,uL hb1 (b2.mono hb1.size)⟩
section
variable {w:World} {B R:Nat} {S:Sal} {ap:Option Addr} {lp cp:Nat} {vo va:Value}
theorem Vp (hN:salN S):-4294967296<=S.left/\S.left<=4294967296:=by
 have h1:=fN hN 14 0
 have h2:=hN.sold 0
 have h3:=hN.stock
 unfold Sal.left
 omega
theorem bH (h:saleAt w B R S ap lp cp vo va) (hN:salN S) :
 ∀ W,Below w.heap.size w W->Ca 121 #[pt R 0] W fun e w'=>e=.returned (iv S.free)/\Below W.heap.size W w':=by
 intro W hW
 have h':=qL h hW
 exact Hi R S.left (qF S.os 13 0) W (Vp hN) ⟨fN hN 13 0,hN.held 0⟩ (bG h' hN) (jT h' hN 13 0 (.inl rfl))
end
theorem Tryz.infoInt:(Tryz.prog.info? 3).map (fun i=>(i.zero,i.size,i.bytes))=some (some (iv 0),1,8):=by kernel_rfl
def Xv (n:Nat):Value:=iv n
theorem aN (os:List Ord):∀ k,(qZ os k).length<=k
 | 0=>uA _
 | k+1=>by
   have:=aN os k
   unfold qZ
   split
   ·simp;omega
   ·omega
theorem dD (os:List Ord):∀ k,∀ q∈qZ os k,q<k
 | 0,q,h=>by simp [qZ] at h
 | k+1,q,h=>by
   unfold qZ at h
   split at h
   ·rcases List.mem_append.1 h with h|h
    ·have:=dD os k q h;omega
    ·simp at h;omega
   ·have:=dD os k q h;omega
theorem Lp (R:Nat) (v:Value) (os:List Ord) (w:World) (h9:w.cell? (aq R 9)=some v) (hd:Xl w v os) (hl:os.length * 48+48<=140737488351232) :
 Ca 120 #[pt R 0] w fun e w'=>∃ out,e=.returned out/\w'.ownsRow w.heap.size 3 1 out (qK os).length ((qK os).map Xv)/\Below w.heap.size w w':=by
 obtain ⟨i0,hi,hz0,hz1,hz2⟩:=info_parts Tryz.infoInt
 obtain ⟨a,cp,rfl,hc⟩:=hd
 have hRw:R<w.heap.size:=uC w _ h9
 have HC:Hid (0<os.length->∃ g,a=some (aq g 0)/\g<w.heap.size/\∀ i,i<os.length->nG w g i (os.getD i qD)):=hc
 have H9:Hid (w.cell? (aq R 9)=some (.slice a os.length cp)):=h9
 clear hc h9
 go_enter Tryz.func120,Tryz.ntmps120
 go_wp2_with fail
 go_loopw [3,4] (fun l i wr=>∃ k:Nat,k<=os.length/\i=iv k/\Hid (wr.ownsRow w.heap.size 3 1 l (qZ os k).length ((qZ os k).map Xv))/\Below w.heap.size w wr) (fun _ i _=>os.length - (intOf i).toNat)
 case atStart=>exact ⟨0,Nat.zero_le _,rfl,World.ownsRow_nil _ _ _ _,uM _ _⟩
 case round =>
  obtain ⟨k,hk,rfl,HO,hbel⟩:=hrel
  have c9:=(hbel.cell (p:=(aq R 9)) hRw).trans H9.out
  have hRr:R<wr.heap.size:=uB hRw hbel.size
  have hz:=hbel.size
  have hql:=aN os k
  obtain ⟨la,lc,rfl⟩:=yE HO.out
  by_cases hlt:k<os.length
  ·obtain ⟨g,rfl,hgw,hcell⟩:=HC.out uO
   have e2:=(nV (hcell k hlt) hbel hgw).2.2.1
   have hgr:g<wr.heap.size:=uB hgw hbel.size
   have b0:(0:Int)<=(k:Int):=uO
   have b1:(k:Int)<(os.length:Int):=uO
   have HQ1:Hid ((os.getD k qD).state=12->qZ os (k+1)=qZ os k++[k]):=fun h=>by rw [qZ,uQ h]
   have HQ2:Hid (¬ (os.getD k qD).state=12->qZ os (k+1)=qZ os k):=fun h=>by rw [qZ,uP h]
   generalize (os.getD k qD).state=st at e2 HQ1 HQ2
   clear hcell HC
   by_cases hs:st=12
   ·have hq:=HQ1.out hs
    subst hs
    go_wp2_with (at_builtin;refine wpList_append_own_at _ rfl _ _ 53 rfl w.heap.size 3 i0 (iv 0) 1 8 Tryz.underlying53 hi hz0 hz1 hz2 rfl vO _ _ _ rfl (HO.out.alloc _) (aq wr.heap.size 0) 1 1 [iv k] rfl rfl ?c1 ?c2 ?c3 ?c4 ?c5 ?_)
    case c2=>rfl
    case c3=>unfold maxLen;omega
    case c4=>omega
    case c5=>omega
    intro l' w3 hown3 hgrow _ hat
    have hb3:Below w.heap.size w w3:=⟨hgrow.os.trans hbel.os,hgrow.tape.trans hbel.tape,hgrow.output.trans hbel.output,by have:=hgrow.size;simp at this;omega,fun b hb=>by
     rw [hgrow.block b uT (fun e=>by have:=(uJ HO.out b e.symm).1;omega),uE wr _ b uO]
     exact hbel.block b hb⟩
    have HO3:Hid (w3.ownsRow w.heap.size 3 1 l' (qZ os (k+1)).length ((qZ os (k+1)).map Xv)):=by
     show World.ownsRow _ _ _ _ _ _ _
     rw [hq,List.map_append,List.length_append]
     exact hown3
    obtain ⟨la',lc',rfl⟩:=yE hown3
    clear hown3 hgrow hat HO
    go_wp2
    exact ⟨⟨k+1,uO,vN,HO3,hb3⟩,by simp [intOf];omega⟩
   ·have hq:=HQ2.out hs
    have hs1:(st==12)=false:=by simpa using hs
    have HO3:Hid (wr.ownsRow w.heap.size 3 1 (.slice la (qZ os k).length lc) (qZ os (k+1)).length ((qZ os (k+1)).map Xv)):=by
     show World.ownsRow _ _ _ _ _ _ _
     rw [hq]
     exact HO.out
    go_wp2
    exact ⟨⟨k+1,uO,vN,HO3,hbel⟩,by simp [intOf];omega⟩
  ·have hke:k=os.length:=uO
   subst hke
   go_wp2
   go_ret
   exact ⟨_,rfl,HO.out,hbel⟩
section
variable {w:World} {B R:Nat} {S:Sal} {ap:Option Addr} {lp cp:Nat} {vo va:Value}
theorem gO (h:saleAt w B R S ap lp cp vo va) (hN:salN S) :
 ∀ W,Below w.heap.size w W->Ca 120 #[pt R 0] W fun e w'=>∃ out,e=.returned out/\w'.ownsRow W.heap.size 3 1 out (qK S.os).length ((qK S.os).map Xv)/\Below W.heap.size W w':=by
 intro W hW
 have h':=qL h hW
 exact Lp R vo S.os W (cB h'.blk) (oJ h'.os) hN.len
end
theorem Kp (R:Nat) (ap:Option Addr) (lp cp:Nat) (ps:List (Int × Int)) (sold:Int) (w:World) (h7:w.cell? (aq R 7)=some (.slice ap lp cp)) (ht:tiersAt w ap lp cp ps)
 (HU:Hid (∀ W,Below w.heap.size w W->Ca 122 #[pt R 0,iv 14,iv 0] W fun e w'=>e=.returned (iv sold)/\Below W.heap.size W w')) :
 Ca 173 #[pt R 0] w fun e w'=>e=.returned (iv (xG ps sold ps.length))/\Below w.heap.size w w':=by
 have hRw:R<w.heap.size:=uC w _ h7
 obtain ⟨t1,t2,t3,t4,t5⟩:=ht
 subst t1
 have HT:Hid (0<ps.length->∃ b off,ap=some (aq b off)/\b<w.heap.size/\∀ i,i<ps.length->w.cell? (aq b (off+i * 2))=some (iv (ps.getD i (0,0)).1)/\w.cell? (aq b (off+i * 2+1))=some (iv (ps.getD i (0,0)).2)):=fun h=>t5 (List.length_pos_iff.1 h)
 have H7:Hid (w.cell? (aq R 7)=some (.slice ap ps.length cp)):=h7
 clear t4 t5 h7
 go_enter Tryz.func173,Tryz.ntmps173
 go_wp2_with (go_at_call 122;refine (HU.out _ bL).mono ?_;rintro e w1 ⟨rfl,b1⟩)
 go_loopw [4,5] (fun c i wr=>∃ k:Nat,k<=ps.length/\i=iv k/\c=iv (xG ps sold k)/\Below w.heap.size w wr) (fun _ i _=>ps.length - (intOf i).toNat)
 case atStart=>exact ⟨0,Nat.zero_le _,rfl,rfl,b1⟩
 case round =>
  obtain ⟨k,hk,rfl,rfl,hbel⟩:=hrel
  have c7:=(hbel.cell (p:=(aq R 7)) hRw).trans H7.out
  by_cases hlt:k<ps.length
  ·obtain ⟨b,off,rfl,hbw,hcell⟩:=HT.out uO
   obtain ⟨k0,k1⟩:=hcell k hlt
   have d0:=(hbel.cell (p:=(aq b (off+k * 2))) hbw).trans k0
   have d1:=(hbel.cell (p:=(aq b (off+k * 2+1))) hbw).trans k1
   have HP:Hid (xG ps sold (k+1)=if (ps.getD k (0,0)).1<=sold then (ps.getD k (0,0)).2 else xG ps sold k):=rfl
   have b0:(0:Int)<=(k:Int):=uO
   have b1':(k:Int)<(ps.length:Int):=uO
   clear k0 k1 hcell HT
   generalize ps.getD k (0,0)=p at d0 d1 HP
   obtain ⟨p0,p1⟩:=p
   simp only at d0 d1 HP
   by_cases hle:p0<=sold
   ·have HP2:Hid (xG ps sold (k+1)=p1):=by rw [Hid,HP.out,uQ hle]
    go_wp2
    exact ⟨⟨k+1,uO,vN,by rw [HP2.out],bL⟩,by simp [intOf];omega⟩
   ·have HP2:Hid (xG ps sold (k+1)=xG ps sold k):=by rw [Hid,HP.out,uP hle]
    have hle':decide (p0<=sold)=false:=by simpa using hle
    go_wp2
    exact ⟨⟨k+1,uO,vN,by rw [HP2.out],bL⟩,by simp [intOf];omega⟩
  ·have hke:k=ps.length:=uO
   subst hke
   go_wp2
   go_ret
   exact ⟨rfl,hbel⟩
section
variable {w:World} {B R:Nat} {S:Sal} {ap:Option Addr} {lp cp:Nat} {vo va:Value}
theorem Ue (h:saleAt w B R S ap lp cp vo va) (hN:salN S) :
 ∀ W,Below w.heap.size w W->Ca 173 #[pt R 0] W fun e w'=>e=.returned (iv S.price)/\Below W.heap.size W w':=by
 intro W hW
 have h':=qL h hW
 exact Kp R ap lp cp S.C.prices (qF S.os 14 0) W (cB h'.blk) h'.tiers (fun W2 h2=>jT h' hN 14 0 (.inr (.inl rfl)) W2 h2)
end
end
section
theorem tW:∀ os:List Ord,(zP os).length=os.length * 6
 | []=>rfl
 | o :: os=>by
   have:=tW os
   simp only [zP,List.flatMap_cons,List.length_append,List.length_cons,Ord.vals,List.length_nil] at this ⊢
   omega
theorem Va {os:List Ord} {i:Nat} (h:i<os.length):zP os=zP (os.take i)++((os.getD i qD).vals++zP (os.drop (i+1))):=by
 have e:os=os.take i++os.getD i qD :: os.drop (i+1):=by
  have:=List.drop_eq_getElem_cons h
  have g:os.getD i qD=os[i]:=by simp [List.getD,uD h]
  rw [g,← this,List.take_append_drop]
 conv=>lhs;rw [e]
 simp [zP]
theorem eJ {os:List Ord} {i:Nat} (o:Ord) (h:i<os.length):zP (os.set i o)=zP (os.take i)++(o.vals++zP (os.drop (i+1))):=by
 rw [List.set_eq_take_append_cons_drop,uQ h]
 simp [zP]
theorem pA {w:World} {B g n cap size:Nat} {T:TypeId} {xs:List Value} (h:w.ownsRow B T size (.slice (some (aq g 0)) n cap) n xs):∃ Z,w.heap[g]?=some (.cells (xs++Z).toArray T (0,0))/\B<=g/\n<=cap/\cap<=maxLen/\(xs++Z).length=cap * size/\xs.length=n * size:=by
 obtain ⟨hx,h⟩:=h
 rcases h with ⟨h,_⟩|⟨g',cap',cur,h,hB,hh,h1,h2,h3,h4⟩
 ·simp at h
 ·simp only [Value.slice.injEq,Option.some.injEq,Addr.mk.injEq,and_true,true_and] at h
  obtain ⟨rfl,rfl⟩:=h
  refine ⟨cur.toList.drop (n * size),?_,hB,h1,h2,?_,hx⟩
  ·rw [← h4,List.take_append_drop];simpa using hh
  ·rw [← h4,List.take_append_drop];simpa using h3
theorem Jp {w:World} {B g n cap size:Nat} {T:TypeId} {xs Z:List Value} (hh:w.heap[g]?=some (.cells (xs++Z).toArray T (0,0))) (hB:B<=g) (h1:n<=cap) (h2:cap<=maxLen) (h3:(xs++Z).length=cap * size) (hx:xs.length=n * size):w.ownsRow B T size (.slice (some (aq g 0)) n cap) n xs :=
 ⟨hx,.inr ⟨g,cap,_,rfl,hB,hh,h1,h2,by simpa using h3,by show (xs++Z).take (n * size)=xs;rw [← hx,List.take_left'];rfl⟩⟩
def Sal.put (S:Sal) (i:Nat) (o:Ord):Sal:={ S with os:=S.os.set i o }
section
variable {w w':World} {B R:Nat} {S:Sal} {ap:Option Addr} {lp cp:Nat} {vo va:Value}
theorem Zs {g cap i:Nat} {o:Ord} {Z:List Value} (h:saleAt w B R S ap lp cp (.slice (some (aq g 0)) S.os.length cap) va) (hb:w.heap[g]?=some (.cells (zP S.os++Z).toArray 213 (0,0)))
 (hg:w'.heap[g]?=some (.cells (zP (S.os.set i o)++Z).toArray 213 (0,0))) (hs:Same (fun b=>b=g) w w'):saleAt w' B R (S.put i o) ap lp cp (.slice (some (aq g 0)) S.os.length cap) va:=by
 have hR:R≠g:=fun e=>by have:=h.blk;rw [e,hb] at this;simp at this
 obtain ⟨Z',hb',hB,h1,h2,h3,hx⟩:=pA h.os
 have hlen:(zP (S.os.set i o)++Z).length=(zP S.os++Z').length:=by
  rw [hb] at hb'
  simp only [Option.some.injEq,Obj.cells.injEq,Array.mk.injEq,and_true] at hb'
  rw [← hb']
  simp [tW]
 have hos:w'.ownsRow B 213 6 (.slice (some (aq g 0)) S.os.length cap) (S.put i o).os.length (zP (S.put i o).os):=by
  have:=Jp (n:=S.os.length) (size:=6) hg hB h1 h2 (hlen.trans h3) (by rw [tW,List.length_set])
  simpa [Sal.put] using this
 have hap:∀ b off,ap=some (aq b off)->b≠g:=fun b off e=>by have:=h.low b off e;omega
 refine ⟨(hs.block R (blt h.blk) hR).trans h.blk,?_,h.low,hos,?_⟩
 ·obtain ⟨t1,t2,t3,t4,t5⟩:=h.tiers
  refine ⟨t1,t2,t3,t4,fun hne=>?_⟩
  obtain ⟨b,off,rfl,hbw,hc⟩:=t5 hne
  exact ⟨b,off,rfl,uB hbw hs.size,fun k hk=>⟨(hs.cell hbw (hap b off rfl)).trans (hc k hk).1,(hs.cell hbw (hap b off rfl)).trans (hc k hk).2⟩⟩
 ·exact qG h.ansL (fun k hk=>hs.block k (uJ h.ansL k hk).2 (fun e=>qP h.ansL hb vO (e▸hk)))
end
theorem Gr (R g cap n i:Nat) (st now:Int) (w:World) (h9:w.cell? (aq R 9)=some (.slice (some (aq g 0)) n cap)) (h8:w.cell? (aq R 8)=some (iv now)) (hi:i<n) (hRg:R≠g) (u2 u5:Value) (c2:w.cell? (aq g (i * 6+2))=some u2) (c5:w.cell? (aq g (i * 6+5))=some u5) (f2:w.frozen? (aq g (i * 6+2))=false) (f5:w.frozen? (aq g (i * 6+5))=false) :
 Ca 149 #[pt R 0,iv i,iv st] w fun e w'=>e=.returned (.tuple #[])/\Below w.heap.size ((w.sc g (i * 6+2) (iv st)).sc g (i * 6+5) (iv now)) w':=by
 have b0:(0:Int)<=(i:Int):=uO
 have b1:(i:Int)<(n:Int):=uO
 have hgR:g≠R:=fun e=>hRg e.symm
 go_enter Tryz.func149,Tryz.ntmps149
 go_wp2_with fail
 go_region
 go_end0
 exact ⟨rfl,rfl,rfl,rfl,uA _,fun _ _=>rfl⟩
def Sal.ends (S:Sal) (i:Nat) (st:Int):Sal:=S.put i { S.os.getD i qD with state:=st,ended:=S.now }
section
variable {w w':World} {B R:Nat} {S:Sal} {ap:Option Addr} {lp cp:Nat} {vo va:Value}
theorem Xg {g cap:Nat} (h:saleAt w B R S ap lp cp (.slice (some (aq g 0)) S.os.length cap) va) {i:Nat} (hi:i<S.os.length):∃ Z,w.heap[g]?=some (.cells (zP S.os++Z).toArray 213 (0,0))/\zP S.os++Z=zP (S.os.take i)++((S.os.getD i qD).vals++(zP (S.os.drop (i+1))++Z))/\(zP (S.os.take i)).length=i * 6:=by
 obtain ⟨Z,hb,_⟩:=pA h.os
 exact ⟨Z,hb,by rw [Va hi];simp,by rw [tW,List.length_take,Nat.min_eq_left uO]⟩
theorem cP (h:saleAt w B R S ap lp cp vo va) {i:Nat} (hi:i<S.os.length):∃ g cap,vo=.slice (some (aq g 0)) S.os.length cap:=by
 rcases h.os.2 with ⟨_,h0⟩|⟨g,c,cur,hv,_⟩
 ·omega
 ·exact ⟨g,c,hv⟩
theorem mF (h:saleAt w B R S ap lp cp vo va) {i:Nat} (hi:i<S.os.length) (st:Int) :
 ∀ W,Below w.heap.size w W->Ca 149 #[pt R 0,iv i,iv st] W fun e w'=>e=.returned (.tuple #[])/\saleAt w' B R (S.ends i st) ap lp cp vo va/\Same (fun b=>vo.ownBlock=some b) w w':=by
 intro W hW
 have h':=qL h hW
 obtain ⟨g,cap,rfl⟩:=cP h hi
 obtain ⟨Z,hb,hsp,hA⟩:=Xg h' hi
 obtain ⟨_,_,_,_,_,_,_,_,c8,c9,_⟩:=jS h'.blk
 have hRg:R≠g:=fun e=>by have:=h'.blk;rw [e,hb] at this;simp at this
 obtain ⟨g',e',hgw,hoc⟩:∃ g',some ((aq g 0):Addr)=some (aq g' 0)/\g'<W.heap.size/\∀ i,i<S.os.length->nG W g' i (S.os.getD i qD):=by
  obtain ⟨a,c,hv,hc⟩:=oJ h'.os
  simp at hv
  obtain ⟨g',e',rest⟩:=hc uO
  exact ⟨g',by rw [← e',← hv.1],rest⟩
 simp at e'
 subst e'
 obtain ⟨o0,o1,o2,o3,o4,o5⟩:=hoc i hi
 refine (Gr R g cap S.os.length i st S.now W c9 c8 hi hRg _ _ o2 o5 (qA hb _) (qA hb _)).mono ?_
 rintro e w' ⟨rfl,hb'⟩
 have hz:((W.sc g (i * 6+2) (iv st)).sc g (i * 6+5) (iv S.now)).heap.size=W.heap.size:=by simp [World.setCell]
 have hs2:Same (fun b=>b=g) W w':=⟨hb'.os,hb'.tape,hb'.output,by have:=hb'.size;omega,fun k hk hne=>(hb'.block k hk).trans ((uG _ (aq g (i * 6+5)) _ _ hne).trans (uG _ (aq g (i * 6+2)) _ _ hne))⟩
 have hgw':w'.heap[g]?=some (.cells (zP (S.os.set i { S.os.getD i qD with state:=st,ended:=S.now })++Z).toArray 213 (0,0)):=by
  rw [hb'.block g hgw]
  rw [hsp] at hb
  generalize S.os.getD i qD=o at hb
  rw [eJ _ hi]
  have s1:=xV (A:=zP (S.os.take i)++[iv o.cust,iv o.units]) (z:=iv o.state) (Z:=[iv o.cents,iv o.upto,iv o.ended]++(zP (S.os.drop (i+1))++Z)) (i:=i * 6+2) (by simpa [Ord.vals] using hb) (by simp [hA]) (iv st)
  have s2:=xV (A:=zP (S.os.take i)++[iv o.cust,iv o.units,iv st,iv o.cents,iv o.upto]) (z:=iv o.ended) (Z:=zP (S.os.drop (i+1))++Z) (i:=i * 6+5) (by simpa using s1) (by simp [hA]) (iv S.now)
  simpa [Ord.vals] using s2
 refine ⟨rfl,Zs h' hb hgw' hs2,Same.trans (Same.of_below (own:=fun _=>False) hW) hs2 (fun k _ e=>e.elim False.elim (fun e=>by rw [e];rfl))⟩
end
end
theorem Vv (R g cap n i:Nat) (now lease p:Int) (w:World) (h9:w.cell? (aq R 9)=some (.slice (some (aq g 0)) n cap)) (h8:w.cell? (aq R 8)=some (iv now)) (h3:w.cell? (aq R 3)=some (iv lease)) (hi:i<n) (hRg:R≠g)
 (hnl:0<=now/\now<=4611686018427387904/\0<=lease/\lease<=4294967296) (C:Array Value) (hb:w.heap[g]?=some (.cells C 213)) (u2 u3 u4:Value) (c2:w.cell? (aq g (i * 6+2))=some u2) (c3:w.cell? (aq g (i * 6+3))=some u3) (c4:w.cell? (aq g (i * 6+4))=some u4)
 (HP:Hid (∀ W,Below w.heap.size (w.sc g (i * 6+2) (iv 13)) W->Ca 173 #[pt R 0] W fun e w'=>e=.returned (iv p)/\Below W.heap.size W w')) :
 Ca 165 #[pt R 0,iv i] w fun e w'=>e=.returned (.tuple #[])/\∃ w1,Below w.heap.size (w.sc g (i * 6+2) (iv 13)) w1/\Below w1.heap.size ((w1.sc g (i * 6+3) (iv p)).sc g (i * 6+4) (iv (now+lease))) w':=by
 have b0:(0:Int)<=(i:Int):=uO
 have b1:(i:Int)<(n:Int):=uO
 have hgR:g≠R:=fun e=>hRg e.symm
 have hRw:R<w.heap.size:=uC w _ h9
 have hgw:g<w.heap.size:=uC w _ c2
 have f2:=qA hb (i * 6+2)
 have HB:Hid (w.heap[g]?=some (.cells C 213)/\w.cell? (aq g (i * 6+3))=some u3/\w.cell? (aq g (i * 6+4))=some u4/\w.cell? (aq R 9)=some (.slice (some (aq g 0)) n cap)/\w.cell? (aq R 8)=some (iv now)/\w.cell? (aq R 3)=some (iv lease)):=⟨hb,c3,c4,h9,h8,h3⟩
 go_enter Tryz.func165,Tryz.ntmps165
 have hz:(w.sc g (i * 6+2) (iv 13)).heap.size=w.heap.size:=by simp [World.setCell]
 go_wp2_with fail
 go_region_held3 (fun w'=>w'.cell? (aq R 9)=some (.slice (some (aq g 0)) n cap)) (simp [go_sem, *])
  (first|(go_at_call 173;refine (HP.out _ bL).mono ?_;rintro e w1 ⟨rfl,b⟩
          have hb1:Below w.heap.size (w.sc g (i * 6+2) (iv 13)) w1:=uL (show Below w.heap.size (w.sc g (i * 6+2) (iv 13)) _ from bL) (b.mono (by simp [World.setCell]))
          have hg1:=(hb1.block g hgw).trans (uH HB.out.1 _)
          have f3:=qA hg1 (i * 6+3)
          have f4:=qA hg1 (i * 6+4)
          have q9:=(hb1.cell (p:=(aq R 9)) hRw).trans (uN:_=some (.slice (some (aq g 0)) n cap))
          have q8:=(hb1.cell (p:=(aq R 8)) hRw).trans (uN:_=some (iv now))
          have q3:=(hb1.cell (p:=(aq R 3)) hRw).trans (uN:_=some (iv lease))
          have qc3:=(hb1.cell (p:=(aq g (i * 6+3))) hgw).trans (uN:_=some u3)
          have qc4:=(hb1.cell (p:=(aq g (i * 6+4))) hgw).trans (uN:_=some u4)))
 clear hg1 b c2 c3 c4 h9 h8 h3 f2 HB HP
 go_wp2_with fail
 go_region
 go_end0
 exact ⟨rfl,w1,hb1,⟨rfl,rfl,rfl,uA _,fun _ _=>rfl⟩⟩
def Ord.part (o:Ord) (st c:Int):Int:=if o.is st c then o.units else 0
theorem xF {os:List Ord} {i:Nat} (h:i<os.length) (o:Ord) (st c:Int):qF (os.set i o) st c=qF os st c - (os.getD i qD).part st c+o.part st c:=by
 have e:os=os.take i++os.getD i qD :: os.drop (i+1):=by
  have:=List.drop_eq_getElem_cons h
  have g:os.getD i qD=os[i]:=by simp [List.getD,uD h]
  rw [g,← this,List.take_append_drop]
 have e1:qF os st c=qF (os.take i) st c+((os.getD i qD).part st c+qF (os.drop (i+1)) st c):=by
  conv=>lhs;rw [e]
  simp [qF,Ord.part]
 have e2:qF (os.set i o) st c=qF (os.take i) st c+(o.part st c+qF (os.drop (i+1)) st c):=by
  rw [List.set_eq_take_append_cons_drop,uQ h]
  simp [qF,Ord.part]
 omega
theorem jE (os:List Ord) (o:Ord) (st c:Int):qF (os++[o]) st c=qF os st c+o.part st c:=by simp [qF,Ord.part]
theorem zK {os:List Ord} {i k:Nat} (o:Ord) (h:i<os.length):(os.set i o).getD k qD=if k=i then o else os.getD k qD:=by
 simp only [List.getD,List.getElem?_set]
 by_cases e:i=k
 ·subst e
  simp [h]
 ·rw [uP e,uP (fun c=>e c.symm)]
theorem zH (os:List Ord):∀ k q,q∈qZ os k↔q<k/\(os.getD q qD).state=12
 | 0,q=>by simp [qZ]
 | k+1,q=>by
   have ih:=zH os k q
   unfold qZ
   split
   ·next h =>
    rw [List.mem_append,ih]
    constructor
    ·rintro (⟨h1,h2⟩|h1)
     ·exact ⟨uO,h2⟩
     ·simp at h1;subst h1;exact ⟨uO,h⟩
    ·rintro ⟨h1,h2⟩
     by_cases e:q=k
     ·exact .inr (by simp [e])
     ·exact .inl ⟨uO,h2⟩
   ·next h =>
    rw [ih]
    constructor
    ·rintro ⟨h1,h2⟩;exact ⟨uO,h2⟩
    ·rintro ⟨h1,h2⟩
     refine ⟨?_,h2⟩
     by_cases e:q=k
     ·subst e;exact absurd h2 h
     ·omega
theorem kX (os:List Ord):∀ k,(qZ os k).Pairwise (·<·)
 | 0=>by simp [qZ]
 | k+1=>by
   have ih:=kX os k
   unfold qZ
   split
   ·rw [List.pairwise_append]
    exact ⟨ih,by simp,fun a ha b hb=>by
     have hb':b=k:=by simpa using hb
     rw [hb']
     exact dD os k a ha⟩
   ·exact ih
theorem wC {os:List Ord} {i:Nat} (o:Ord) (h:i<os.length) (ho:o.state≠12):∀ k,qZ (os.set i o) k=(qZ os k).filter (· != i)
 | 0=>by simp [qZ]
 | k+1=>by
   have ih:=wC o h ho k
   by_cases e:k=i
   ·subst e
    have h1:((os.set k o).getD k qD).state≠12:=by rw [zK o h,uQ rfl];exact ho
    have h0:(qZ os k).filter (· != k)=qZ os k:=by
     rw [List.filter_eq_self]
     intro q hq
     have:=dD os k q hq
     simp;omega
    have hl:qZ (os.set k o) (k+1)=qZ os k:=by rw [qZ,uP h1,ih,h0]
    rw [hl]
    by_cases hs:(os.getD k qD).state=12
    ·have hr:qZ os (k+1)=qZ os k++[k]:=by rw [qZ,uQ hs]
     rw [hr,List.filter_append,h0]
     simp
    ·have hr:qZ os (k+1)=qZ os k:=by rw [qZ,uP hs]
     rw [hr,h0]
   ·have h1:((os.set i o).getD k qD)=os.getD k qD:=by rw [zK o h,uP e]
    by_cases hs:(os.getD k qD).state=12
    ·have hr:qZ os (k+1)=qZ os k++[k]:=by rw [qZ,uQ hs]
     have hl:qZ (os.set i o) (k+1)=qZ (os.set i o) k++[k]:=by rw [qZ,h1,uQ hs]
     rw [hl,hr,List.filter_append,ih]
     simp [e]
    ·have hr:qZ os (k+1)=qZ os k:=by rw [qZ,uP hs]
     have hl:qZ (os.set i o) (k+1)=qZ (os.set i o) k:=by rw [qZ,h1,uP hs]
     rw [hl,hr,ih]
theorem iX {os:List Ord} {i:Nat} (o:Ord) (h:i<os.length) (ho:o.state≠12):qK (os.set i o)=(qK os).filter (· != i):=by
 unfold qK
 rw [List.length_set]
 exact wC o h ho _
theorem jY {os:List Ord} {q:Nat} {qs:List Nat} (hq:qK os=q :: qs) (o:Ord) (ho:o.state≠12):qK (os.set q o)=qs/\q<os.length/\(os.getD q qD).state=12:=by
 have hm:q∈qK os:=by rw [hq];simp
 obtain ⟨h1,h2⟩:=(zH os _ q).1 hm
 refine ⟨?_,h1,h2⟩
 rw [iX o h1 ho,hq,List.filter_cons_of_neg vS,List.filter_eq_self]
 intro a ha
 have hs:=kX os os.length
 have hs':(q :: qs).Pairwise (·<·):=by rw [← hq];exact hs
 have:=List.rel_of_pairwise_cons hs' ha
 simp;omega
def Sal.holds (S:Sal) (i:Nat):Sal:=S.put i { S.os.getD i qD with state:=13,cents:=(S.put i { S.os.getD i qD with state:=13 }).price,upto:=S.now+S.C.lease }
def yJ:Nat->Sal->Sal
 | 0,S=>S
 | n+1,S=>match qK S.os with
   | []=>S
   | q :: _=>if S.free<(S.os.getD q qD).units then S else yJ n (S.holds q)
def Sal.promote (S:Sal):Sal:=yJ (qK S.os).length S
theorem nX {S:Sal} (h:qK S.os=[]):S.promote=S:=by unfold Sal.promote;rw [h];rfl
theorem gZ {S:Sal} {q:Nat} {qs:List Nat} (h:qK S.os=q :: qs) (hf:S.free<(S.os.getD q qD).units):S.promote=S:=by
 unfold Sal.promote
 rw [h]
 simp only [List.length_cons,yJ,h,uQ hf]
theorem dE {S:Sal} {q:Nat} {qs:List Nat} (h:qK S.os=q :: qs):qK (S.holds q).os=qs:=(jY h _ vS).1
theorem sL {S:Sal} {q:Nat} {qs:List Nat} (h:qK S.os=q :: qs) (hf:¬ S.free<(S.os.getD q qD).units):S.promote=(S.holds q).promote:=by
 unfold Sal.promote
 rw [h,dE h]
 simp only [List.length_cons,yJ,h,uP hf]
structure salI (S:Sal):Prop where
 units:∀ o∈S.os,1<=o.units/\o.units<=4294967296
 stock:qF S.os 13 0+qF S.os 14 0<=S.C.stock
 cap:∀ c,c≠0->qF S.os 12 c<=4294967296
 cfg:0<=S.C.stock/\S.C.stock<=4294967296/\0<=S.C.lease/\S.C.lease<=4294967296/\0<=S.C.wait/\S.C.wait<=4294967296
 now:0<=S.now/\S.now<=4611686018427387904
 ords:∀ o∈S.os,(0<=o.cents/\o.cents<=1073741824)/\(0<=o.ended/\o.ended<=4611686018427387904)
 prices:∀ p∈S.C.prices,0<=p.2/\p.2<=1073741824
theorem kO {ps:List (Int × Int)} (h:∀ p∈ps,0<=p.2/\p.2<=1073741824) (sold:Int):∀ k,k<=ps.length->0<=xG ps sold k/\xG ps sold k<=1073741824
 | 0,_=>by simp [xG]
 | k+1,hk=>by
   have ih:=kO h sold k uO
   unfold xG
   split
   ·exact h _ (gL uO)
   ·exact ih
theorem Sw {o:Ord} (h:0<=o.units) (st c:Int):o.part st c<=o.part st 0:=by
 unfold Ord.part Ord.is
 by_cases e:o.state=st<;>by_cases e2:c=0<;>by_cases e3:o.cust=c<;>simp [e,e2,e3,h]
theorem cS {os:List Ord} (h:∀ o∈os,0<=o.units) (st c:Int):qF os st c<=qF os st 0:=by
 induction os with
 | nil=>simp [qF]
 | cons o os ih =>
   have h1:=ih (fun o ho=>h o (List.mem_cons_of_mem _ ho))
   have h2:=Sw (h o (List.mem_cons_self)) st c
   have e:∀ c,qF (o :: os) st c=o.part st c+qF os st c:=fun c=>by simp [qF,Ord.part]
   rw [e,e]
   omega
theorem salI.N {S:Sal} (h:salI S) (hl:S.os.length * 48+48<=140737488351232):salN S:=by
 have hn:∀ o∈S.os,0<=o.units:=fun o ho=>by have:=(h.units o ho).1;omega
 have h0:=h.stock
 have h1:=h.cfg
 have p1:=kH (os:=S.os) 13 0 hn
 have p2:=kH (os:=S.os) 14 0 hn
 refine ⟨fun o ho=>⟨hn o ho,(h.units o ho).2⟩,fun c=>?_,fun c=>?_,h.cap,hl,⟨h1.1,h1.2.1⟩⟩
 ·have:=cS hn 13 c;omega
 ·have:=cS hn 14 c;omega
theorem nF {os:List Ord} {i:Nat} {o x:Ord} (h:x∈os.set i o):x=o\/x∈os:=by
 rcases List.mem_or_eq_of_mem_set h with h|h
 ·exact .inr h
 ·exact .inl h
theorem zG {os:List Ord} {i:Nat} (h:i<os.length):os.getD i qD∈os:=by
 simp only [List.getD,uD h,Option.getD_some]
 exact List.getElem_mem h
theorem rZ {S:Sal} (h:salI S) {q:Nat} (hq:q<S.os.length) (hw:(S.os.getD q qD).state=12) (hf:¬ S.free<(S.os.getD q qD).units) (o:Ord) (h1:o.cust=(S.os.getD q qD).cust) (h2:o.units=(S.os.getD q qD).units) (h3:o.state=13) (h4:(0<=o.cents/\o.cents<=1073741824)/\(0<=o.ended/\o.ended<=4611686018427387904)):salI (S.put q o):=by
 have hm:=zG hq
 have hu:=h.units _ hm
 have hst:=h.stock
 have hc:=h.cfg
 refine ⟨fun x hx=>?_,?_,fun c hc0=>?_,h.cfg,h.now,fun x hx=>(nF hx).elim (fun e=>e▸h4) (h.ords x),h.prices⟩
 ·rcases nF hx with rfl|hx
  ·rw [h2];exact hu
  ·exact h.units x hx
 ·show qF (S.os.set q o) 13 0+qF (S.os.set q o) 14 0<=S.C.stock
  rw [xF hq,xF hq]
  unfold Sal.free Sal.left at hf
  generalize S.os.getD q qD=p at hw hf h1 h2 hu
  simp [Ord.part,Ord.is,hw,h3,h2]
  omega
 ·show qF (S.os.set q o) 12 c<=4294967296
  rw [xF hq]
  have:=h.cap c hc0
  have hp:0<=(S.os.getD q qD).part 12 c:=by unfold Ord.part;split<;>omega
  have ho:o.part 12 c=0:=by simp [Ord.part,Ord.is,h3]
  omega
section
section
variable {w w':World} {B R:Nat} {S:Sal} {ap:Option Addr} {lp cp:Nat} {vo va:Value}
theorem iZ (h:saleAt w B R S ap lp cp vo va) {i:Nat} (hi:i<S.os.length) (hN1:salN (S.put i { S.os.getD i qD with state:=13 })) (hnl:0<=S.now/\S.now<=4611686018427387904/\0<=S.C.lease/\S.C.lease<=4294967296) :
 ∀ W,Below w.heap.size w W->Ca 165 #[pt R 0,iv i] W fun e w'=>e=.returned (.tuple #[])/\saleAt w' B R (S.holds i) ap lp cp vo va/\Same (fun b=>vo.ownBlock=some b) w w':=by
 intro W hW
 have h':=qL h hW
 obtain ⟨g,cap,rfl⟩:=cP h hi
 obtain ⟨Z,hb,hsp,hA⟩:=Xg h' hi
 obtain ⟨_,_,_,c3,_,_,_,_,c8,c9,_⟩:=jS h'.blk
 have hRg:R≠g:=fun e=>by have:=h'.blk;rw [e,hb] at this;simp at this
 obtain ⟨g',e',hgw,hoc⟩:∃ g',some ((aq g 0):Addr)=some (aq g' 0)/\g'<W.heap.size/\∀ i,i<S.os.length->nG W g' i (S.os.getD i qD):=by
  obtain ⟨a,c,hv,hc⟩:=oJ h'.os
  simp at hv
  obtain ⟨g',e',rest⟩:=hc uO
  exact ⟨g',by rw [← e',← hv.1],rest⟩
 simp at e'
 subst e'
 obtain ⟨o0,o1,o2,o3,o4,o5⟩:=hoc i hi
 have hz:(W.sc g (i * 6+2) (iv 13)).heap.size=W.heap.size:=by simp [World.setCell]
 have hs1:Same (fun b=>b=g) W (W.sc g (i * 6+2) (iv 13)):=⟨rfl,rfl,rfl,uO,fun k hk hne=>uG _ (aq g (i * 6+2)) _ _ hne⟩
 have hg1:(W.setCell (aq g (i * 6+2)) (iv 13)).heap[g]?=some (.cells (zP (S.os.set i { S.os.getD i qD with state:=13 })++Z).toArray 213 (0,0)):=by
  have hb2:=hb
  rw [hsp] at hb2
  rw [eJ _ hi]
  generalize S.os.getD i qD=o at hb2
  have s1:=xV (A:=zP (S.os.take i)++[iv o.cust,iv o.units]) (z:=iv o.state) (Z:=[iv o.cents,iv o.upto,iv o.ended]++(zP (S.os.drop (i+1))++Z)) (i:=i * 6+2) (by simpa [Ord.vals] using hb2) (by simp [hA]) (iv 13)
  simpa [Ord.vals] using s1
 have hS1:=Zs h' hb hg1 hs1
 have HP:=Ue hS1 hN1
 rw [hz] at HP
 refine (Vv R g cap S.os.length i S.now S.C.lease _ W c9 c8 c3 hi hRg hnl _ hb _ _ _ o2 o3 o4 HP).mono ?_
 rintro e w' ⟨rfl,w1,hb1,hb'⟩
 have hz1:W.heap.size<=w1.heap.size:=by have:=hb1.size;omega
 have hgw1:g<w1.heap.size:=uO
 have hs2:Same (fun b=>b=g) W w':=⟨hb'.os.trans (hb1.os.trans hs1.os),hb'.tape.trans (hb1.tape.trans hs1.tape),hb'.output.trans (hb1.output.trans hs1.output),by have:=hb'.size;simp [World.setCell] at this;omega,fun k hk hne=>(hb'.block k uO).trans ((uG _ (aq g (i * 6+4)) _ _ hne).trans ((uG _ (aq g (i * 6+3)) _ _ hne).trans ((hb1.block k hk).trans (hs1.block k hk hne))))⟩
 have hgw':w'.heap[g]?=some (.cells (zP (S.os.set i { S.os.getD i qD with state:=13,cents:=(S.put i { S.os.getD i qD with state:=13 }).price,upto:=S.now+S.C.lease })++Z).toArray 213 (0,0)):=by
  rw [hb'.block g hgw1]
  have hb2:=(hb1.block g hgw).trans hg1
  generalize (S.put i { S.os.getD i qD with state:=13 }).price=pr
  rw [eJ _ hi] at hb2 ⊢
  generalize S.os.getD i qD=o at hb2
  have s1:=xV (A:=zP (S.os.take i)++[iv o.cust,iv o.units,iv 13]) (z:=iv o.cents) (Z:=[iv o.upto,iv o.ended]++(zP (S.os.drop (i+1))++Z)) (i:=i * 6+3) (by simpa [Ord.vals] using hb2) (by simp [hA]) (iv pr)
  have s2:=xV (A:=zP (S.os.take i)++[iv o.cust,iv o.units,iv 13,iv pr]) (z:=iv o.upto) (Z:=[iv o.ended]++(zP (S.os.drop (i+1))++Z)) (i:=i * 6+4) (by simpa using s1) (by simp [hA]) (iv (S.now+S.C.lease))
  simpa [Ord.vals] using s2
 exact ⟨rfl,Zs h' hb hgw' hs2,Same.trans (Same.of_below (own:=fun _=>False) hW) hs2 (fun k _ e=>e.elim False.elim (fun e=>by rw [e];rfl))⟩
end
theorem Kl:∀ {a b:List Ord},zP a=zP b->a=b
 | [],[],_=>rfl
 | [],o :: b,h=>by simp [zP,Ord.vals] at h
 | o :: a,[],h=>by simp [zP,Ord.vals] at h
 | o :: a,o' :: b,h=>by
   simp only [zP,List.flatMap_cons,Ord.vals,List.cons_append,List.nil_append,List.cons.injEq,Value.int.injEq,true_and] at h
   obtain ⟨h0,h1,h2,h3,h4,h5,h6⟩:=h
   have:=Kl (a:=a) (b:=b) h6
   subst this
   cases o;cases o'
   simp_all
theorem Mt {w:World} {B R:Nat} {S S':Sal} {ap:Option Addr} {lp cp:Nat} {vo va:Value} (h:saleAt w B R S ap lp cp vo va) (h':saleAt w B R S' ap lp cp vo va):S.os=S'.os:=by
 apply Kl
 rcases h.os.2 with ⟨e,n0⟩|⟨g,c,cur,e,_,hh,_,_,_,hx⟩
 ·obtain ⟨a,c,e'⟩:=yE h'.os
  rw [e] at e'
  simp at e'
  rw [List.length_eq_zero_iff.1 n0,List.length_eq_zero_iff.1 e'.2.1.symm]
 ·rcases h'.os.2 with ⟨e',n0⟩|⟨g',c',cur',e',_,hh',_,_,_,hx'⟩
  ·rw [e] at e';simp at e'
  ·rw [e] at e'
   simp at e'
   obtain ⟨rfl,hlen,rfl⟩:=e'
   rw [hh] at hh'
   simp at hh'
   subst hh'
   rw [← hx,← hx',hlen]
open Classical in
noncomputable def waitsAt (B R:Nat) (ap:Option Addr) (lp cp:Nat) (vo va:Value) (w:World):Nat:=if h:∃ S:Sal,saleAt w B R S ap lp cp vo va then (qK (Classical.choose h).os).length else 0
theorem wR {w:World} {B R:Nat} {S:Sal} {ap:Option Addr} {lp cp:Nat} {vo va:Value} (h:saleAt w B R S ap lp cp vo va):waitsAt B R ap lp cp vo va w=(qK S.os).length:=by
 have hx:∃ S:Sal,saleAt w B R S ap lp cp vo va:=⟨S,h⟩
 unfold waitsAt
 rw [dif_pos hx,Mt (Classical.choose_spec hx) h]
theorem gE (B R:Nat) (S:Sal) (ap:Option Addr) (lp cp:Nat) (vo va:Value) (w:World) (h:saleAt w B R S ap lp cp vo va) (hI:salI S) (hl:S.os.length * 48+48<=140737488351232) :
 Ca 150 #[pt R 0] w fun e w'=>e=.returned (.tuple #[])/\saleAt w' B R S.promote ap lp cp vo va/\salI S.promote/\Same (fun b=>vo.ownBlock=some b) w w':=by
 go_enter Tryz.func150,Tryz.ntmps150
 go_wp2_with fail
 go_loopw [2] (fun _ wr=>∃ S':Sal,Hid (saleAt wr B R S' ap lp cp vo va/\salI S'/\S'.promote=S.promote/\S'.os.length=S.os.length/\Same (fun b=>vo.ownBlock=some b) w wr)) (fun _ wr=>waitsAt B R ap lp cp vo va wr)
 case atStart=>exact ⟨S,h,hI,rfl,rfl,⟨rfl,rfl,rfl,uA _,fun _ _ _=>rfl⟩⟩
 case round =>
  obtain ⟨S',HS⟩:=hrel
  obtain ⟨hs,hI',hp,hlen,hsame⟩:=HS.out
  have hN:=hI'.N uO
  have HQ:Hid (∀ W,Below wr.heap.size wr W->Ca 120 #[pt R 0] W fun e w'=>∃ out,e=.returned out/\w'.ownsRow W.heap.size 3 1 out (qK S'.os).length ((qK S'.os).map Xv)/\Below W.heap.size W w'):=gO hs hN
  have HF:Hid (∀ W,Below wr.heap.size wr W->Ca 121 #[pt R 0] W fun e w'=>e=.returned (iv S'.free)/\Below W.heap.size W w'):=bH hs hN
  have HSB:Hid (∀ w2,Below wr.heap.size wr w2->Same (fun b=>vo.ownBlock=some b) w w2):=fun w2 hb=>Same.trans hsame (Same.of_below (own:=fun _=>False) hb) (fun k _ e=>e.elim id False.elim)
  cases hq:qK S'.os with
  | nil =>
    have HE:Hid (∀ w2,Below wr.heap.size wr w2->saleAt w2 B R S.promote ap lp cp vo va/\salI S.promote/\Same (fun b=>vo.ownBlock=some b) w w2):=fun w2 hb=>by
     rw [← hp,nX hq]
     exact ⟨qL hs hb,hI',HSB.out w2 hb⟩
    rw [hq] at HQ
    clear HS hs hI' hp hsame hN HSB h hI
    go_wp2_with (first
     | (go_at_call 120;refine (HQ.out _ bL).mono ?_;rintro e w1 ⟨out,rfl,ho,b1⟩
        obtain ⟨oa,oc,rfl⟩:=yE ho)
     | (go_at_call 121;refine (HF.out _ bL).mono ?_;rintro e w2 ⟨rfl,b2⟩))
    have hb2:Below wr.heap.size wr w2:=b1.trans (b2.mono b1.size)
    go_quiet (fail)
    go_wp2
    first|go_end0|refine uK (uR rfl _ _ _) rfl ?_
    exact ⟨rfl,HE.out _ bL⟩
  | cons q qs =>
    obtain ⟨_,hql,hqw⟩:=jY hq (S'.os.getD q qD |> fun o=>{ o with state:=13 }) vS
    obtain ⟨g,cap,hvo⟩:=cP hs hql
    have hoc:∃ g',some ((aq g 0):Addr)=some (aq g' 0)/\g'<wr.heap.size/\∀ i,i<S'.os.length->nG wr g' i (S'.os.getD i qD):=by
     obtain ⟨a,c,hv,hc⟩:=oJ hs.os
     rw [hvo] at hv
     simp at hv
     obtain ⟨g',e',rest⟩:=hc uO
     exact ⟨g',by rw [← e',← hv.1],rest⟩
    obtain ⟨g',e',hgw,hoc⟩:=hoc
    simp at e'
    subst e'
    obtain ⟨_,u1,_⟩:=hoc q hql
    have r9:wr.cell? (aq R 9)=some (.slice (some (aq g 0)) S'.os.length cap):=by rw [uI hs.blk,← hvo];rfl
    have hRw:R<wr.heap.size:=(blt hs.blk)
    have b0:(0:Int)<=(q:Int):=uO
    have b1':(q:Int)<(S'.os.length:Int):=uO
    by_cases hf:S'.free<(S'.os.getD q qD).units
    ·have HE:Hid (∀ w2,Below wr.heap.size wr w2->saleAt w2 B R S.promote ap lp cp vo va/\salI S.promote/\Same (fun b=>vo.ownBlock=some b) w w2):=fun w2 hb=>by
      rw [← hp,gZ hq hf]
      exact ⟨qL hs hb,hI',HSB.out w2 hb⟩
     rw [hq] at HQ
     generalize (S'.os.getD q qD).units=un at u1 hf
     generalize S'.free=fr at HF hf
     have hf':decide (fr<un)=true:=by simpa using hf
     clear HS hs hI' hp hsame hN HSB h hI hoc hvo
     go_wp2_with (first
      | (go_at_call 120;refine (HQ.out _ bL).mono ?_;rintro e w1 ⟨out,rfl,ho,b1⟩
         obtain ⟨qb,qc,qn,rfl,hqn⟩:∃ qb qc qn,out=.slice (some (aq qb 0)) qn qc/\0<qn:=by
          rcases ho.2 with ⟨_,n0⟩|⟨g,c,cur,hv,_⟩
          ·simp at n0
          ·exact ⟨_,_,_,hv,by simp⟩
         have hqn0:((qn:Int)==0)=false:=by simp;omega
         have hqn1:(0:Int)<(qn:Int):=uO
         have z0:w1.cell? (aq qb 0)=some (iv q):=by
          have:=ho.cells (g:=qb) rfl 0 (Xv q) vS
          simpa [Addr.add_lit,Xv] using this
         have hqb:qb<w1.heap.size:=uC w1 _ z0)
      | (go_at_call 121;refine (HF.out _ bL).mono ?_;rintro e w2 ⟨rfl,b2⟩))
     have hb2:Below wr.heap.size wr w2:=b1.trans (b2.mono b1.size)
     have z2:=(b2.cell (p:=(aq qb 0)) hqb).trans z0
     have r92:=(hb2.cell (p:=(aq R 9)) hRw).trans r9
     have u12:=(hb2.cell (p:=(aq g (q * 6+1))) hgw).trans u1
     go_quiet (fail)
     go_wp2
     first|go_end0|refine uK (uR rfl _ _ _) rfl ?_
     exact ⟨rfl,HE.out _ bL⟩
    ·have hpb:0<=(S'.put q { S'.os.getD q qD with state:=13 }).price/\(S'.put q { S'.os.getD q qD with state:=13 }).price<=1073741824:=kO hI'.prices _ _ (uA _)
     have hoo:=hI'.ords _ (zG hql)
     have hm:salI (S'.holds q):=rZ hI' hql hqw hf _ rfl rfl rfl ⟨hpb,hoo.2⟩
     have hN1:salN (S'.put q { S'.os.getD q qD with state:=13 }):=(rZ hI' hql hqw hf { S'.os.getD q qD with state:=13 } rfl rfl rfl hoo).N (by simp [Sal.put];omega)
     have HH:Hid (∀ W,Below wr.heap.size wr W->Ca 165 #[pt R 0,iv q] W fun e w'=>e=.returned (.tuple #[])/\saleAt w' B R (S'.holds q) ap lp cp vo va/\Same (fun b=>vo.ownBlock=some b) w w'):=fun W hW=>(iZ hs hql hN1 ⟨hI'.now.1,hI'.now.2,hI'.cfg.2.2.1,hI'.cfg.2.2.2.1⟩ W hW).mono (by rintro e w' ⟨rfl,a,b⟩;exact ⟨rfl,a,Same.trans hsame b (fun k _ e=>e.elim id id)⟩)
     have HR:Hid (∀ w',saleAt w' B R (S'.holds q) ap lp cp vo va->Same (fun b=>vo.ownBlock=some b) w w'->(saleAt w' B R (S'.holds q) ap lp cp vo va/\salI (S'.holds q)/\(S'.holds q).promote=S.promote/\(S'.holds q).os.length=S.os.length/\Same (fun b=>vo.ownBlock=some b) w w')/\waitsAt B R ap lp cp vo va w'<waitsAt B R ap lp cp vo va wr):=fun w' a b=>⟨⟨a,hm,by rw [← sL hq hf,hp],by simp [Sal.holds,Sal.put];exact hlen,b⟩,by rw [wR a,wR hs,hq,dE hq];simp⟩
     rw [hq] at HQ
     generalize (S'.os.getD q qD).units=un at u1 hf
     generalize S'.free=fr at HF hf
     have hf':decide (fr<un)=false:=by simpa using hf
     generalize S'.holds q=S2 at HH HR
     clear HS hs hI' hp hsame hN HSB h hI hoc hvo hm hN1 hpb hoo
     go_wp2_with (first
      | (go_at_call 120;refine (HQ.out _ bL).mono ?_;rintro e w1 ⟨out,rfl,ho,b1⟩
         obtain ⟨qb,qc,qn,rfl,hqn⟩:∃ qb qc qn,out=.slice (some (aq qb 0)) qn qc/\0<qn:=by
          rcases ho.2 with ⟨_,n0⟩|⟨g,c,cur,hv,_⟩
          ·simp at n0
          ·exact ⟨_,_,_,hv,by simp⟩
         have hqn0:((qn:Int)==0)=false:=by simp;omega
         have hqn1:(0:Int)<(qn:Int):=uO
         have z0:w1.cell? (aq qb 0)=some (iv q):=by
          have:=ho.cells (g:=qb) rfl 0 (Xv q) vS
          simpa [Addr.add_lit,Xv] using this
         have hqb:qb<w1.heap.size:=uC w1 _ z0)
      | (go_at_call 121;refine (HF.out _ bL).mono ?_;rintro e w2 ⟨rfl,b2⟩))
     have hb2:Below wr.heap.size wr w2:=b1.trans (b2.mono b1.size)
     have z2:=(b2.cell (p:=(aq qb 0)) hqb).trans z0
     have r92:=(hb2.cell (p:=(aq R 9)) hRw).trans r9
     have u12:=(hb2.cell (p:=(aq g (q * 6+1))) hgw).trans u1
     go_quiet (fail)
     go_wp2_with (go_at_call 165;refine (HH.out _ bL).mono ?_;rintro e w3 ⟨rfl,a3,a4⟩)
     exact ⟨⟨S2,(HR.out _ a3 a4).1⟩,(HR.out _ a3 a4).2⟩
end
