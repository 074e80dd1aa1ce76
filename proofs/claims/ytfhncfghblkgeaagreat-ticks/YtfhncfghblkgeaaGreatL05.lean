import Derived.Test.YtfhncfghblkgeaaGreatL04
set_option maxRecDepth 100000
set_option maxHeartbeats 2000000
namespace Go.Proofs.YtfhncfghblkgeaaGreat
open Go.RowKit
structure Ord where
 cust:Int
 units:Int
 state:Int
 cents:Int
 upto:Int
 ended:Int
structure Rep where
 kind:Int
 order:Int
 cents:Int
 upto:Int
structure Ans where
 frame:ByteArray
 token:Int
 rep:Rep
 at':Int
structure Cfg where
 stock:Int
 cap:Int
 queue:Int
 lease:Int
 wait:Int
 keep:Int
 tokens:Int
 prices:List (Int × Int)
structure Sal where
 C:Cfg
 now:Int
 os:List Ord
 ansL:List Ans
def ja3:Ord:=⟨0,0,0,0,0,0⟩
def qfy:Rep:=⟨0,0,0,0⟩
def jbt:Ans:=⟨ByteArray.empty,0,qfy,0⟩
def Ord.is (o:Ord) (st c:Int):Bool:=o.state==st && (c==0 || o.cust==c)
def ja4 (os:List Ord) (st c:Int):Int:=(os.map (fun o=>if o.is st c then o.units else 0)).sum
theorem jx5 (os:List Ord) (st c:Int) {k:Nat} (h:k<os.length):ja4 (os.take (k+1)) st c=ja4 (os.take k) st c+if (os.getD k ja3).is st c then (os.getD k ja3).units else 0:=by
 unfold ja4
 rw [List.take_succ_eq_append_getElem h,List.map_append,List.sum_append]
 simp [List.getD,List.getElem?_eq_getElem h]
theorem jdd {os:List Ord} (st c:Int) (h:∀ o∈os,0<=o.units):0<=ja4 os st c:=by
 induction os with
 | nil=>simp [ja4]
 | cons o os ih =>
   have h1:=ih (fun o ho=>h o (List.mem_cons_of_mem _ ho))
   have h2:=h o (List.mem_cons_self)
   simp only [ja4,List.map_cons,List.sum_cons] at h1 ⊢
   split<;>omega
theorem jwr {os:List Ord} (st c:Int) (h:∀ o∈os,0<=o.units) (k:Nat):ja4 (os.take k) st c<=ja4 os st c:=by
 have h1:ja4 os st c=ja4 (os.take k) st c+ja4 (os.drop k) st c:=by
  unfold ja4
  rw [← List.sum_append,← List.map_append,List.take_append_drop]
 have h2:=jdd (os:=os.drop k) st c (fun o ho=>h o (List.mem_of_mem_drop ho))
 omega
def Sal.left (S:Sal):Int:=S.C.stock - ja4 S.os 14 0
def Sal.free (S:Sal):Int:=S.left - ja4 S.os 13 0
def jan (os:List Ord):Nat->List Nat
 | 0=>[]
 | k+1=>if (os.getD k ja3).state=12 then jan os k++[k] else jan os k
def ja7 (os:List Ord):List Nat:=jan os os.length
def jcw (ps:List (Int × Int)) (sold:Int):Nat->Int
 | 0=>0
 | k+1=>if (ps.getD k (0,0)).1<=sold then (ps.getD k (0,0)).2 else jcw ps sold k
def Sal.price (S:Sal):Int:=jcw S.C.prices (ja4 S.os 14 0) S.C.prices.length
def Ord.vals (o:Ord):List Value:=[iv o.cust,iv o.units,iv o.state,iv o.cents,iv o.upto,iv o.ended]
def Ans.vals (a:Ans):List Value:=[.string a.frame,iv a.token,iv a.rep.kind,iv a.rep.order,iv a.rep.cents,iv a.rep.upto,iv a.at']
def jbg (os:List Ord):List Value:=os.flatMap Ord.vals
def jin (ansL:List Ans):List Value:=ansL.flatMap Ans.vals
theorem juk:∀ {os:List Ord} {i:Nat},i<os.length->∀ j,j<6->(jbg os)[i * 6+j]?=(os.getD i ja3).vals[j]?
 | [],_,h,_,_=>by simp at h
 | o :: os,0,_,j,hj=>by
   simp only [jbg,List.flatMap_cons,Nat.zero_mul,Nat.zero_add]
   rw [List.getElem?_append_left (by simpa [Ord.vals] using hj)]
   rfl
 | o :: os,i+1,h,j,hj=>by
   have ih:=juk (os:=os) (i:=i) (by simpa using h) j hj
   simp only [jbg,List.flatMap_cons] at ih ⊢
   rw [List.getElem?_append_right (by simp [Ord.vals];omega)]
   have e:(i+1) * 6+j - o.vals.length=i * 6+j:=by simp [Ord.vals];omega
   rw [e,ih]
   simp [List.getD]
theorem ju8:∀ {ansL:List Ans} {i:Nat},i<ansL.length->∀ j,j<7->(jin ansL)[i * 7+j]?=(ansL.getD i jbt).vals[j]?
 | [],_,h,_,_=>by simp at h
 | o :: ansL,0,_,j,hj=>by
   simp only [jin,List.flatMap_cons,Nat.zero_mul,Nat.zero_add]
   rw [List.getElem?_append_left (by simpa [Ans.vals] using hj)]
   rfl
 | o :: ansL,i+1,h,j,hj=>by
   have ih:=ju8 (ansL:=ansL) (i:=i) (by simpa using h) j hj
   simp only [jin,List.flatMap_cons] at ih ⊢
   rw [List.getElem?_append_right (by simp [Ans.vals];omega)]
   have e:(i+1) * 7+j - o.vals.length=i * 7+j:=by simp [Ans.vals];omega
   rw [e,ih]
   simp [List.getD]
def jib (w:World) (g i:Nat) (o:Ord):Prop :=
 w.cell? (aq g (i * 6))=some (iv o.cust)/\w.cell? (aq g (i * 6+1))=some (iv o.units)/\w.cell? (aq g (i * 6+2))=some (iv o.state)/\w.cell? (aq g (i * 6+3))=some (iv o.cents)/\w.cell? (aq g (i * 6+4))=some (iv o.upto)/\w.cell? (aq g (i * 6+5))=some (iv o.ended)
def jre (w:World) (v:Value) (os:List Ord):Prop:=∃ a c,v=.slice a os.length c/\(0<os.length->∃ g,a=some (aq g 0)/\g<w.heap.size/\∀ i,i<os.length->jib w g i (os.getD i ja3))
theorem jed {w:World} {B:Nat} {v:Value} {os:List Ord} {T:TypeId} (h:w.ownsRow B T 6 v os.length (jbg os)):jre w v os:=by
 rcases h.2 with ⟨rfl,h0⟩|⟨g,cap,cur,rfl,hg,hh,_⟩
 ·exact ⟨none,0,by rw [h0],fun hp=>by omega⟩
 ·refine ⟨_,_,rfl,fun _=>⟨g,rfl,(blt hh),fun i hi=>?_⟩⟩
  have c:∀ j,j<6->∀ u,(os.getD i ja3).vals[j]?=some u->w.cell? (aq g (i * 6+j))=some u:=fun j hj u hu=>by
   have:=h.cells (g:=g) rfl _ _ ((juk hi j hj).trans hu)
   rwa [Addr.add_lit,Nat.zero_add] at this
  exact ⟨c 0 (by omega) _ rfl,c 1 (by omega) _ rfl,c 2 (by omega) _ rfl,c 3 (by omega) _ rfl,c 4 (by omega) _ rfl,c 5 (by omega) _ rfl⟩
theorem ji2 {w w':World} {g i:Nat} {o:Ord} (h:jib w g i o) (hb:Below w.heap.size w w') (hg:g<w.heap.size):jib w' g i o :=
 ⟨(hb.cell (p:=(aq g (i * 6))) hg).trans h.1,(hb.cell (p:=(aq g (i * 6+1))) hg).trans h.2.1,(hb.cell (p:=(aq g (i * 6+2))) hg).trans h.2.2.1,(hb.cell (p:=(aq g (i * 6+3))) hg).trans h.2.2.2.1,(hb.cell (p:=(aq g (i * 6+4))) hg).trans h.2.2.2.2.1,(hb.cell (p:=(aq g (i * 6+5))) hg).trans h.2.2.2.2.2⟩
structure saleAt (w:World) (B R:Nat) (S:Sal) (ap:Option Addr) (lp cp:Nat) (vo va:Value):Prop where
 blk:w.heap[R]?=some (.cells #[iv S.C.stock,iv S.C.cap,iv S.C.queue,iv S.C.lease,iv S.C.wait,iv S.C.keep,iv S.C.tokens,.slice ap lp cp,iv S.now,vo,va] 164 (0,0))
 tiers:tiersAt w ap lp cp S.C.prices
 low:∀ b off,ap=some (aq b off)->b<B
 os:w.ownsRow B 228 6 vo S.os.length (jbg S.os)
 ansL:w.ownsRow B 226 7 va S.ansL.length (jin S.ansL)
theorem jcf {w:World} {R:Nat} {c0 c1 c2 c3 c4 c5 c6 c7 c8 c9 c10:Value} {T:TypeId} (h:w.heap[R]?=some (.cells #[c0,c1,c2,c3,c4,c5,c6,c7,c8,c9,c10] T (0,0))) :
 w.cell? (aq R 0)=some c0/\w.cell? (aq R 1)=some c1/\w.cell? (aq R 2)=some c2/\w.cell? (aq R 3)=some c3/\w.cell? (aq R 4)=some c4/\w.cell? (aq R 5)=some c5/\w.cell? (aq R 6)=some c6/\w.cell? (aq R 7)=some c7/\w.cell? (aq R 8)=some c8/\w.cell? (aq R 9)=some c9/\w.cell? (aq R 10)=some c10:=by
 refine ⟨?_,?_,?_,?_,?_,?_,?_,?_,?_,?_,?_⟩<;>(rw [Joins.cell_of_block h];rfl)
theorem jx0 (R:Nat) (v:Value) (os:List Ord) (st c:Int) (w:World) (h9:w.cell? (aq R 9)=some v) (hd:jre w v os) (hl:os.length * 48<=140737488355328) (hn:∀ o∈os,0<=o.units) (hb:ja4 os st c<=4611686018427387904) :
 Calls Tryz.prog 125 #[pt R 0,iv st,iv c] w fun e w'=>e=.returned (iv (ja4 os st c))/\Below w.heap.size w w':=by
 obtain ⟨a,cp,rfl,hc⟩:=hd
 have hRw:R<w.heap.size:=World.block_lt_of_cell? w _ h9
 have HC:Hid (0<os.length->∃ g,a=some (aq g 0)/\g<w.heap.size/\∀ i,i<os.length->jib w g i (os.getD i ja3)):=hc
 have HM:Hid (∀ k,0<=ja4 (os.take k) st c/\ja4 (os.take k) st c<=4611686018427387904):=fun k=>⟨jdd st c (fun o ho=>hn o (List.mem_of_mem_take ho)),Int.le_trans (jwr st c hn k) hb⟩
 have H9:Hid (w.cell? (aq R 9)=some (.slice a os.length cp)):=h9
 clear hc hn hb h9
 go_enter Tryz.func125,Tryz.ntmps125
 go_wp2_with fail
 go_loopw [7,8] (fun n i wr=>∃ k:Nat,k<=os.length/\i=iv k/\n=iv (ja4 (os.take k) st c)/\Below w.heap.size w wr) (fun _ i _=>os.length - (intOf i).toNat)
 case atStart=>exact ⟨0,Nat.zero_le _,rfl,rfl,Below.refl _ _⟩
 case round =>
  obtain ⟨k,hk,rfl,rfl,hbel⟩:=hrel
  have c9:=(hbel.cell (p:=(aq R 9)) hRw).trans H9.out
  have hRr:R<wr.heap.size:=Nat.lt_of_lt_of_le hRw hbel.size
  have hz:=hbel.size
  by_cases hlt:k<os.length
  ·obtain ⟨g,rfl,hgw,hcell⟩:=HC.out (by omega)
   obtain ⟨e0,e1,e2,e3,e4,e5⟩:=ji2 (hcell k hlt) hbel hgw
   have hgr:g<wr.heap.size:=Nat.lt_of_lt_of_le hgw hbel.size
   have HN:Hid (ja4 (os.take (k+1)) st c=ja4 (os.take k) st c+if (os.getD k ja3).is st c then (os.getD k ja3).units else 0):=jx5 os st c hlt
   have hm0:=HM.out k
   have hm1:=HM.out (k+1)
   have b0:(0:Int)<=(k:Int):=by omega
   have b1:(k:Int)<(os.length:Int):=by omega
   generalize os.getD k ja3=o at e0 e1 e2 e3 e4 e5 HN
   generalize hm1':ja4 (os.take (k+1)) st c=m1 at HN hm1
   have HK:Hid (ja4 (os.take (k+1)) st c=m1):=hm1'
   generalize ja4 (os.take k) st c=m at HN hm0
   clear hm1'
   obtain ⟨ocust,ounits,ostate,ocents,oupto,oended⟩:=o
   simp only [Ord.is] at e0 e1 e2 e3 e4 e5 HN
   clear hcell HC
   by_cases hs:ostate=st
   ·subst hs
    by_cases hc0:c=0
    ·subst hc0
     have hm2:m1=m+ounits:=by simpa using HN.out
     subst hm2
     go_wp2
     exact ⟨⟨k+1,by omega,by go_num,by rw [HK.out],bL⟩,by simp [intOf];omega⟩
    ·have hc1:(c==0)=false:=by simpa using hc0
     by_cases hcc:ocust=c
     ·subst hcc
      have hm2:m1=m+ounits:=by simpa using HN.out
      subst hm2
      go_wp2
      exact ⟨⟨k+1,by omega,by go_num,by rw [HK.out],bL⟩,by simp [intOf];omega⟩
     ·have hc2:(ocust==c)=false:=by simpa using hcc
      have hm2:m1=m:=by simpa [hc1,hc2] using HN.out
      subst hm2
      go_wp2
      exact ⟨⟨k+1,by omega,by go_num,by rw [HK.out],bL⟩,by simp [intOf];omega⟩
   ·have hs1:(ostate==st)=false:=by simpa using hs
    have hm2:m1=m:=by simpa [hs1] using HN.out
    subst hm2
    go_wp2
    exact ⟨⟨k+1,by omega,by go_num,by rw [HK.out],bL⟩,by simp [intOf];omega⟩
  ·go_wp2
   go_ret
   exact ⟨by rw [List.take_of_length_le (by omega)];rfl,hbel⟩
theorem jag {n:Int} (h0:-9223372036854775808<=n) (h1:n<=9223372036854775807):IntKind.i64.wrap n=n:=by
 rw [IntKind.wrap_i64]
 omega
theorem ja9 {w w':World} {B R:Nat} {S:Sal} {ap:Option Addr} {lp cp:Nat} {vo va:Value} (h:saleAt w B R S ap lp cp vo va) (hb:Below w.heap.size w w'):saleAt w' B R S ap lp cp vo va :=
 ⟨(hb.block R (blt h.blk)).trans h.blk,h.tiers.below hb (Nat.le_refl _),h.low,jam h.os hb (Nat.le_refl _),jam h.ansL hb (Nat.le_refl _)⟩
structure salN (S:Sal):Prop where
 units:∀ o∈S.os,0<=o.units/\o.units<=4294967296
 held:∀ c,ja4 S.os 13 c<=4294967296
 sold:∀ c,ja4 S.os 14 c<=4294967296
 waits:∀ c,c≠0->ja4 S.os 12 c<=4294967296
 len:S.os.length * 48+48<=140737488351232
 stock:0<=S.C.stock/\S.C.stock<=4294967296
theorem jce {w:World} {B R:Nat} {S:Sal} {ap:Option Addr} {lp cp:Nat} {vo va:Value} (h:saleAt w B R S ap lp cp vo va) (hN:salN S) (st c:Int) (hc:st=13\/st=14\/(st=12/\c≠0)) :
 ∀ W,Below w.heap.size w W->Calls Tryz.prog 125 #[pt R 0,iv st,iv c] W fun e w'=>e=.returned (iv (ja4 S.os st c))/\Below W.heap.size W w':=by
 intro W hW
 have h':=ja9 h hW
 have h9:W.cell? (aq R 9)=some vo:=by rw [Joins.cell_of_block h'.blk];rfl
 refine jx0 R vo S.os st c W h9 (jed h'.os) (by have:=hN.len;omega) (fun o ho=>(hN.units o ho).1) ?_
 rcases hc with rfl|rfl|⟨rfl,hc⟩
 ·have:=hN.held c;omega
 ·have:=hN.sold c;omega
 ·have:=hN.waits c hc;omega
theorem jfp {S:Sal} (hN:salN S) (st c:Int):0<=ja4 S.os st c:=jdd st c (fun o ho=>(hN.units o ho).1)
theorem jvt (R:Nat) (stock u:Int) (w:World) (h0:w.cell? (aq R 0)=some (iv stock)) (hs:0<=stock/\stock<=4294967296) (hu:0<=u/\u<=4294967296)
 (HU:Hid (∀ W,Below w.heap.size w W->Calls Tryz.prog 125 #[pt R 0,iv 14,iv 0] W fun e w'=>e=.returned (iv u)/\Below W.heap.size W w')) :
 Calls Tryz.prog 151 #[pt R 0] w fun e w'=>e=.returned (iv (stock - u))/\Below w.heap.size w w':=by
 have hRw:R<w.heap.size:=World.block_lt_of_cell? w _ h0
 go_enter Tryz.func151,Tryz.ntmps151
 have hw:IntKind.i64.wrap (stock - u)=stock - u:=jag (by omega) (by omega)
 go_wp2_with fail
 go_region_held3 (fun w'=>w'.cell? (aq R 0)=some (iv stock)) (simp [go_sem, *])
  (first|(go_at_call 125;refine (HU.out _ bL).mono ?_;rintro e w1 ⟨rfl,b⟩
          have e0:=(b.cell (p:=(aq R 0)) (by simp<;>omega)).trans (by simp [go_sem, *]:_=some (iv stock))))
 go_wp2
 go_ret
 exact ⟨rfl,Below.trans (show Below w.heap.size w _ from bL) (b.mono (by simp))⟩
section
section
variable {w:World} {B R:Nat} {S:Sal} {ap:Option Addr} {lp cp:Nat} {vo va:Value}
theorem jk8 (h:saleAt w B R S ap lp cp vo va) (hN:salN S) :
 ∀ W,Below w.heap.size w W->Calls Tryz.prog 151 #[pt R 0] W fun e w'=>e=.returned (iv S.left)/\Below W.heap.size W w':=by
 intro W hW
 have h':=ja9 h hW
 exact jvt R S.C.stock (ja4 S.os 14 0) W (jcf h'.blk).1 hN.stock ⟨jfp hN 14 0,hN.sold 0⟩ (fun W2 h2=>jce h' hN 14 0 (.inr (.inl rfl)) W2 h2)
end
theorem jvd (R:Nat) (l u:Int) (w:World) (hs:-4294967296<=l/\l<=4294967296) (hu:0<=u/\u<=4294967296)
 (HL:Hid (∀ W,Below w.heap.size w W->Calls Tryz.prog 151 #[pt R 0] W fun e w'=>e=.returned (iv l)/\Below W.heap.size W w'))
 (HU:Hid (∀ W,Below w.heap.size w W->Calls Tryz.prog 125 #[pt R 0,iv 13,iv 0] W fun e w'=>e=.returned (iv u)/\Below W.heap.size W w')) :
 Calls Tryz.prog 124 #[pt R 0] w fun e w'=>e=.returned (iv (l - u))/\Below w.heap.size w w':=by
 go_enter Tryz.func124,Tryz.ntmps124
 go_wp2_with (first
  | (go_at_call 151;refine (HL.out _ bL).mono ?_;rintro e w1 ⟨rfl,b1⟩
     have hb1:Below w.heap.size w w1:=Below.trans (show Below w.heap.size w _ from bL) (b1.mono (by simp)))
  | (go_at_call 125;refine (HU.out _ bL).mono ?_;rintro e w2 ⟨rfl,b2⟩))
 go_ret
 exact ⟨rfl,Below.trans hb1 (b2.mono hb1.size)⟩
section
variable {w:World} {B R:Nat} {S:Sal} {ap:Option Addr} {lp cp:Nat} {vo va:Value}
theorem jti (hN:salN S):-4294967296<=S.left/\S.left<=4294967296:=by
 have h1:=jfp hN 14 0
 have h2:=hN.sold 0
 have h3:=hN.stock
 unfold Sal.left
 omega
theorem jkl (h:saleAt w B R S ap lp cp vo va) (hN:salN S) :
 ∀ W,Below w.heap.size w W->Calls Tryz.prog 124 #[pt R 0] W fun e w'=>e=.returned (iv S.free)/\Below W.heap.size W w':=by
 intro W hW
 have h':=ja9 h hW
 exact jvd R S.left (ja4 S.os 13 0) W (jti hN) ⟨jfp hN 13 0,hN.held 0⟩ (jk8 h' hN) (jce h' hN 13 0 (.inl rfl))
end
theorem Tryz.infoInt:(Tryz.prog.info? 3).map (fun i=>(i.zero,i.size,i.bytes))=some (some (iv 0),1,8):=by kernel_rfl
def jrn (n:Nat):Value:=iv n
theorem jjr (os:List Ord):∀ k,(jan os k).length<=k
 | 0=>Nat.le_refl _
 | k+1=>by
   have:=jjr os k
   unfold jan
   split
   ·simp;omega
   ·omega
theorem jes (os:List Ord):∀ k,∀ q∈jan os k,q<k
 | 0,q,h=>by simp [jan] at h
 | k+1,q,h=>by
   unfold jan at h
   split at h
   ·rcases List.mem_append.1 h with h|h
    ·have:=jes os k q h;omega
    ·simp at h;omega
   ·have:=jes os k q h;omega
theorem jvg (R:Nat) (v:Value) (os:List Ord) (w:World) (h9:w.cell? (aq R 9)=some v) (hd:jre w v os) (hl:os.length * 48+48<=140737488351232) :
 Calls Tryz.prog 123 #[pt R 0] w fun e w'=>∃ out,e=.returned out/\w'.ownsRow w.heap.size 3 1 out (ja7 os).length ((ja7 os).map jrn)/\Below w.heap.size w w':=by
 obtain ⟨i0,hi,hz0,hz1,hz2⟩:=info_parts Tryz.infoInt
 obtain ⟨a,cp,rfl,hc⟩:=hd
 have hRw:R<w.heap.size:=World.block_lt_of_cell? w _ h9
 have HC:Hid (0<os.length->∃ g,a=some (aq g 0)/\g<w.heap.size/\∀ i,i<os.length->jib w g i (os.getD i ja3)):=hc
 have H9:Hid (w.cell? (aq R 9)=some (.slice a os.length cp)):=h9
 clear hc h9
 go_enter Tryz.func123,Tryz.ntmps123
 go_wp2_with fail
 go_loopw [3,4] (fun l i wr=>∃ k:Nat,k<=os.length/\i=iv k/\Hid (wr.ownsRow w.heap.size 3 1 l (jan os k).length ((jan os k).map jrn))/\Below w.heap.size w wr) (fun _ i _=>os.length - (intOf i).toNat)
 case atStart=>exact ⟨0,Nat.zero_le _,rfl,World.ownsRow_nil _ _ _ _,Below.refl _ _⟩
 case round =>
  obtain ⟨k,hk,rfl,HO,hbel⟩:=hrel
  have c9:=(hbel.cell (p:=(aq R 9)) hRw).trans H9.out
  have hRr:R<wr.heap.size:=Nat.lt_of_lt_of_le hRw hbel.size
  have hz:=hbel.size
  have hql:=jjr os k
  obtain ⟨la,lc,rfl⟩:=jc7 HO.out
  by_cases hlt:k<os.length
  ·obtain ⟨g,rfl,hgw,hcell⟩:=HC.out (by omega)
   have e2:=(ji2 (hcell k hlt) hbel hgw).2.2.1
   have hgr:g<wr.heap.size:=Nat.lt_of_lt_of_le hgw hbel.size
   have b0:(0:Int)<=(k:Int):=by omega
   have b1:(k:Int)<(os.length:Int):=by omega
   have HQ1:Hid ((os.getD k ja3).state=12->jan os (k+1)=jan os k++[k]):=fun h=>by rw [jan,if_pos h]
   have HQ2:Hid (¬ (os.getD k ja3).state=12->jan os (k+1)=jan os k):=fun h=>by rw [jan,if_neg h]
   generalize (os.getD k ja3).state=st at e2 HQ1 HQ2
   clear hcell HC
   by_cases hs:st=12
   ·have hq:=HQ1.out hs
    subst hs
    go_wp2_with (at_builtin;refine wpList_append_own_at _ rfl _ _ 25 rfl w.heap.size 3 i0 (iv 0) 1 8 Tryz.underlying25 hi hz0 hz1 hz2 rfl (by decide) _ _ _ rfl (HO.out.alloc _) (aq wr.heap.size 0) 1 1 [iv k] rfl rfl ?c1 ?c2 ?c3 ?c4 ?c5 ?_)
    case c2=>rfl
    case c3=>unfold maxLen;omega
    case c4=>omega
    case c5=>omega
    intro l' w3 hown3 hgrow _ hat
    have hb3:Below w.heap.size w w3:=⟨hgrow.os.trans hbel.os,hgrow.tape.trans hbel.tape,hgrow.output.trans hbel.output,by have:=hgrow.size;simp at this;omega,fun b hb=>by
     rw [hgrow.block b (by simp;omega) (fun e=>by have:=(World.ownsRow.lt HO.out b e.symm).1;omega),Below.heap_alloc wr _ b (by omega)]
     exact hbel.block b hb⟩
    have HO3:Hid (w3.ownsRow w.heap.size 3 1 l' (jan os (k+1)).length ((jan os (k+1)).map jrn)):=by
     show World.ownsRow _ _ _ _ _ _ _
     rw [hq,List.map_append,List.length_append]
     exact hown3
    obtain ⟨la',lc',rfl⟩:=jc7 hown3
    clear hown3 hgrow hat HO
    go_wp2
    exact ⟨⟨k+1,by omega,by go_num,HO3,hb3⟩,by simp [intOf];omega⟩
   ·have hq:=HQ2.out hs
    have hs1:(st==12)=false:=by simpa using hs
    have HO3:Hid (wr.ownsRow w.heap.size 3 1 (.slice la (jan os k).length lc) (jan os (k+1)).length ((jan os (k+1)).map jrn)):=by
     show World.ownsRow _ _ _ _ _ _ _
     rw [hq]
     exact HO.out
    go_wp2
    exact ⟨⟨k+1,by omega,by go_num,HO3,hbel⟩,by simp [intOf];omega⟩
  ·have hke:k=os.length:=by omega
   subst hke
   go_wp2
   go_ret
   exact ⟨_,rfl,HO.out,hbel⟩
section
variable {w:World} {B R:Nat} {S:Sal} {ap:Option Addr} {lp cp:Nat} {vo va:Value}
theorem jfz (h:saleAt w B R S ap lp cp vo va) (hN:salN S) :
 ∀ W,Below w.heap.size w W->Calls Tryz.prog 123 #[pt R 0] W fun e w'=>∃ out,e=.returned out/\w'.ownsRow W.heap.size 3 1 out (ja7 S.os).length ((ja7 S.os).map jrn)/\Below W.heap.size W w':=by
 intro W hW
 have h':=ja9 h hW
 exact jvg R vo S.os W (by rw [Joins.cell_of_block h'.blk];rfl) (jed h'.os) hN.len
end
theorem jsk (R:Nat) (ap:Option Addr) (lp cp:Nat) (ps:List (Int × Int)) (sold:Int) (w:World) (h7:w.cell? (aq R 7)=some (.slice ap lp cp)) (ht:tiersAt w ap lp cp ps)
 (HU:Hid (∀ W,Below w.heap.size w W->Calls Tryz.prog 125 #[pt R 0,iv 14,iv 0] W fun e w'=>e=.returned (iv sold)/\Below W.heap.size W w')) :
 Calls Tryz.prog 183 #[pt R 0] w fun e w'=>e=.returned (iv (jcw ps sold ps.length))/\Below w.heap.size w w':=by
 have hRw:R<w.heap.size:=World.block_lt_of_cell? w _ h7
 obtain ⟨t1,t2,t3,t4,t5⟩:=ht
 subst t1
 have HT:Hid (0<ps.length->∃ b off,ap=some (aq b off)/\b<w.heap.size/\∀ i,i<ps.length->w.cell? (aq b (off+i * 2))=some (iv (ps.getD i (0,0)).1)/\w.cell? (aq b (off+i * 2+1))=some (iv (ps.getD i (0,0)).2)):=fun h=>t5 (List.length_pos_iff.1 h)
 have H7:Hid (w.cell? (aq R 7)=some (.slice ap ps.length cp)):=h7
 clear t4 t5 h7
 go_enter Tryz.func183,Tryz.ntmps183
 go_wp2_with (go_at_call 125;refine (HU.out _ bL).mono ?_;rintro e w1 ⟨rfl,b1⟩)
 go_loopw [4,5] (fun c i wr=>∃ k:Nat,k<=ps.length/\i=iv k/\c=iv (jcw ps sold k)/\Below w.heap.size w wr) (fun _ i _=>ps.length - (intOf i).toNat)
 case atStart=>exact ⟨0,Nat.zero_le _,rfl,rfl,b1⟩
 case round =>
  obtain ⟨k,hk,rfl,rfl,hbel⟩:=hrel
  have c7:=(hbel.cell (p:=(aq R 7)) hRw).trans H7.out
  by_cases hlt:k<ps.length
  ·obtain ⟨b,off,rfl,hbw,hcell⟩:=HT.out (by omega)
   obtain ⟨k0,k1⟩:=hcell k hlt
   have d0:=(hbel.cell (p:=(aq b (off+k * 2))) hbw).trans k0
   have d1:=(hbel.cell (p:=(aq b (off+k * 2+1))) hbw).trans k1
   have HP:Hid (jcw ps sold (k+1)=if (ps.getD k (0,0)).1<=sold then (ps.getD k (0,0)).2 else jcw ps sold k):=rfl
   have b0:(0:Int)<=(k:Int):=by omega
   have b1':(k:Int)<(ps.length:Int):=by omega
   clear k0 k1 hcell HT
   generalize ps.getD k (0,0)=p at d0 d1 HP
   obtain ⟨p0,p1⟩:=p
   simp only at d0 d1 HP
   by_cases hle:p0<=sold
   ·have HP2:Hid (jcw ps sold (k+1)=p1):=by rw [Hid,HP.out,if_pos hle]
    go_wp2
    exact ⟨⟨k+1,by omega,by go_num,by rw [HP2.out],bL⟩,by simp [intOf];omega⟩
   ·have HP2:Hid (jcw ps sold (k+1)=jcw ps sold k):=by rw [Hid,HP.out,if_neg hle]
    have hle':decide (p0<=sold)=false:=by simpa using hle
    go_wp2
    exact ⟨⟨k+1,by omega,by go_num,by rw [HP2.out],bL⟩,by simp [intOf];omega⟩
  ·have hke:k=ps.length:=by omega
   subst hke
   go_wp2
   go_ret
   exact ⟨rfl,hbel⟩
section
variable {w:World} {B R:Nat} {S:Sal} {ap:Option Addr} {lp cp:Nat} {vo va:Value}
theorem jsv (h:saleAt w B R S ap lp cp vo va) (hN:salN S) :
 ∀ W,Below w.heap.size w W->Calls Tryz.prog 183 #[pt R 0] W fun e w'=>e=.returned (iv S.price)/\Below W.heap.size W w':=by
 intro W hW
 have h':=ja9 h hW
 exact jsk R ap lp cp S.C.prices (ja4 S.os 14 0) W (by rw [Joins.cell_of_block h'.blk];rfl) h'.tiers (fun W2 h2=>jce h' hN 14 0 (.inr (.inl rfl)) W2 h2)
end
end
section
theorem jj0:∀ os:List Ord,(jbg os).length=os.length * 6
 | []=>rfl
 | o :: os=>by
   have:=jj0 os
   simp only [jbg,List.flatMap_cons,List.length_append,List.length_cons,Ord.vals,List.length_nil] at this ⊢
   omega
theorem jsz {os:List Ord} {i:Nat} (h:i<os.length):jbg os=jbg (os.take i)++((os.getD i ja3).vals++jbg (os.drop (i+1))):=by
 have e:os=os.take i++os.getD i ja3 :: os.drop (i+1):=by
  have:=List.drop_eq_getElem_cons h
  have g:os.getD i ja3=os[i]:=by simp [List.getD,List.getElem?_eq_getElem h]
  rw [g,← this,List.take_append_drop]
 conv=>lhs;rw [e]
 simp [jbg]
theorem jmm {os:List Ord} {i:Nat} (o:Ord) (h:i<os.length):jbg (os.set i o)=jbg (os.take i)++(o.vals++jbg (os.drop (i+1))):=by
 rw [List.set_eq_take_append_cons_drop,if_pos h]
 simp [jbg]
theorem jm1 {w:World} {B g n cap size:Nat} {T:TypeId} {xs:List Value} (h:w.ownsRow B T size (.slice (some (aq g 0)) n cap) n xs):∃ Z,w.heap[g]?=some (.cells (xs++Z).toArray T (0,0))/\B<=g/\n<=cap/\cap<=maxLen/\(xs++Z).length=cap * size/\xs.length=n * size:=by
 obtain ⟨hx,h⟩:=h
 rcases h with ⟨h,_⟩|⟨g',cap',cur,h,hB,hh,h1,h2,h3,h4⟩
 ·simp at h
 ·simp only [Value.slice.injEq,Option.some.injEq,Addr.mk.injEq,and_true,true_and] at h
  obtain ⟨rfl,rfl⟩:=h
  refine ⟨cur.toList.drop (n * size),?_,hB,h1,h2,?_,hx⟩
  ·rw [← h4,List.take_append_drop];simpa using hh
  ·rw [← h4,List.take_append_drop];simpa using h3
theorem jr0 {w:World} {B g n cap size:Nat} {T:TypeId} {xs Z:List Value} (hh:w.heap[g]?=some (.cells (xs++Z).toArray T (0,0))) (hB:B<=g) (h1:n<=cap) (h2:cap<=maxLen) (h3:(xs++Z).length=cap * size) (hx:xs.length=n * size):w.ownsRow B T size (.slice (some (aq g 0)) n cap) n xs :=
 ⟨hx,.inr ⟨g,cap,_,rfl,hB,hh,h1,h2,by simpa using h3,by show (xs++Z).take (n * size)=xs;rw [← hx,List.take_left'];rfl⟩⟩
def Sal.put (S:Sal) (i:Nat) (o:Ord):Sal:={ S with os:=S.os.set i o }
section
variable {w w':World} {B R:Nat} {S:Sal} {ap:Option Addr} {lp cp:Nat} {vo va:Value}
theorem jpr {g cap i:Nat} {o:Ord} {Z:List Value} (h:saleAt w B R S ap lp cp (.slice (some (aq g 0)) S.os.length cap) va) (hb:w.heap[g]?=some (.cells (jbg S.os++Z).toArray 228 (0,0)))
 (hg:w'.heap[g]?=some (.cells (jbg (S.os.set i o)++Z).toArray 228 (0,0))) (hs:Same (fun b=>b=g) w w'):saleAt w' B R (S.put i o) ap lp cp (.slice (some (aq g 0)) S.os.length cap) va:=by
 have hR:R≠g:=fun e=>by have:=h.blk;rw [e,hb] at this;simp at this
 obtain ⟨Z',hb',hB,h1,h2,h3,hx⟩:=jm1 h.os
 have hlen:(jbg (S.os.set i o)++Z).length=(jbg S.os++Z').length:=by
  rw [hb] at hb'
  simp only [Option.some.injEq,Obj.cells.injEq,Array.mk.injEq,and_true] at hb'
  rw [← hb']
  simp [jj0]
 have hos:w'.ownsRow B 228 6 (.slice (some (aq g 0)) S.os.length cap) (S.put i o).os.length (jbg (S.put i o).os):=by
  have:=jr0 (n:=S.os.length) (size:=6) hg hB h1 h2 (hlen.trans h3) (by rw [jj0,List.length_set])
  simpa [Sal.put] using this
 have hap:∀ b off,ap=some (aq b off)->b≠g:=fun b off e=>by have:=h.low b off e;omega
 refine ⟨(hs.block R (blt h.blk) hR).trans h.blk,?_,h.low,hos,?_⟩
 ·obtain ⟨t1,t2,t3,t4,t5⟩:=h.tiers
  refine ⟨t1,t2,t3,t4,fun hne=>?_⟩
  obtain ⟨b,off,rfl,hbw,hc⟩:=t5 hne
  exact ⟨b,off,rfl,Nat.lt_of_lt_of_le hbw hs.size,fun k hk=>⟨(hs.cell hbw (hap b off rfl)).trans (hc k hk).1,(hs.cell hbw (hap b off rfl)).trans (hc k hk).2⟩⟩
 ·exact jac h.ansL (fun k hk=>hs.block k (World.ownsRow.lt h.ansL k hk).2 (fun e=>jak h.ansL hb (by decide) (e▸hk)))
end
theorem jxa (R g cap n i:Nat) (st now:Int) (w:World) (h9:w.cell? (aq R 9)=some (.slice (some (aq g 0)) n cap)) (h8:w.cell? (aq R 8)=some (iv now)) (hi:i<n) (hRg:R≠g) (u2 u5:Value) (c2:w.cell? (aq g (i * 6+2))=some u2) (c5:w.cell? (aq g (i * 6+5))=some u5) (f2:w.frozen? (aq g (i * 6+2))=false) (f5:w.frozen? (aq g (i * 6+5))=false) :
 Calls Tryz.prog 152 #[pt R 0,iv i,iv st] w fun e w'=>e=.returned (.tuple #[])/\Below w.heap.size ((w.setCell (aq g (i * 6+2)) (iv st)).setCell (aq g (i * 6+5)) (iv now)) w':=by
 have b0:(0:Int)<=(i:Int):=by omega
 have b1:(i:Int)<(n:Int):=by omega
 have hgR:g≠R:=fun e=>hRg e.symm
 go_enter Tryz.func152,Tryz.ntmps152
 go_wp2_with fail
 go_region
 go_end0
 exact ⟨rfl,rfl,rfl,rfl,Nat.le_refl _,fun _ _=>rfl⟩
def Sal.ends (S:Sal) (i:Nat) (st:Int):Sal:=S.put i { S.os.getD i ja3 with state:=st,ended:=S.now }
section
variable {w w':World} {B R:Nat} {S:Sal} {ap:Option Addr} {lp cp:Nat} {vo va:Value}
theorem jq0 {g cap:Nat} (h:saleAt w B R S ap lp cp (.slice (some (aq g 0)) S.os.length cap) va) {i:Nat} (hi:i<S.os.length):∃ Z,w.heap[g]?=some (.cells (jbg S.os++Z).toArray 228 (0,0))/\jbg S.os++Z=jbg (S.os.take i)++((S.os.getD i ja3).vals++(jbg (S.os.drop (i+1))++Z))/\(jbg (S.os.take i)).length=i * 6:=by
 obtain ⟨Z,hb,_⟩:=jm1 h.os
 exact ⟨Z,hb,by rw [jsz hi];simp,by rw [jj0,List.length_take,Nat.min_eq_left (by omega)]⟩
theorem jla (h:saleAt w B R S ap lp cp vo va) {i:Nat} (hi:i<S.os.length):∃ g cap,vo=.slice (some (aq g 0)) S.os.length cap:=by
 rcases h.os.2 with ⟨_,h0⟩|⟨g,c,cur,hv,_⟩
 ·omega
 ·exact ⟨g,c,hv⟩
theorem jhh (h:saleAt w B R S ap lp cp vo va) {i:Nat} (hi:i<S.os.length) (st:Int) :
 ∀ W,Below w.heap.size w W->Calls Tryz.prog 152 #[pt R 0,iv i,iv st] W fun e w'=>e=.returned (.tuple #[])/\saleAt w' B R (S.ends i st) ap lp cp vo va/\Same (fun b=>vo.ownBlock=some b) w w':=by
 intro W hW
 have h':=ja9 h hW
 obtain ⟨g,cap,rfl⟩:=jla h hi
 obtain ⟨Z,hb,hsp,hA⟩:=jq0 h' hi
 obtain ⟨_,_,_,_,_,_,_,_,c8,c9,_⟩:=jcf h'.blk
 have hRg:R≠g:=fun e=>by have:=h'.blk;rw [e,hb] at this;simp at this
 obtain ⟨g',e',hgw,hoc⟩:∃ g',some ((aq g 0):Addr)=some (aq g' 0)/\g'<W.heap.size/\∀ i,i<S.os.length->jib W g' i (S.os.getD i ja3):=by
  obtain ⟨a,c,hv,hc⟩:=jed h'.os
  simp at hv
  obtain ⟨g',e',rest⟩:=hc (by omega)
  exact ⟨g',by rw [← e',← hv.1],rest⟩
 simp at e'
 subst e'
 obtain ⟨o0,o1,o2,o3,o4,o5⟩:=hoc i hi
 refine (jxa R g cap S.os.length i st S.now W c9 c8 hi hRg _ _ o2 o5 (ja0 hb _) (ja0 hb _)).mono ?_
 rintro e w' ⟨rfl,hb'⟩
 have hz:((W.setCell (aq g (i * 6+2)) (iv st)).setCell (aq g (i * 6+5)) (iv S.now)).heap.size=W.heap.size:=by simp [World.setCell]
 have hs2:Same (fun b=>b=g) W w':=⟨hb'.os,hb'.tape,hb'.output,by have:=hb'.size;omega,fun k hk hne=>(hb'.block k hk).trans ((Below.heap_setCell _ (aq g (i * 6+5)) _ _ hne).trans (Below.heap_setCell _ (aq g (i * 6+2)) _ _ hne))⟩
 have hgw':w'.heap[g]?=some (.cells (jbg (S.os.set i { S.os.getD i ja3 with state:=st,ended:=S.now })++Z).toArray 228 (0,0)):=by
  rw [hb'.block g hgw]
  rw [hsp] at hb
  generalize S.os.getD i ja3=o at hb
  rw [jmm _ hi]
  have s1:=jdh (A:=jbg (S.os.take i)++[iv o.cust,iv o.units]) (z:=iv o.state) (Z:=[iv o.cents,iv o.upto,iv o.ended]++(jbg (S.os.drop (i+1))++Z)) (i:=i * 6+2) (by simpa [Ord.vals] using hb) (by simp [hA]) (iv st)
  have s2:=jdh (A:=jbg (S.os.take i)++[iv o.cust,iv o.units,iv st,iv o.cents,iv o.upto]) (z:=iv o.ended) (Z:=jbg (S.os.drop (i+1))++Z) (i:=i * 6+5) (by simpa using s1) (by simp [hA]) (iv S.now)
  simpa [Ord.vals] using s2
 refine ⟨rfl,jpr h' hb hgw' hs2,Same.trans (Same.of_below (own:=fun _=>False) hW) hs2 (fun k _ e=>e.elim False.elim (fun e=>by rw [e];rfl))⟩
end
end
theorem jth (R g cap n i:Nat) (now lease p:Int) (w:World) (h9:w.cell? (aq R 9)=some (.slice (some (aq g 0)) n cap)) (h8:w.cell? (aq R 8)=some (iv now)) (h3:w.cell? (aq R 3)=some (iv lease)) (hi:i<n) (hRg:R≠g)
 (hnl:0<=now/\now<=4611686018427387904/\0<=lease/\lease<=4294967296) (C:Array Value) (hb:w.heap[g]?=some (.cells C 228 (0,0))) (u2 u3 u4:Value) (c2:w.cell? (aq g (i * 6+2))=some u2) (c3:w.cell? (aq g (i * 6+3))=some u3) (c4:w.cell? (aq g (i * 6+4))=some u4)
 (HP:Hid (∀ W,Below w.heap.size (w.setCell (aq g (i * 6+2)) (iv 13)) W->Calls Tryz.prog 183 #[pt R 0] W fun e w'=>e=.returned (iv p)/\Below W.heap.size W w')) :
 Calls Tryz.prog 168 #[pt R 0,iv i] w fun e w'=>e=.returned (.tuple #[])/\∃ w1,Below w.heap.size (w.setCell (aq g (i * 6+2)) (iv 13)) w1/\Below w1.heap.size ((w1.setCell (aq g (i * 6+3)) (iv p)).setCell (aq g (i * 6+4)) (iv (now+lease))) w':=by
 have b0:(0:Int)<=(i:Int):=by omega
 have b1:(i:Int)<(n:Int):=by omega
 have hgR:g≠R:=fun e=>hRg e.symm
 have hRw:R<w.heap.size:=World.block_lt_of_cell? w _ h9
 have hgw:g<w.heap.size:=World.block_lt_of_cell? w _ c2
 have f2:=ja0 hb (i * 6+2)
 have HB:Hid (w.heap[g]?=some (.cells C 228 (0,0))/\w.cell? (aq g (i * 6+3))=some u3/\w.cell? (aq g (i * 6+4))=some u4/\w.cell? (aq R 9)=some (.slice (some (aq g 0)) n cap)/\w.cell? (aq R 8)=some (iv now)/\w.cell? (aq R 3)=some (iv lease)):=⟨hb,c3,c4,h9,h8,h3⟩
 go_enter Tryz.func168,Tryz.ntmps168
 have hz:(w.setCell (aq g (i * 6+2)) (iv 13)).heap.size=w.heap.size:=by simp [World.setCell]
 go_wp2_with fail
 go_region_held3 (fun w'=>w'.cell? (aq R 9)=some (.slice (some (aq g 0)) n cap)) (simp [go_sem, *])
  (first|(go_at_call 183;refine (HP.out _ bL).mono ?_;rintro e w1 ⟨rfl,b⟩
          have hb1:Below w.heap.size (w.setCell (aq g (i * 6+2)) (iv 13)) w1:=Below.trans (show Below w.heap.size (w.setCell (aq g (i * 6+2)) (iv 13)) _ from bL) (b.mono (by simp [World.setCell]))
          have hg1:=(hb1.block g hgw).trans (Joins.block_setCell HB.out.1 _)
          have f3:=ja0 hg1 (i * 6+3)
          have f4:=ja0 hg1 (i * 6+4)
          have q9:=(hb1.cell (p:=(aq R 9)) hRw).trans (by simp [go_sem, *]:_=some (.slice (some (aq g 0)) n cap))
          have q8:=(hb1.cell (p:=(aq R 8)) hRw).trans (by simp [go_sem, *]:_=some (iv now))
          have q3:=(hb1.cell (p:=(aq R 3)) hRw).trans (by simp [go_sem, *]:_=some (iv lease))
          have qc3:=(hb1.cell (p:=(aq g (i * 6+3))) hgw).trans (by simp [go_sem, *]:_=some u3)
          have qc4:=(hb1.cell (p:=(aq g (i * 6+4))) hgw).trans (by simp [go_sem, *]:_=some u4)))
 clear hg1 b c2 c3 c4 h9 h8 h3 f2 HB HP
 go_wp2_with fail
 go_region
 go_end0
 exact ⟨rfl,w1,hb1,⟨rfl,rfl,rfl,Nat.le_refl _,fun _ _=>rfl⟩⟩
def Ord.part (o:Ord) (st c:Int):Int:=if o.is st c then o.units else 0
theorem jct {os:List Ord} {i:Nat} (h:i<os.length) (o:Ord) (st c:Int):ja4 (os.set i o) st c=ja4 os st c - (os.getD i ja3).part st c+o.part st c:=by
 have e:os=os.take i++os.getD i ja3 :: os.drop (i+1):=by
  have:=List.drop_eq_getElem_cons h
  have g:os.getD i ja3=os[i]:=by simp [List.getD,List.getElem?_eq_getElem h]
  rw [g,← this,List.take_append_drop]
 have e1:ja4 os st c=ja4 (os.take i) st c+((os.getD i ja3).part st c+ja4 (os.drop (i+1)) st c):=by
  conv=>lhs;rw [e]
  simp [ja4,Ord.part]
 have e2:ja4 (os.set i o) st c=ja4 (os.take i) st c+(o.part st c+ja4 (os.drop (i+1)) st c):=by
  rw [List.set_eq_take_append_cons_drop,if_pos h]
  simp [ja4,Ord.part]
 omega
theorem jbz (os:List Ord) (o:Ord) (st c:Int):ja4 (os++[o]) st c=ja4 os st c+o.part st c:=by simp [ja4,Ord.part]
theorem jbm {os:List Ord} {i k:Nat} (o:Ord) (h:i<os.length):(os.set i o).getD k ja3=if k=i then o else os.getD k ja3:=by
 simp only [List.getD,List.getElem?_set]
 by_cases e:i=k
 ·subst e
  simp [h]
 ·rw [if_neg e,if_neg (fun c=>e c.symm)]
theorem jbj (os:List Ord):∀ k q,q∈jan os k↔q<k/\(os.getD q ja3).state=12
 | 0,q=>by simp [jan]
 | k+1,q=>by
   have ih:=jbj os k q
   unfold jan
   split
   ·next h =>
    rw [List.mem_append,ih]
    constructor
    ·rintro (⟨h1,h2⟩|h1)
     ·exact ⟨by omega,h2⟩
     ·simp at h1;subst h1;exact ⟨by omega,h⟩
    ·rintro ⟨h1,h2⟩
     by_cases e:q=k
     ·exact .inr (by simp [e])
     ·exact .inl ⟨by omega,h2⟩
   ·next h =>
    rw [ih]
    constructor
    ·rintro ⟨h1,h2⟩;exact ⟨by omega,h2⟩
    ·rintro ⟨h1,h2⟩
     refine ⟨?_,h2⟩
     by_cases e:q=k
     ·subst e;exact absurd h2 h
     ·omega
theorem jdp (os:List Ord):∀ k,(jan os k).Pairwise (·<·)
 | 0=>by simp [jan]
 | k+1=>by
   have ih:=jdp os k
   unfold jan
   split
   ·rw [List.pairwise_append]
    exact ⟨ih,by simp,fun a ha b hb=>by
     have hb':b=k:=by simpa using hb
     rw [hb']
     exact jes os k a ha⟩
   ·exact ih
theorem joe {os:List Ord} {i:Nat} (o:Ord) (h:i<os.length) (ho:o.state≠12):∀ k,jan (os.set i o) k=(jan os k).filter (· != i)
 | 0=>by simp [jan]
 | k+1=>by
   have ih:=joe o h ho k
   by_cases e:k=i
   ·subst e
    have h1:((os.set k o).getD k ja3).state≠12:=by rw [jbm o h,if_pos rfl];exact ho
    have h0:(jan os k).filter (· != k)=jan os k:=by
     rw [List.filter_eq_self]
     intro q hq
     have:=jes os k q hq
     simp;omega
    have hl:jan (os.set k o) (k+1)=jan os k:=by rw [jan,if_neg h1,ih,h0]
    rw [hl]
    by_cases hs:(os.getD k ja3).state=12
    ·have hr:jan os (k+1)=jan os k++[k]:=by rw [jan,if_pos hs]
     rw [hr,List.filter_append,h0]
     simp
    ·have hr:jan os (k+1)=jan os k:=by rw [jan,if_neg hs]
     rw [hr,h0]
   ·have h1:((os.set i o).getD k ja3)=os.getD k ja3:=by rw [jbm o h,if_neg e]
    by_cases hs:(os.getD k ja3).state=12
    ·have hr:jan os (k+1)=jan os k++[k]:=by rw [jan,if_pos hs]
     have hl:jan (os.set i o) (k+1)=jan (os.set i o) k++[k]:=by rw [jan,h1,if_pos hs]
     rw [hl,hr,List.filter_append,ih]
     simp [e]
    ·have hr:jan os (k+1)=jan os k:=by rw [jan,if_neg hs]
     have hl:jan (os.set i o) (k+1)=jan (os.set i o) k:=by rw [jan,h1,if_neg hs]
     rw [hl,hr,ih]
theorem jlj {os:List Ord} {i:Nat} (o:Ord) (h:i<os.length) (ho:o.state≠12):ja7 (os.set i o)=(ja7 os).filter (· != i):=by
 unfold ja7
 rw [List.length_set]
 exact joe o h ho _
theorem jcl {os:List Ord} {q:Nat} {qs:List Nat} (hq:ja7 os=q :: qs) (o:Ord) (ho:o.state≠12):ja7 (os.set q o)=qs/\q<os.length/\(os.getD q ja3).state=12:=by
 have hm:q∈ja7 os:=by rw [hq];simp
 obtain ⟨h1,h2⟩:=(jbj os _ q).1 hm
 refine ⟨?_,h1,h2⟩
 rw [jlj o h1 ho,hq,List.filter_cons_of_neg (by simp),List.filter_eq_self]
 intro a ha
 have hs:=jdp os os.length
 have hs':(q :: qs).Pairwise (·<·):=by rw [← hq];exact hs
 have:=List.rel_of_pairwise_cons hs' ha
 simp;omega
def Sal.holds (S:Sal) (i:Nat):Sal:=S.put i { S.os.getD i ja3 with state:=13,cents:=(S.put i { S.os.getD i ja3 with state:=13 }).price,upto:=S.now+S.C.lease }
def jax:Nat->Sal->Sal
 | 0,S=>S
 | n+1,S=>match ja7 S.os with
   | []=>S
   | q :: _=>if S.free<(S.os.getD q ja3).units then S else jax n (S.holds q)
def Sal.promote (S:Sal):Sal:=jax (ja7 S.os).length S
theorem jic {S:Sal} (h:ja7 S.os=[]):S.promote=S:=by unfold Sal.promote;rw [h];rfl
theorem jgz {S:Sal} {q:Nat} {qs:List Nat} (h:ja7 S.os=q :: qs) (hf:S.free<(S.os.getD q ja3).units):S.promote=S:=by
 unfold Sal.promote
 rw [h]
 simp only [List.length_cons,jax,h,if_pos hf]
theorem jew {S:Sal} {q:Nat} {qs:List Nat} (h:ja7 S.os=q :: qs):ja7 (S.holds q).os=qs:=(jcl h _ (by simp)).1
theorem jo1 {S:Sal} {q:Nat} {qs:List Nat} (h:ja7 S.os=q :: qs) (hf:¬ S.free<(S.os.getD q ja3).units):S.promote=(S.holds q).promote:=by
 unfold Sal.promote
 rw [h,jew h]
 simp only [List.length_cons,jax,h,if_neg hf]
structure salI (S:Sal):Prop where
 units:∀ o∈S.os,1<=o.units/\o.units<=4294967296
 stock:ja4 S.os 13 0+ja4 S.os 14 0<=S.C.stock
 cap:∀ c,c≠0->ja4 S.os 12 c<=4294967296
 cfg:0<=S.C.stock/\S.C.stock<=4294967296/\0<=S.C.lease/\S.C.lease<=4294967296/\0<=S.C.wait/\S.C.wait<=4294967296
 now:0<=S.now/\S.now<=4611686018427387904
 ords:∀ o∈S.os,(0<=o.cents/\o.cents<=1073741824)/\(0<=o.ended/\o.ended<=4611686018427387904)
 prices:∀ p∈S.C.prices,0<=p.2/\p.2<=1073741824
theorem jdl {ps:List (Int × Int)} (h:∀ p∈ps,0<=p.2/\p.2<=1073741824) (sold:Int):∀ k,k<=ps.length->0<=jcw ps sold k/\jcw ps sold k<=1073741824
 | 0,_=>by simp [jcw]
 | k+1,hk=>by
   have ih:=jdl h sold k (by omega)
   unfold jcw
   split
   ·exact h _ (jge (by omega))
   ·exact ih
theorem qeh {o:Ord} (h:0<=o.units) (st c:Int):o.part st c<=o.part st 0:=by
 unfold Ord.part Ord.is
 by_cases e:o.state=st<;>by_cases e2:c=0<;>by_cases e3:o.cust=c<;>simp [e,e2,e3,h]
theorem jlf {os:List Ord} (h:∀ o∈os,0<=o.units) (st c:Int):ja4 os st c<=ja4 os st 0:=by
 induction os with
 | nil=>simp [ja4]
 | cons o os ih =>
   have h1:=ih (fun o ho=>h o (List.mem_cons_of_mem _ ho))
   have h2:=qeh (h o (List.mem_cons_self)) st c
   have e:∀ c,ja4 (o :: os) st c=o.part st c+ja4 os st c:=fun c=>by simp [ja4,Ord.part]
   rw [e,e]
   omega
theorem salI.N {S:Sal} (h:salI S) (hl:S.os.length * 48+48<=140737488351232):salN S:=by
 have hn:∀ o∈S.os,0<=o.units:=fun o ho=>by have:=(h.units o ho).1;omega
 have h0:=h.stock
 have h1:=h.cfg
 have p1:=jdd (os:=S.os) 13 0 hn
 have p2:=jdd (os:=S.os) 14 0 hn
 refine ⟨fun o ho=>⟨hn o ho,(h.units o ho).2⟩,fun c=>?_,fun c=>?_,h.cap,hl,⟨h1.1,h1.2.1⟩⟩
 ·have:=jlf hn 13 c;omega
 ·have:=jlf hn 14 c;omega
theorem ji9 {os:List Ord} {i:Nat} {o x:Ord} (h:x∈os.set i o):x=o\/x∈os:=by
 rcases List.mem_or_eq_of_mem_set h with h|h
 ·exact .inr h
 ·exact .inl h
theorem jbf {os:List Ord} {i:Nat} (h:i<os.length):os.getD i ja3∈os:=by
 simp only [List.getD,List.getElem?_eq_getElem h,Option.getD_some]
 exact List.getElem_mem h
theorem jj8 {S:Sal} (h:salI S) {q:Nat} (hq:q<S.os.length) (hw:(S.os.getD q ja3).state=12) (hf:¬ S.free<(S.os.getD q ja3).units) (o:Ord) (h1:o.cust=(S.os.getD q ja3).cust) (h2:o.units=(S.os.getD q ja3).units) (h3:o.state=13) (h4:(0<=o.cents/\o.cents<=1073741824)/\(0<=o.ended/\o.ended<=4611686018427387904)):salI (S.put q o):=by
 have hm:=jbf hq
 have hu:=h.units _ hm
 have hst:=h.stock
 have hc:=h.cfg
 refine ⟨fun x hx=>?_,?_,fun c hc0=>?_,h.cfg,h.now,fun x hx=>(ji9 hx).elim (fun e=>e▸h4) (h.ords x),h.prices⟩
 ·rcases ji9 hx with rfl|hx
  ·rw [h2];exact hu
  ·exact h.units x hx
 ·show ja4 (S.os.set q o) 13 0+ja4 (S.os.set q o) 14 0<=S.C.stock
  rw [jct hq,jct hq]
  unfold Sal.free Sal.left at hf
  generalize S.os.getD q ja3=p at hw hf h1 h2 hu
  simp [Ord.part,Ord.is,hw,h3,h2]
  omega
 ·show ja4 (S.os.set q o) 12 c<=4294967296
  rw [jct hq]
  have:=h.cap c hc0
  have hp:0<=(S.os.getD q ja3).part 12 c:=by unfold Ord.part;split<;>omega
  have ho:o.part 12 c=0:=by simp [Ord.part,Ord.is,h3]
  omega
section
section
variable {w w':World} {B R:Nat} {S:Sal} {ap:Option Addr} {lp cp:Nat} {vo va:Value}
theorem jlk (h:saleAt w B R S ap lp cp vo va) {i:Nat} (hi:i<S.os.length) (hN1:salN (S.put i { S.os.getD i ja3 with state:=13 })) (hnl:0<=S.now/\S.now<=4611686018427387904/\0<=S.C.lease/\S.C.lease<=4294967296) :
 ∀ W,Below w.heap.size w W->Calls Tryz.prog 168 #[pt R 0,iv i] W fun e w'=>e=.returned (.tuple #[])/\saleAt w' B R (S.holds i) ap lp cp vo va/\Same (fun b=>vo.ownBlock=some b) w w':=by
 intro W hW
 have h':=ja9 h hW
 obtain ⟨g,cap,rfl⟩:=jla h hi
 obtain ⟨Z,hb,hsp,hA⟩:=jq0 h' hi
 obtain ⟨_,_,_,c3,_,_,_,_,c8,c9,_⟩:=jcf h'.blk
 have hRg:R≠g:=fun e=>by have:=h'.blk;rw [e,hb] at this;simp at this
 obtain ⟨g',e',hgw,hoc⟩:∃ g',some ((aq g 0):Addr)=some (aq g' 0)/\g'<W.heap.size/\∀ i,i<S.os.length->jib W g' i (S.os.getD i ja3):=by
  obtain ⟨a,c,hv,hc⟩:=jed h'.os
  simp at hv
  obtain ⟨g',e',rest⟩:=hc (by omega)
  exact ⟨g',by rw [← e',← hv.1],rest⟩
 simp at e'
 subst e'
 obtain ⟨o0,o1,o2,o3,o4,o5⟩:=hoc i hi
 have hz:(W.setCell (aq g (i * 6+2)) (iv 13)).heap.size=W.heap.size:=by simp [World.setCell]
 have hs1:Same (fun b=>b=g) W (W.setCell (aq g (i * 6+2)) (iv 13)):=⟨rfl,rfl,rfl,by omega,fun k hk hne=>Below.heap_setCell _ (aq g (i * 6+2)) _ _ hne⟩
 have hg1:(W.setCell (aq g (i * 6+2)) (iv 13)).heap[g]?=some (.cells (jbg (S.os.set i { S.os.getD i ja3 with state:=13 })++Z).toArray 228 (0,0)):=by
  have hb2:=hb
  rw [hsp] at hb2
  rw [jmm _ hi]
  generalize S.os.getD i ja3=o at hb2
  have s1:=jdh (A:=jbg (S.os.take i)++[iv o.cust,iv o.units]) (z:=iv o.state) (Z:=[iv o.cents,iv o.upto,iv o.ended]++(jbg (S.os.drop (i+1))++Z)) (i:=i * 6+2) (by simpa [Ord.vals] using hb2) (by simp [hA]) (iv 13)
  simpa [Ord.vals] using s1
 have hS1:=jpr h' hb hg1 hs1
 have HP:=jsv hS1 hN1
 rw [hz] at HP
 refine (jth R g cap S.os.length i S.now S.C.lease _ W c9 c8 c3 hi hRg hnl _ hb _ _ _ o2 o3 o4 HP).mono ?_
 rintro e w' ⟨rfl,w1,hb1,hb'⟩
 have hz1:W.heap.size<=w1.heap.size:=by have:=hb1.size;omega
 have hgw1:g<w1.heap.size:=by omega
 have hs2:Same (fun b=>b=g) W w':=⟨hb'.os.trans (hb1.os.trans hs1.os),hb'.tape.trans (hb1.tape.trans hs1.tape),hb'.output.trans (hb1.output.trans hs1.output),by have:=hb'.size;simp [World.setCell] at this;omega,fun k hk hne=>(hb'.block k (by omega)).trans ((Below.heap_setCell _ (aq g (i * 6+4)) _ _ hne).trans ((Below.heap_setCell _ (aq g (i * 6+3)) _ _ hne).trans ((hb1.block k hk).trans (hs1.block k hk hne))))⟩
 have hgw':w'.heap[g]?=some (.cells (jbg (S.os.set i { S.os.getD i ja3 with state:=13,cents:=(S.put i { S.os.getD i ja3 with state:=13 }).price,upto:=S.now+S.C.lease })++Z).toArray 228 (0,0)):=by
  rw [hb'.block g hgw1]
  have hb2:=(hb1.block g hgw).trans hg1
  generalize (S.put i { S.os.getD i ja3 with state:=13 }).price=pr
  rw [jmm _ hi] at hb2 ⊢
  generalize S.os.getD i ja3=o at hb2
  have s1:=jdh (A:=jbg (S.os.take i)++[iv o.cust,iv o.units,iv 13]) (z:=iv o.cents) (Z:=[iv o.upto,iv o.ended]++(jbg (S.os.drop (i+1))++Z)) (i:=i * 6+3) (by simpa [Ord.vals] using hb2) (by simp [hA]) (iv pr)
  have s2:=jdh (A:=jbg (S.os.take i)++[iv o.cust,iv o.units,iv 13,iv pr]) (z:=iv o.upto) (Z:=[iv o.ended]++(jbg (S.os.drop (i+1))++Z)) (i:=i * 6+4) (by simpa using s1) (by simp [hA]) (iv (S.now+S.C.lease))
  simpa [Ord.vals] using s2
 exact ⟨rfl,jpr h' hb hgw' hs2,Same.trans (Same.of_below (own:=fun _=>False) hW) hs2 (fun k _ e=>e.elim False.elim (fun e=>by rw [e];rfl))⟩
end
theorem jqw:∀ {a b:List Ord},jbg a=jbg b->a=b
 | [],[],_=>rfl
 | [],o :: b,h=>by simp [jbg,Ord.vals] at h
 | o :: a,[],h=>by simp [jbg,Ord.vals] at h
 | o :: a,o' :: b,h=>by
   simp only [jbg,List.flatMap_cons,Ord.vals,List.cons_append,List.nil_append,List.cons.injEq,Value.int.injEq,true_and] at h
   obtain ⟨h0,h1,h2,h3,h4,h5,h6⟩:=h
   have:=jqw (a:=a) (b:=b) h6
   subst this
   cases o;cases o'
   simp_all
theorem jy2 {w:World} {B R:Nat} {S S':Sal} {ap:Option Addr} {lp cp:Nat} {vo va:Value} (h:saleAt w B R S ap lp cp vo va) (h':saleAt w B R S' ap lp cp vo va):S.os=S'.os:=by
 apply jqw
 rcases h.os.2 with ⟨e,n0⟩|⟨g,c,cur,e,_,hh,_,_,_,hx⟩
 ·obtain ⟨a,c,e'⟩:=jc7 h'.os
  rw [e] at e'
  simp at e'
  rw [List.length_eq_zero_iff.1 n0,List.length_eq_zero_iff.1 e'.2.1.symm]
 ·rcases h'.os.2 with ⟨e',n0⟩|⟨g',c',cur',e',_,hh',_,_,_,hx'⟩
  ·rw [e] at e';simp at e'
  ·rw [e] at e'
   simp at e'
   obtain ⟨rfl,hlen,rfl⟩:=e'
   rw [hh] at hh'
   simp at hh'
   subst hh'
   rw [← hx,← hx',hlen]
open Classical in
noncomputable def waitsAt (B R:Nat) (ap:Option Addr) (lp cp:Nat) (vo va:Value) (w:World):Nat:=if h:∃ S:Sal,saleAt w B R S ap lp cp vo va then (ja7 (Classical.choose h).os).length else 0
theorem jne {w:World} {B R:Nat} {S:Sal} {ap:Option Addr} {lp cp:Nat} {vo va:Value} (h:saleAt w B R S ap lp cp vo va):waitsAt B R ap lp cp vo va w=(ja7 S.os).length:=by
 have hx:∃ S:Sal,saleAt w B R S ap lp cp vo va:=⟨S,h⟩
 unfold waitsAt
 rw [dif_pos hx,jy2 (Classical.choose_spec hx) h]
theorem jg7 (B R:Nat) (S:Sal) (ap:Option Addr) (lp cp:Nat) (vo va:Value) (w:World) (h:saleAt w B R S ap lp cp vo va) (hI:salI S) (hl:S.os.length * 48+48<=140737488351232) :
 Calls Tryz.prog 153 #[pt R 0] w fun e w'=>e=.returned (.tuple #[])/\saleAt w' B R S.promote ap lp cp vo va/\salI S.promote/\Same (fun b=>vo.ownBlock=some b) w w':=by
 go_enter Tryz.func153,Tryz.ntmps153
 go_wp2_with fail
 go_loopw [2] (fun _ wr=>∃ S':Sal,Hid (saleAt wr B R S' ap lp cp vo va/\salI S'/\S'.promote=S.promote/\S'.os.length=S.os.length/\Same (fun b=>vo.ownBlock=some b) w wr)) (fun _ wr=>waitsAt B R ap lp cp vo va wr)
 case atStart=>exact ⟨S,h,hI,rfl,rfl,⟨rfl,rfl,rfl,Nat.le_refl _,fun _ _ _=>rfl⟩⟩
 case round =>
  obtain ⟨S',HS⟩:=hrel
  obtain ⟨hs,hI',hp,hlen,hsame⟩:=HS.out
  have hN:=hI'.N (by omega)
  have HQ:Hid (∀ W,Below wr.heap.size wr W->Calls Tryz.prog 123 #[pt R 0] W fun e w'=>∃ out,e=.returned out/\w'.ownsRow W.heap.size 3 1 out (ja7 S'.os).length ((ja7 S'.os).map jrn)/\Below W.heap.size W w'):=jfz hs hN
  have HF:Hid (∀ W,Below wr.heap.size wr W->Calls Tryz.prog 124 #[pt R 0] W fun e w'=>e=.returned (iv S'.free)/\Below W.heap.size W w'):=jkl hs hN
  have HSB:Hid (∀ w2,Below wr.heap.size wr w2->Same (fun b=>vo.ownBlock=some b) w w2):=fun w2 hb=>Same.trans hsame (Same.of_below (own:=fun _=>False) hb) (fun k _ e=>e.elim id False.elim)
  cases hq:ja7 S'.os with
  | nil =>
    have HE:Hid (∀ w2,Below wr.heap.size wr w2->saleAt w2 B R S.promote ap lp cp vo va/\salI S.promote/\Same (fun b=>vo.ownBlock=some b) w w2):=fun w2 hb=>by
     rw [← hp,jic hq]
     exact ⟨ja9 hs hb,hI',HSB.out w2 hb⟩
    rw [hq] at HQ
    clear HS hs hI' hp hsame hN HSB h hI
    go_wp2_with (first
     | (go_at_call 123;refine (HQ.out _ bL).mono ?_;rintro e w1 ⟨out,rfl,ho,b1⟩
        obtain ⟨oa,oc,rfl⟩:=jc7 ho)
     | (go_at_call 124;refine (HF.out _ bL).mono ?_;rintro e w2 ⟨rfl,b2⟩))
    have hb2:Below wr.heap.size wr w2:=b1.trans (b2.mono b1.size)
    go_quiet (fail)
    go_wp2
    first|go_end0|refine bodyPost_ret (results_none rfl _ _ _) rfl ?_
    exact ⟨rfl,HE.out _ bL⟩
  | cons q qs =>
    obtain ⟨_,hql,hqw⟩:=jcl hq (S'.os.getD q ja3 |> fun o=>{ o with state:=13 }) (by simp)
    obtain ⟨g,cap,hvo⟩:=jla hs hql
    have hoc:∃ g',some ((aq g 0):Addr)=some (aq g' 0)/\g'<wr.heap.size/\∀ i,i<S'.os.length->jib wr g' i (S'.os.getD i ja3):=by
     obtain ⟨a,c,hv,hc⟩:=jed hs.os
     rw [hvo] at hv
     simp at hv
     obtain ⟨g',e',rest⟩:=hc (by omega)
     exact ⟨g',by rw [← e',← hv.1],rest⟩
    obtain ⟨g',e',hgw,hoc⟩:=hoc
    simp at e'
    subst e'
    obtain ⟨_,u1,_⟩:=hoc q hql
    have r9:wr.cell? (aq R 9)=some (.slice (some (aq g 0)) S'.os.length cap):=by rw [Joins.cell_of_block hs.blk,← hvo];rfl
    have hRw:R<wr.heap.size:=(blt hs.blk)
    have b0:(0:Int)<=(q:Int):=by omega
    have b1':(q:Int)<(S'.os.length:Int):=by omega
    by_cases hf:S'.free<(S'.os.getD q ja3).units
    ·have HE:Hid (∀ w2,Below wr.heap.size wr w2->saleAt w2 B R S.promote ap lp cp vo va/\salI S.promote/\Same (fun b=>vo.ownBlock=some b) w w2):=fun w2 hb=>by
      rw [← hp,jgz hq hf]
      exact ⟨ja9 hs hb,hI',HSB.out w2 hb⟩
     rw [hq] at HQ
     generalize (S'.os.getD q ja3).units=un at u1 hf
     generalize S'.free=fr at HF hf
     have hf':decide (fr<un)=true:=by simpa using hf
     clear HS hs hI' hp hsame hN HSB h hI hoc hvo
     go_wp2_with (first
      | (go_at_call 123;refine (HQ.out _ bL).mono ?_;rintro e w1 ⟨out,rfl,ho,b1⟩
         obtain ⟨qb,qc,qn,rfl,hqn⟩:∃ qb qc qn,out=.slice (some (aq qb 0)) qn qc/\0<qn:=by
          rcases ho.2 with ⟨_,n0⟩|⟨g,c,cur,hv,_⟩
          ·simp at n0
          ·exact ⟨_,_,_,hv,by simp⟩
         have hqn0:((qn:Int)==0)=false:=by simp;omega
         have hqn1:(0:Int)<(qn:Int):=by omega
         have z0:w1.cell? (aq qb 0)=some (iv q):=by
          have:=ho.cells (g:=qb) rfl 0 (jrn q) (by simp)
          simpa [Addr.add_lit,jrn] using this
         have hqb:qb<w1.heap.size:=World.block_lt_of_cell? w1 _ z0)
      | (go_at_call 124;refine (HF.out _ bL).mono ?_;rintro e w2 ⟨rfl,b2⟩))
     have hb2:Below wr.heap.size wr w2:=b1.trans (b2.mono b1.size)
     have z2:=(b2.cell (p:=(aq qb 0)) hqb).trans z0
     have r92:=(hb2.cell (p:=(aq R 9)) hRw).trans r9
     have u12:=(hb2.cell (p:=(aq g (q * 6+1))) hgw).trans u1
     go_quiet (fail)
     go_wp2
     first|go_end0|refine bodyPost_ret (results_none rfl _ _ _) rfl ?_
     exact ⟨rfl,HE.out _ bL⟩
    ·have hpb:0<=(S'.put q { S'.os.getD q ja3 with state:=13 }).price/\(S'.put q { S'.os.getD q ja3 with state:=13 }).price<=1073741824:=jdl hI'.prices _ _ (Nat.le_refl _)
     have hoo:=hI'.ords _ (jbf hql)
     have hm:salI (S'.holds q):=jj8 hI' hql hqw hf _ rfl rfl rfl ⟨hpb,hoo.2⟩
     have hN1:salN (S'.put q { S'.os.getD q ja3 with state:=13 }):=(jj8 hI' hql hqw hf { S'.os.getD q ja3 with state:=13 } rfl rfl rfl hoo).N (by simp [Sal.put];omega)
     have HH:Hid (∀ W,Below wr.heap.size wr W->Calls Tryz.prog 168 #[pt R 0,iv q] W fun e w'=>e=.returned (.tuple #[])/\saleAt w' B R (S'.holds q) ap lp cp vo va/\Same (fun b=>vo.ownBlock=some b) w w'):=fun W hW=>(jlk hs hql hN1 ⟨hI'.now.1,hI'.now.2,hI'.cfg.2.2.1,hI'.cfg.2.2.2.1⟩ W hW).mono (by rintro e w' ⟨rfl,a,b⟩;exact ⟨rfl,a,Same.trans hsame b (fun k _ e=>e.elim id id)⟩)
     have HR:Hid (∀ w',saleAt w' B R (S'.holds q) ap lp cp vo va->Same (fun b=>vo.ownBlock=some b) w w'->(saleAt w' B R (S'.holds q) ap lp cp vo va/\salI (S'.holds q)/\(S'.holds q).promote=S.promote/\(S'.holds q).os.length=S.os.length/\Same (fun b=>vo.ownBlock=some b) w w')/\waitsAt B R ap lp cp vo va w'<waitsAt B R ap lp cp vo va wr):=fun w' a b=>⟨⟨a,hm,by rw [← jo1 hq hf,hp],by simp [Sal.holds,Sal.put];exact hlen,b⟩,by rw [jne a,jne hs,hq,jew hq];simp⟩
     rw [hq] at HQ
     generalize (S'.os.getD q ja3).units=un at u1 hf
     generalize S'.free=fr at HF hf
     have hf':decide (fr<un)=false:=by simpa using hf
     generalize S'.holds q=S2 at HH HR
     clear HS hs hI' hp hsame hN HSB h hI hoc hvo hm hN1 hpb hoo
     go_wp2_with (first
      | (go_at_call 123;refine (HQ.out _ bL).mono ?_;rintro e w1 ⟨out,rfl,ho,b1⟩
         obtain ⟨qb,qc,qn,rfl,hqn⟩:∃ qb qc qn,out=.slice (some (aq qb 0)) qn qc/\0<qn:=by
          rcases ho.2 with ⟨_,n0⟩|⟨g,c,cur,hv,_⟩
          ·simp at n0
          ·exact ⟨_,_,_,hv,by simp⟩
         have hqn0:((qn:Int)==0)=false:=by simp;omega
         have hqn1:(0:Int)<(qn:Int):=by omega
         have z0:w1.cell? (aq qb 0)=some (iv q):=by
          have:=ho.cells (g:=qb) rfl 0 (jrn q) (by simp)
          simpa [Addr.add_lit,jrn] using this
         have hqb:qb<w1.heap.size:=World.block_lt_of_cell? w1 _ z0)
      | (go_at_call 124;refine (HF.out _ bL).mono ?_;rintro e w2 ⟨rfl,b2⟩))
     have hb2:Below wr.heap.size wr w2:=b1.trans (b2.mono b1.size)
     have z2:=(b2.cell (p:=(aq qb 0)) hqb).trans z0
     have r92:=(hb2.cell (p:=(aq R 9)) hRw).trans r9
     have u12:=(hb2.cell (p:=(aq g (q * 6+1))) hgw).trans u1
     go_quiet (fail)
     go_wp2_with (go_at_call 168;refine (HH.out _ bL).mono ?_;rintro e w3 ⟨rfl,a3,a4⟩)
     exact ⟨⟨S2,(HR.out _ a3 a4).1⟩,(HR.out _ a3 a4).2⟩
end
end Go.Proofs.YtfhncfghblkgeaaGreat
