import Derived.Test.YtfhncfghblkgeabGreatL13
import Derived.Test.YtfhncfghblkgeabGreatL26
set_option maxRecDepth 100000
set_option maxHeartbeats 2000000
namespace Go.Proofs.YtfhncfghblkgeabGreat
open Go.RowKit
section
structure POrd where
 num:Int
 cust:Int
 units:Int
 st:Int
 cents:Int
 upto:Int
def pord0:POrd:=⟨0,0,0,0,0,0⟩
def POrd.vals (o:POrd):List Value:=[iv o.num,iv o.cust,iv o.units,iv o.st,iv o.cents,iv o.upto]
def POrd.val (o:POrd):Value:=.agg #[iv o.num,iv o.cust,iv o.units,iv o.st,iv o.cents,iv o.upto]
def kV (ol:List POrd):List Value:=ol.flatMap POrd.vals
structure PAns where
 k:Int
 t:Int
 c:Int
 u:Int
 o:Int
 rk:Int
 ro:Int
 rc:Int
 ru:Int
def pans0:PAns:=⟨0,0,0,0,0,0,0,0,0⟩
def PAns.vals (a:PAns):List Value:=[iv a.k,iv a.t,iv a.c,iv a.u,iv a.o,iv a.rk,iv a.ro,iv a.rc,iv a.ru]
def PAns.val (a:PAns):Value:=.agg #[iv a.k,iv a.t,iv a.c,iv a.u,iv a.o,iv a.rk,iv a.ro,iv a.rc,iv a.ru]
def xZ (al:List PAns):List Value:=al.flatMap PAns.vals
theorem Jk:∀ {os:List POrd} {i:Nat},i<os.length->∀ j,j<6->(kV os)[i * 6+j]?=(os.getD i pord0).vals[j]?
 | [],_,h,_,_=>by simp at h
 | o :: os,0,_,j,hj=>by
   simp only [kV,List.flatMap_cons,Nat.zero_mul,Nat.zero_add]
   rw [List.getElem?_append_left (by simpa [POrd.vals] using hj)]
   rfl
 | o :: os,i+1,h,j,hj=>by
   have ih:=Jk (os:=os) (i:=i) (by simpa using h) j hj
   simp only [kV,List.flatMap_cons] at ih ⊢
   rw [List.getElem?_append_right (by simp [POrd.vals];omega)]
   have e:(i+1) * 6+j - o.vals.length=i * 6+j:=by simp [POrd.vals];omega
   rw [e,ih]
   simp [List.getD]
theorem iK:∀ {os:List PAns} {i:Nat},i<os.length->∀ j,j<9->(xZ os)[i * 9+j]?=(os.getD i pans0).vals[j]?
 | [],_,h,_,_=>by simp at h
 | o :: os,0,_,j,hj=>by
   simp only [xZ,List.flatMap_cons,Nat.zero_mul,Nat.zero_add]
   rw [List.getElem?_append_left (by simpa [PAns.vals] using hj)]
   rfl
 | o :: os,i+1,h,j,hj=>by
   have ih:=iK (os:=os) (i:=i) (by simpa using h) j hj
   simp only [xZ,List.flatMap_cons] at ih ⊢
   rw [List.getElem?_append_right (by simp [PAns.vals];omega)]
   have e:(i+1) * 9+j - o.vals.length=i * 9+j:=by simp [PAns.vals];omega
   rw [e,ih]
   simp [List.getD]
structure PV where
 C:Cfg
 now:Int
 last:Int
 tn:Int
 tl:List (Int × Int)
 ot:List Ent
 ol:List POrd
 orm:Int
 qt:List Ent
 qz:List Ent
 held:Int
 sold:Int
 lu:List Ent
 an:Int
 atl:List (Int × Int)
 att:List Ent
 al:List PAns
 arm:Int
 pa:Option Addr
 pl:Nat
 pc:Nat
 tw:Nat
 aw:Nat
structure PG where
 two:Nat->Prop
 ot:Tr
 oo:Option Addr
 oc:Nat
 qt:Tr
 qz:Tr
 lu:Tr
 awo:Nat->Prop
 att:Tr
 ao:Option Addr
 ac:Nat
def yS (V:PV) (g:PG):Array Value:=#[iv V.C.stock,iv V.C.cap,iv V.C.queue,iv V.C.lease,iv V.C.wait,iv V.C.keep,iv V.C.tokens,.slice V.pa V.pl V.pc,
 iv V.now,iv V.last,pt V.tw 0,.pointer g.ot.addr,iv V.ot.length,.slice g.oo V.ol.length g.oc,iv V.orm,
 .pointer g.qt.addr,iv V.qt.length,.pointer g.qz.addr,iv V.qz.length,iv V.held,iv V.sold,.pointer g.lu.addr,iv V.lu.length,
 pt V.aw 0,.pointer g.att.addr,iv V.att.length,.slice g.ao V.al.length g.ac,iv V.arm]
def PV.pb (V:PV) (k:Nat):Prop:=∃ off,V.pa=some (aq k off)
def PG.cs (g:PG) (V:PV) (x k:Nat):Prop:=k=x\/g.ot.has k\/g.qt.has k\/g.qz.has k\/g.lu.has k\/g.att.has k\/Value.ownBlock (.slice g.oo V.ol.length g.oc)=some k\/Value.ownBlock (.slice g.ao V.al.length g.ac)=some k\/V.pb k
def Oy (w:World) (a:Option Addr) (len:Nat) (ts:List (Int × Int)):Prop :=
 (ts.length=len/\len<=4294967296)/\(ts≠[]->∃ b off,a=some (aq b off)/\b<w.heap.size/\∀ i,i<len->w.cell? (aq b (off+i * 2))=some (iv (ts.getD i (0,0)).1)/\w.cell? (aq b (off+i * 2+1))=some (iv (ts.getD i (0,0)).2))
structure PMem (w:World) (x:Nat) (own:Nat->Prop) (V:PV) (g:PG):Prop where
 blk:w.heap[x]?=some (.cells (yS V g) 105 (0,0))
 tiers:Oy w V.pa V.pl V.C.prices
 tw:QJ w V.tw g.two V.tn V.tl
 aw:QJ w V.aw g.awo V.an V.atl
 ot:g.ot.at w/\g.ot.toL=V.ot
 qt:g.qt.at w/\g.qt.toL=V.qt
 qz:g.qz.at w/\g.qz.toL=V.qz
 lu:g.lu.at w/\g.lu.toL=V.lu
 att:g.att.at w/\g.att.toL=V.att
 orow:w.ownsRow 0 142 6 (.slice g.oo V.ol.length g.oc) V.ol.length (kV V.ol)
 arow:w.ownsRow 0 146 9 (.slice g.ao V.al.length g.ac) V.al.length (xZ V.al)
 pb:∀ k,V.pb k->k≠x/\Value.ownBlock (.slice g.oo V.ol.length g.oc)≠some k/\Value.ownBlock (.slice g.ao V.al.length g.ac)≠some k
 ap1:∀ k,g.two k->¬ g.awo k/\¬ g.cs V x k
 ap2:∀ k,g.awo k->¬ g.cs V x k
 fp:∀ k,g.two k\/g.awo k\/g.cs V x k->own k
 lt:∀ k,own k->k<w.heap.size
def QE (w:World) (x:Nat) (own:Nat->Prop) (V:PV):Prop:=∃ g,PMem w x own V g
def yN (w w':World) (x:Nat) (own:Nat->Prop) (V':PV):Prop :=
 ∃ own',QE w' x own' V'/\Same own w w'/\∀ k,own' k->own k\/w.heap.size<=k
theorem fF {w:World} {x:Nat} {own:Nat->Prop} {V:PV} (h:QE w x own V):∀ k,own k->k<w.heap.size:=by
 obtain ⟨g,h⟩:=h
 exact h.lt
theorem mC {w w':World} {a:Option Addr} {l:Nat} {ps:List (Int × Int)} (h:Oy w a l ps) (hz:w.heap.size<=w'.heap.size) (hk:∀ b off,a=some (aq b off)->w'.heap[b]?=w.heap[b]?):Oy w' a l ps:=by
 obtain ⟨h1,h5⟩:=h
 refine ⟨h1,fun hn=>?_⟩
 obtain ⟨b,off,ha,hbw,hc⟩:=h5 hn
 have e:=hk b off ha
 exact ⟨b,off,ha,uO,fun i hi=>⟨(uV (a:=(aq b (off+i * 2))) e).trans (hc i hi).1,(uV (a:=(aq b (off+i * 2+1))) e).trans (hc i hi).2⟩⟩
section
variable {w w':World} {x:Nat} {own:Nat->Prop} {V:PV} {g:PG}
theorem PMem.keep (h:PMem w x own V g) (hz:w.heap.size<=w'.heap.size) (hk:∀ k,own k->w'.heap[k]?=w.heap[k]?):PMem w' x own V g where
 blk:=(hk x (h.fp x (.inr (.inr (.inl rfl))))).trans h.blk
 tiers:=mC h.tiers hz (fun b off e=>hk b (h.fp b (.inr (.inr (.inr (.inr (.inr (.inr (.inr (.inr (.inr (.inr ⟨off,e⟩))))))))))))
 tw:=zR h.tw hz (fun k e=>hk k (h.fp k (.inl e)))
 aw:=zR h.aw hz (fun k e=>hk k (h.fp k (.inr (.inl e))))
 ot:=⟨g.ot.at_keep h.ot.1 (fun k e=>hk k (h.fp k (.inr (.inr (.inr (.inl e)))))),h.ot.2⟩
 qt:=⟨g.qt.at_keep h.qt.1 (fun k e=>hk k (h.fp k (.inr (.inr (.inr (.inr (.inl e))))))),h.qt.2⟩
 qz:=⟨g.qz.at_keep h.qz.1 (fun k e=>hk k (h.fp k (.inr (.inr (.inr (.inr (.inr (.inl e)))))))),h.qz.2⟩
 lu:=⟨g.lu.at_keep h.lu.1 (fun k e=>hk k (h.fp k (.inr (.inr (.inr (.inr (.inr (.inr (.inl e))))))))),h.lu.2⟩
 att:=⟨g.att.at_keep h.att.1 (fun k e=>hk k (h.fp k (.inr (.inr (.inr (.inr (.inr (.inr (.inr (.inl e)))))))))),h.att.2⟩
 orow:=qG h.orow (fun k e=>hk k (h.fp k (.inr (.inr (.inr (.inr (.inr (.inr (.inr (.inr (.inl e)))))))))))
 arow:=qG h.arow (fun k e=>hk k (h.fp k (.inr (.inr (.inr (.inr (.inr (.inr (.inr (.inr (.inr (.inl e))))))))))))
 pb:=h.pb
 ap1:=h.ap1
 ap2:=h.ap2
 fp:=h.fp
 lt:=fun k e=>uB (h.lt k e) hz
theorem dX (h:QE w x own V) (hz:w.heap.size<=w'.heap.size) (hk:∀ k,own k->w'.heap[k]?=w.heap[k]?):QE w' x own V:=by
 obtain ⟨g,h⟩:=h
 exact ⟨g,h.keep hz hk⟩
theorem lS (h:QE w x own V) (hb:Below w.heap.size w w'):QE w' x own V:=dX h hb.size (fun k e=>hb.block k (fF h k e))
theorem bZ (h:QE w x own V) (hb:Below w.heap.size w w'):yN w w' x own V:=⟨own,lS h hb,Same.of_below hb,fun _ e=>.inl e⟩
theorem PMem.xw (h:PMem w x own V g):x<w.heap.size:=(blt h.blk)
theorem PMem.ownx (h:PMem w x own V g):own x:=h.fp x (.inr (.inr (.inl rfl)))
theorem PMem.cell (h:PMem w x own V g) (i:Nat) (v:Value) (e:(yS V g)[i]?=some v):w.cell? (aq x i)=some v:=by
 rw [uI h.blk];exact e
theorem Sy {t:Tr} {b:Nat} {C:Array Value} {T:TypeId} (ht:t.at w) (hb:w.heap[b]?=some (.cells C T)) (hT:T≠178) {k:Nat} (hk:t.has k):k≠b:=by
 obtain ⟨C',hC⟩:=t.at_type ht hk
 rintro rfl
 rw [hb] at hC
 simp only [Option.some.injEq,Obj.cells.injEq] at hC
 exact hT hC.2.1
theorem lX {T:TypeId} {sz n:Nat} {v:Value} {xs:List Value} {b:Nat} (h:w.ownsRow 0 T sz v n xs) (e:v.ownBlock=some b):∃ C,w.heap[b]?=some (.cells C T):=by
 rcases h.2 with ⟨rfl,_⟩|⟨g',cap,cur,rfl,_,hh,_⟩
 ·simp [Value.ownBlock] at e
 ·have e':g'=b:=by simpa [Value.ownBlock] using e
  exact ⟨cur,e'▸hh⟩
def PG.xs (g:PG) (V:PV) (x:Nat) (b:Nat):Prop:=b=x\/Value.ownBlock (.slice g.oo V.ol.length g.oc)=some b\/Value.ownBlock (.slice g.ao V.al.length g.ac)=some b
theorem PMem.xs_type (h:PMem w x own V g) {b:Nat} (hb:g.xs V x b):∃ C T,w.heap[b]?=some (.cells C T)/\T≠178:=by
 rcases hb with rfl|hb|hb
 ·exact ⟨_,_,h.blk,by decide⟩
 ·obtain ⟨C,hC⟩:=lX h.orow hb
  exact ⟨C,_,hC,by decide⟩
 ·obtain ⟨C,hC⟩:=lX h.arow hb
  exact ⟨C,_,hC,by decide⟩
theorem PMem.stay (h:PMem w x own V g) (hs:Same (g.xs V x) w w') {t:Tr} (ht:t.at w):t.at w' :=
 t.at_keep ht (fun n hn=>hs.block n (t.at_lt ht hn) (fun e=>by
  obtain ⟨C,T,hC,hT⟩:=h.xs_type e
  exact Sy ht hC hT hn rfl))
theorem PMem.own_xs (h:PMem w x own V g) {b:Nat} (hb:g.xs V x b):own b:=by
 rcases hb with rfl|hb|hb
 ·exact h.ownx
 ·exact h.fp b (.inr (.inr (.inr (.inr (.inr (.inr (.inr (.inr (.inl hb)))))))))
 ·exact h.fp b (.inr (.inr (.inr (.inr (.inr (.inr (.inr (.inr (.inr (.inl hb))))))))))
theorem PMem.xs_cs {b:Nat} (hb:g.xs V x b):g.cs V x b:=by
 rcases hb with rfl|hb|hb
 ·exact .inl rfl
 ·exact .inr (.inr (.inr (.inr (.inr (.inr (.inl hb))))))
 ·exact .inr (.inr (.inr (.inr (.inr (.inr (.inr (.inl hb)))))))
theorem PMem.turn (h:PMem w x own V g) (hs:Same (g.xs V x) w w') {V':PV} {g':PG}
 (blk:w'.heap[x]?=some (.cells (yS V' g') 105 (0,0)))
 (hC:V'.C=V.C) (hp:V'.pa=V.pa/\V'.pl=V.pl/\V'.pc=V.pc)
 (hw:V'.tw=V.tw/\g'.two=g.two/\V'.aw=V.aw/\g'.awo=g.awo) (hv:V'.tn=V.tn/\V'.tl=V.tl/\V'.an=V.an/\V'.atl=V.atl)
 (ot:g'.ot.at w'/\g'.ot.toL=V'.ot/\∀ k,g'.ot.has k->g.ot.has k\/w.heap.size<=k)
 (qt:g'.qt.at w'/\g'.qt.toL=V'.qt/\∀ k,g'.qt.has k->g.qt.has k\/w.heap.size<=k)
 (qz:g'.qz.at w'/\g'.qz.toL=V'.qz/\∀ k,g'.qz.has k->g.qz.has k\/w.heap.size<=k)
 (lu:g'.lu.at w'/\g'.lu.toL=V'.lu/\∀ k,g'.lu.has k->g.lu.has k\/w.heap.size<=k)
 (att:g'.att.at w'/\g'.att.toL=V'.att/\∀ k,g'.att.has k->g.att.has k\/w.heap.size<=k)
 (orow:w'.ownsRow 0 142 6 (.slice g'.oo V'.ol.length g'.oc) V'.ol.length (kV V'.ol)/\∀ k,Value.ownBlock (.slice g'.oo V'.ol.length g'.oc)=some k->Value.ownBlock (.slice g.oo V.ol.length g.oc)=some k\/w.heap.size<=k)
 (arow:w'.ownsRow 0 146 9 (.slice g'.ao V'.al.length g'.ac) V'.al.length (xZ V'.al)/\∀ k,Value.ownBlock (.slice g'.ao V'.al.length g'.ac)=some k->Value.ownBlock (.slice g.ao V.al.length g.ac)=some k\/w.heap.size<=k) :
 yN w w' x own V':=by
 obtain ⟨p1,p2,_⟩:=hp
 obtain ⟨w1,w2,w3,w4⟩:=hw
 obtain ⟨v1,v2,v3,v4⟩:=hv
 have hcs:∀ k,g'.cs V' x k->g.cs V x k\/w.heap.size<=k:=by
  rintro k (e|e|e|e|e|e|e|e|e)
  ·exact .inl (.inl e)
  ·exact (ot.2.2 k e).imp (fun e=>.inr (.inl e)) id
  ·exact (qt.2.2 k e).imp (fun e=>.inr (.inr (.inl e))) id
  ·exact (qz.2.2 k e).imp (fun e=>.inr (.inr (.inr (.inl e)))) id
  ·exact (lu.2.2 k e).imp (fun e=>.inr (.inr (.inr (.inr (.inl e))))) id
  ·exact (att.2.2 k e).imp (fun e=>.inr (.inr (.inr (.inr (.inr (.inl e)))))) id
  ·exact (orow.2 k e).imp (fun e=>.inr (.inr (.inr (.inr (.inr (.inr (.inl e))))))) id
  ·exact (arow.2 k e).imp (fun e=>.inr (.inr (.inr (.inr (.inr (.inr (.inr (.inl e)))))))) id
  ·refine .inl (.inr (.inr (.inr (.inr (.inr (.inr (.inr (.inr ?_))))))))
   obtain ⟨off,e⟩:=e
   exact ⟨off,p1▸e⟩
 have hown:∀ k,g.cs V x k->own k:=fun k e=>h.fp k (.inr (.inr e))
 have hpb:∀ k,V'.pb k->V.pb k:=fun k ⟨off,e⟩=>⟨off,p1▸e⟩
 have h2lt:∀ k,g.two k->k<w.heap.size:=fun k e=>h.lt k (h.fp k (.inl e))
 have h3lt:∀ k,g.awo k->k<w.heap.size:=fun k e=>h.lt k (h.fp k (.inr (.inl e)))
 have hz:=hs.size
 have pbk:∀ k,V.pb k->w'.heap[k]?=w.heap[k]?:=fun k e=>hs.block k (h.lt k (hown k (.inr (.inr (.inr (.inr (.inr (.inr (.inr (.inr e)))))))))) (fun e2=>by
  obtain ⟨q1,q2,q3⟩:=h.pb k e
  rcases e2 with e2|e2|e2
  ·exact q1 e2
  ·exact q2 e2
  ·exact q3 e2)
 refine ⟨fun k=>own k\/g'.cs V' x k,⟨g',?_⟩,⟨hs.os,hs.tape,hs.output,hs.size,fun k hk hn=>hs.block k hk (fun e=>hn (h.own_xs e))⟩,fun k e=>e.elim .inl (fun e=>(hcs k e).imp (hown k) id)⟩
 refine ⟨blk,?_,?_,?_,⟨ot.1,ot.2.1⟩,⟨qt.1,qt.2.1⟩,⟨qz.1,qz.2.1⟩,⟨lu.1,lu.2.1⟩,⟨att.1,att.2.1⟩,orow.1,arow.1,?_,?_,?_,?_,?_⟩
 ·rw [p1,p2,hC]
  exact mC h.tiers hz (fun b off e=>pbk b ⟨off,e⟩)
 ·rw [w1,w2,v1,v2]
  exact zR h.tw hz (fun k e=>hs.block k (h2lt k e) (fun e2=>(h.ap1 k e).2 (PMem.xs_cs e2)))
 ·rw [w3,w4,v3,v4]
  exact zR h.aw hz (fun k e=>hs.block k (h3lt k e) (fun e2=>h.ap2 k e (PMem.xs_cs e2)))
 ·intro k e
  have e:=hpb k e
  obtain ⟨q1,q2,q3⟩:=h.pb k e
  have hk:k<w.heap.size:=h.lt k (hown k (.inr (.inr (.inr (.inr (.inr (.inr (.inr (.inr e)))))))))
  exact ⟨q1,fun c=>(orow.2 k c).elim q2 (fun c=>uO),fun c=>(arow.2 k c).elim q3 (fun c=>uO)⟩
 ·rw [w2,w4]
  intro k e
  have:=h2lt k e
  exact ⟨(h.ap1 k e).1,fun c=>(hcs k c).elim (h.ap1 k e).2 (fun c=>uO)⟩
 ·rw [w4]
  intro k e
  have:=h3lt k e
  exact fun c=>(hcs k c).elim (h.ap2 k e) (fun c=>uO)
 ·rw [w2,w4]
  rintro k (e|e|e)
  ·exact .inl (h.fp k (.inl e))
  ·exact .inl (h.fp k (.inr (.inl e)))
  ·exact .inr e
 ·rintro k (e|e)
  ·exact uB (h.lt k e) hz
  ·rcases e with e|e|e|e|e|e|e|e|e
   ·rw [e];exact (blt blk)
   ·exact g'.ot.at_lt ot.1 e
   ·exact g'.qt.at_lt qt.1 e
   ·exact g'.qz.at_lt qz.1 e
   ·exact g'.lu.at_lt lu.1 e
   ·exact g'.att.at_lt att.1 e
   ·exact (uJ orow.1 k e).2
   ·exact (uJ arow.1 k e).2
   ·exact uB (h.lt k (hown k (.inr (.inr (.inr (.inr (.inr (.inr (.inr (.inr (hpb k e)))))))))) ) hz
theorem PMem.turnT0 (h:PMem w x own V g) {now:Int} {L:List (Int × Int)} {two':Nat->Prop} (a1:QJ w' V.tw two' now L) (a2:Same g.two w w') (a3:∀ k,two' k->g.two k\/w.heap.size<=k):PMem w' x (fun k=>own k\/two' k) { V with tn:=now,tl:=L } { g with two:=two' }:=by
 have hz:=a2.size
 have hc:∀ k,g.cs V x k->w'.heap[k]?=w.heap[k]?:=fun k e=>a2.block k (h.lt k (h.fp k (.inr (.inr e)))) (fun e2=>(h.ap1 k e2).2 e)
 have hb:∀ k,g.awo k->w'.heap[k]?=w.heap[k]?:=fun k e=>a2.block k (h.lt k (h.fp k (.inr (.inl e)))) (fun e2=>(h.ap1 k e2).1 e)
 refine ⟨(hc x (.inl rfl)).trans h.blk,mC h.tiers hz (fun b off e=>hc b (.inr (.inr (.inr (.inr (.inr (.inr (.inr (.inr ⟨off,e⟩))))))))),a1,zR h.aw hz hb,?_,?_,?_,?_,?_,?_,?_,h.pb,?_,h.ap2,?_,?_⟩
 ·exact ⟨g.ot.at_keep h.ot.1 (fun k e=>hc k (.inr (.inl e))),h.ot.2⟩
 ·exact ⟨g.qt.at_keep h.qt.1 (fun k e=>hc k (.inr (.inr (.inl e)))),h.qt.2⟩
 ·exact ⟨g.qz.at_keep h.qz.1 (fun k e=>hc k (.inr (.inr (.inr (.inl e))))),h.qz.2⟩
 ·exact ⟨g.lu.at_keep h.lu.1 (fun k e=>hc k (.inr (.inr (.inr (.inr (.inl e)))))),h.lu.2⟩
 ·exact ⟨g.att.at_keep h.att.1 (fun k e=>hc k (.inr (.inr (.inr (.inr (.inr (.inl e))))))),h.att.2⟩
 ·exact qG h.orow (fun k e=>hc k (.inr (.inr (.inr (.inr (.inr (.inr (.inl e))))))))
 ·exact qG h.arow (fun k e=>hc k (.inr (.inr (.inr (.inr (.inr (.inr (.inr (.inl e)))))))))
 ·intro k e
  rcases a3 k e with e|e
  ·exact h.ap1 k e
  ·exact ⟨fun c=>by have:=h.lt k (h.fp k (.inr (.inl c)));omega,fun c=>by have:=h.lt k (h.fp k (.inr (.inr c)));omega⟩
 ·rintro k (e|e|e)
  ·exact .inr e
  ·exact .inl (h.fp k (.inr (.inl e)))
  ·exact .inl (h.fp k (.inr (.inr e)))
 ·rintro k (e|e)
  ·exact uB (h.lt k e) hz
  ·exact dI a1 k e
theorem PMem.turnT (h:PMem w x own V g) {now:Int} {L:List (Int × Int)} (ha:oK QJ w w' V.tw g.two now L):yN w w' x own { V with tn:=now,tl:=L }:=by
 obtain ⟨two',a1,a2,a3⟩:=ha
 exact ⟨fun k=>own k\/two' k,⟨_,h.turnT0 a1 a2 a3⟩,⟨a2.os,a2.tape,a2.output,a2.size,fun k hk hn=>a2.block k hk (fun e=>hn (h.fp k (.inl e)))⟩,fun k e=>e.elim .inl (fun e=>(a3 k e).imp (fun e=>h.fp k (.inl e)) id)⟩
theorem PMem.turnA0 (h:PMem w x own V g) {now:Int} {L:List (Int × Int)} {two':Nat->Prop} (a1:QJ w' V.aw two' now L) (a2:Same g.awo w w') (a3:∀ k,two' k->g.awo k\/w.heap.size<=k):PMem w' x (fun k=>own k\/two' k) { V with an:=now,atl:=L } { g with awo:=two' }:=by
 have hz:=a2.size
 have hc:∀ k,g.cs V x k->w'.heap[k]?=w.heap[k]?:=fun k e=>a2.block k (h.lt k (h.fp k (.inr (.inr e)))) (fun e2=>h.ap2 k e2 e)
 have hb:∀ k,g.two k->w'.heap[k]?=w.heap[k]?:=fun k e=>a2.block k (h.lt k (h.fp k (.inl e))) (fun e2=>(h.ap1 k e).1 e2)
 refine ⟨(hc x (.inl rfl)).trans h.blk,mC h.tiers hz (fun b off e=>hc b (.inr (.inr (.inr (.inr (.inr (.inr (.inr (.inr ⟨off,e⟩))))))))),zR h.tw hz hb,a1,?_,?_,?_,?_,?_,?_,?_,h.pb,?_,?_,?_,?_⟩
 ·exact ⟨g.ot.at_keep h.ot.1 (fun k e=>hc k (.inr (.inl e))),h.ot.2⟩
 ·exact ⟨g.qt.at_keep h.qt.1 (fun k e=>hc k (.inr (.inr (.inl e)))),h.qt.2⟩
 ·exact ⟨g.qz.at_keep h.qz.1 (fun k e=>hc k (.inr (.inr (.inr (.inl e))))),h.qz.2⟩
 ·exact ⟨g.lu.at_keep h.lu.1 (fun k e=>hc k (.inr (.inr (.inr (.inr (.inl e)))))),h.lu.2⟩
 ·exact ⟨g.att.at_keep h.att.1 (fun k e=>hc k (.inr (.inr (.inr (.inr (.inr (.inl e))))))),h.att.2⟩
 ·exact qG h.orow (fun k e=>hc k (.inr (.inr (.inr (.inr (.inr (.inr (.inl e))))))))
 ·exact qG h.arow (fun k e=>hc k (.inr (.inr (.inr (.inr (.inr (.inr (.inr (.inl e)))))))))
 ·intro k e
  refine ⟨fun c=>?_,(h.ap1 k e).2⟩
  rcases a3 k c with c|c
  ·exact (h.ap1 k e).1 c
  ·have:=h.lt k (h.fp k (.inl e));omega
 ·intro k e c
  rcases a3 k e with e|e
  ·exact h.ap2 k e c
  ·have:=h.lt k (h.fp k (.inr (.inr c)));omega
 ·rintro k (e|e|e)
  ·exact .inl (h.fp k (.inl e))
  ·exact .inr e
  ·exact .inl (h.fp k (.inr (.inr e)))
 ·rintro k (e|e)
  ·exact uB (h.lt k e) hz
  ·exact dI a1 k e
theorem PMem.turnA (h:PMem w x own V g) {now:Int} {L:List (Int × Int)} (ha:oK QJ w w' V.aw g.awo now L):yN w w' x own { V with an:=now,atl:=L }:=by
 obtain ⟨two',a1,a2,a3⟩:=ha
 exact ⟨fun k=>own k\/two' k,⟨_,h.turnA0 a1 a2 a3⟩,⟨a2.os,a2.tape,a2.output,a2.size,fun k hk hn=>a2.block k hk (fun e=>hn (h.fp k (.inr (.inl e))))⟩,fun k e=>e.elim .inl (fun e=>(a3 k e).imp (fun e=>h.fp k (.inr (.inl e))) id)⟩
def aS (w:World) (own:Nat->Prop) (m:Nat) (W:World) (x:Nat) (V:PV):Prop :=
 ∃ own',QE W x own' V/\Same own w W/\(∀ k,own' k->own k\/w.heap.size+m<=k)/\w.heap.size+m<=W.heap.size
theorem Ol {m:Nat} {W W':World} {V':PV} {o1:Nat->Prop} (a2:Same own w W) (a3:∀ k,o1 k->own k\/w.heap.size+m<=k) (a4:w.heap.size+m<=W.heap.size) (hw:∀ k,own k->k<w.heap.size) (ha:yN W W' x o1 V'):aS w own m W' x V'/\∀ b,w.heap.size<=b->b<w.heap.size+m->W'.heap[b]?=W.heap[b]?:=by
 obtain ⟨o2,b1,b2,b3⟩:=ha
 have z1:=a2.size
 have z2:=b2.size
 refine ⟨⟨o2,b1,Same.trans a2 b2 (fun k hk e=>e.elim id (fun e=>(a3 k e).elim id (fun e=>uO))),fun k e=>(b3 k e).elim (a3 k) (fun e=>.inr uO),uO⟩,fun b h1 h2=>b2.block b uO (fun e=>?_)⟩
 rcases a3 b e with e|e
 ·have:=hw b e;omega
 ·omega
theorem Kb {m:Nat} {f:FuncId} {args:Array Value} {v:Ending} {V':PV} (hw:∀ k,own k->k<w.heap.size) (h:∀ W own',QE W x own' V->Ca f args W fun e w'=>e=v/\yN W w' x own' V') (W:World) (hT:aS w own m W x V) :
 Ca f args W fun e w'=>e=v/\aS w own m w' x V'/\∀ b,w.heap.size<=b->b<w.heap.size+m->w'.heap[b]?=W.heap[b]?:=by
 obtain ⟨o1,a1,a2,a3,a4⟩:=hT
 refine (h W o1 a1).mono ?_
 rintro e w' ⟨rfl,ha⟩
 exact ⟨rfl,Ol a2 a3 a4 hw ha⟩
theorem Bh {m:Nat} {f:FuncId} {args:Array Value} {v:Ending} (hw:∀ k,own k->k<w.heap.size) (h:∀ W own',QE W x own' V->Ca f args W fun e w'=>e=v/\Below W.heap.size W w') (W:World) (hT:aS w own m W x V) :
 Ca f args W fun e w'=>e=v/\aS w own m w' x V/\∀ b,w.heap.size<=b->b<w.heap.size+m->w'.heap[b]?=W.heap[b]?:=by
 refine Kb hw (fun W own' hp=>(h W own' hp).mono ?_) W hT
 rintro e w' ⟨rfl,hb⟩
 exact ⟨rfl,bZ hp hb⟩
theorem yB {m:Nat} {W W':World} (h:aS w own m W x V) (hb:Below W.heap.size W W'):aS w own m W' x V:=by
 obtain ⟨o1,a1,a2,a3,a4⟩:=h
 have z:=hb.size
 exact ⟨o1,lS a1 hb,Same.trans a2 (Same.of_below (own:=own) hb) (fun k _ e=>e.elim id id),a3,uO⟩
theorem mO {m:Nat} {W:World} (h:QE w x own V) (hb:Below w.heap.size w W) (hm:w.heap.size+m<=W.heap.size):aS w own m W x V :=
 ⟨own,lS h hb,Same.of_below hb,fun _ e=>.inl e,hm⟩
theorem kA {m:Nat} {W:World} (h:aS w own m W x V) (hw:∀ k,own k->k<w.heap.size) {b i:Nat} (h1:w.heap.size<=b) (h2:b<w.heap.size+m) (v:Value):aS w own m (W.sc b i v) x V:=by
 obtain ⟨o1,a1,a2,a3,a4⟩:=h
 have hk:∀ k,k≠b->(W.sc b i v).heap[k]?=W.heap[k]?:=fun k e=>uG _ (aq b i) _ _ e
 have hz:(W.sc b i v).heap.size=W.heap.size:=by simp [World.setCell]
 refine ⟨o1,dX a1 uO (fun k e=>hk k (fun c=>?_)),⟨a2.os,a2.tape,a2.output,by have:=a2.size;omega,fun k hk' hn=>(hk k uO).trans (a2.block k hk' hn)⟩,a3,uO⟩
 subst c
 rcases a3 k e with e|e
 ·have:=hw k e;omega
 ·omega
theorem cX {m:Nat} {W:World} (h:aS w own m W x V):yN w W x own V:=by
 obtain ⟨o1,a1,a2,a3,a4⟩:=h
 exact ⟨o1,a1,a2,fun k e=>(a3 k e).imp id (fun e=>uO)⟩
end
end
section
theorem yK {α:Type} [DecidableEq α]:∀ (L M:List α),L.Nodup->(∀ x∈L,x∈M)->L.length<=M.length
 | [],_,_,_=>by simp
 | x :: L,M,hn,hs=>by
   obtain ⟨h1,h2⟩:=List.nodup_cons.1 hn
   have hx:=hs x List.mem_cons_self
   have ih:=yK L (M.erase x) h2 (fun y hy=>(List.mem_erase_of_ne (fun e=>h1 (by rw [← e];exact hy))).2 (hs y (List.mem_cons_of_mem _ hy)))
   rw [List.length_erase_of_mem hx] at ih
   have:0<M.length:=List.length_pos_of_mem hx
   simp;omega
section
variable {α:Type} {key:α->Int} {T:List Ent} {l:List α}
structure Listed (key:α->Int) (T:List Ent) (l:List α):Prop where
 srt:srt T
 once:(l.map key).Nodup
 mem:∀ e,e∈T↔∃ (j:Nat) (a:α),l[j]?=some a/\e=((key a,0),(j:Int))
theorem pX:Listed key [] ([]:List α):=⟨List.Pairwise.nil,by simp,fun e=>by simp⟩
theorem mW (h:(l.map key).Nodup) {i j:Nat} {a b:α} (hi:l[i]?=some a) (hj:l[j]?=some b) (e:key a=key b):i=j:=by
 have h1:(l.map key)[i]?=some (key a):=by rw [List.getElem?_map,hi];rfl
 have h2:(l.map key)[j]?=some (key a):=by rw [List.getElem?_map,hj,e];rfl
 have hl:i<(l.map key).length:=by
  have:=(List.getElem?_eq_some_iff.1 h1).1;exact this
 exact (List.getElem?_inj hl h).1 (h1.trans h2.symm)
theorem vT (h:Listed key T l) {j:Nat} {a:α} (hj:l[j]?=some a):yO (key a,0) T=some (j:Int):=(hM h.srt).2 ((h.mem _).2 ⟨j,a,hj,rfl⟩)
theorem nP (h:Listed key T l) {k:Int} (hk:∀ a∈l,key a≠k):yO (k,0) T=none:=by
 rw [vV]
 intro e he hc
 obtain ⟨j,a,hj,rfl⟩:=(h.mem e).1 he
 exact hk a (List.mem_of_getElem? hj) (by simpa using hc)
theorem Fh (h:Listed key T l) (k:Int):(∃ (j:Nat) (a:α),l[j]?=some a/\key a=k/\yO (k,0) T=some (j:Int))\/((∀ a∈l,key a≠k)/\yO (k,0) T=none):=by
 by_cases hk:∃ a∈l,key a=k
 ·obtain ⟨a,ha,rfl⟩:=hk
  obtain ⟨j,hj⟩:=List.mem_iff_getElem?.1 ha
  exact .inl ⟨j,a,hj,rfl,vT h hj⟩
 ·have hk':∀ a∈l,key a≠k:=fun a ha e=>hk ⟨a,ha,e⟩
  exact .inr ⟨hk',nP h hk'⟩
theorem fJ (h:Listed key T l):T.length=l.length:=by
 have h1:(T.map (·.2)).Nodup:=by
  unfold List.Nodup
  rw [List.pairwise_map]
  refine h.srt.imp_of_mem (fun {a b} ha hb hab=>?_)
  obtain ⟨i,u,hi,rfl⟩:=(h.mem a).1 ha
  obtain ⟨j,v,hj,rfl⟩:=(h.mem b).1 hb
  intro e
  have e':i=j:=by have e2:(i:Int)=(j:Int):=e;omega
  subst e'
  rw [hi] at hj
  simp only [Option.some.injEq] at hj
  subst hj
  exact absurd rfl (zJ hab)
 have h2:((List.range l.length).map (fun j:Nat=>(j:Int))).Nodup:=by
  unfold List.Nodup
  rw [List.pairwise_map]
  exact List.nodup_range.imp (fun {a b} h e=>h (by have e2:(a:Int)=(b:Int):=e;omega))
 have l1:=yK _ ((List.range l.length).map (fun j:Nat=>(j:Int))) h1 (fun y hy=>by
  obtain ⟨e,he,rfl⟩:=List.mem_map.1 hy
  obtain ⟨j,a,hj,rfl⟩:=(h.mem e).1 he
  exact List.mem_map.2 ⟨j,List.mem_range.2 (List.getElem?_eq_some_iff.1 hj).1,rfl⟩)
 have l2:=yK _ (T.map (·.2)) h2 (fun y hy=>by
  obtain ⟨j,hj,rfl⟩:=List.mem_map.1 hy
  have hj:=List.mem_range.1 hj
  exact List.mem_map.2 ⟨((key l[j],0),(j:Int)),(h.mem _).2 ⟨j,l[j],uD hj,rfl⟩,rfl⟩)
 simp at l1 l2
 omega
theorem Lj (h:Listed key T l) {j:Nat} {a b:α} (hj:l[j]?=some a) (hk:key b=key a):Listed key T (l.set j b):=by
 have hl:=(List.getElem?_eq_some_iff.1 hj).1
 have em:(l.set j b).map key=l.map key:=by
  rw [List.map_set]
  apply List.ext_getElem?
  intro i
  rw [List.getElem?_set]
  split
  ·next e =>
   subst e
   rw [uQ (by simpa using hl),List.getElem?_map,hj,hk]
   rfl
  ·rfl
 refine ⟨h.srt,by rw [em];exact h.once,fun e=>(h.mem e).trans ?_⟩
 constructor
 ·rintro ⟨i,u,hi,rfl⟩
  by_cases e:j=i
  ·subst e
   rw [hj] at hi
   simp only [Option.some.injEq] at hi
   subst hi
   exact ⟨j,b,by rw [List.getElem?_set,uQ rfl,uQ hl],by rw [hk]⟩
  ·exact ⟨i,u,by rw [List.getElem?_set,uP e];exact hi,rfl⟩
 ·rintro ⟨i,u,hi,rfl⟩
  rw [List.getElem?_set] at hi
  by_cases e:j=i
  ·subst e
   rw [uQ rfl,uQ hl] at hi
   simp only [Option.some.injEq] at hi
   subst hi
   exact ⟨j,a,hj,by rw [hk]⟩
  ·rw [uP e] at hi
   exact ⟨i,u,hi,rfl⟩
theorem pC (h:(l.map key).Nodup) {j:Nat} {a b:α} (hj:l[j]?=some a) (hk:key b=key a) (c:α):c∈l.set j b↔c=b\/(c∈l/\key c≠key a):=by
 have hl:=(List.getElem?_eq_some_iff.1 hj).1
 rw [List.mem_iff_getElem?]
 constructor
 ·rintro ⟨i,hi⟩
  rw [List.getElem?_set] at hi
  by_cases e:j=i
  ·subst e
   rw [uQ rfl,uQ hl] at hi
   simp only [Option.some.injEq] at hi
   exact .inl hi.symm
  ·rw [uP e] at hi
   exact .inr ⟨List.mem_of_getElem? hi,fun c=>e (mW h hj hi c.symm)⟩
 ·rintro (rfl|⟨hc,hne⟩)
  ·exact ⟨j,by rw [List.getElem?_set,uQ rfl,uQ hl]⟩
  ·obtain ⟨i,hi⟩:=List.mem_iff_getElem?.1 hc
   refine ⟨i,?_⟩
   rw [List.getElem?_set,uP]
   ·exact hi
   ·rintro rfl
    rw [hj] at hi
    simp only [Option.some.injEq] at hi
    exact hne (by rw [hi])
theorem eW (h:Listed key T l) {b:α} (hk:∀ a∈l,key a≠key b):Listed key (zD (key b,0) l.length T) (l++[b]):=by
 refine ⟨gC _ _ h.srt,?_,fun e=>?_⟩
 ·rw [List.map_append]
  show (l.map key++[key b]).Nodup
  rw [List.nodup_append]
  refine ⟨h.once,by simp,fun x hx y hy=>?_⟩
  obtain ⟨a,ha,rfl⟩:=List.mem_map.1 hx
  have:y=key b:=by simpa using hy
  rw [this]
  exact hk a ha
 ·rw [gR,h.mem]
  constructor
  ·rintro (rfl|⟨⟨j,a,hj,rfl⟩,_⟩)
   ·exact ⟨l.length,b,by simp,rfl⟩
   ·exact ⟨j,a,by rw [List.getElem?_append_left (List.getElem?_eq_some_iff.1 hj).1];exact hj,rfl⟩
  ·rintro ⟨j,a,hj,rfl⟩
   by_cases e:j<l.length
   ·rw [List.getElem?_append_left e] at hj
    exact .inr ⟨⟨j,a,hj,rfl⟩,fun c=>hk a (List.mem_of_getElem? hj) (by simpa using c)⟩
   ·have hj':=(List.getElem?_eq_some_iff.1 hj).1
    have e':j=l.length:=by simp at hj';omega
    subst e'
    simp at hj
    subst hj
    exact .inl rfl
def oB (l:List α) (j:Nat) (z:α):List α:=(l.set j z).take (l.length - 1)
theorem kG {j:Nat} {a z:α} (hj:l[j]?=some a) (i:Nat) (c:α):(oB l j z)[i]?=some c↔i<l.length - 1/\((i=j/\c=z)\/(i≠j/\l[i]?=some c)):=by
 have hl:=(List.getElem?_eq_some_iff.1 hj).1
 unfold oB
 rw [List.getElem?_take]
 by_cases hi:i<l.length - 1
 ·rw [uQ hi,List.getElem?_set]
  by_cases e:j=i
  ·subst e
   rw [uQ rfl,uQ hl]
   constructor
   ·intro e;simp only [Option.some.injEq] at e;exact ⟨hi,.inl ⟨rfl,e.symm⟩⟩
   ·rintro ⟨_,⟨_,rfl⟩|⟨e,_⟩⟩
    ·rfl
    ·exact absurd rfl e
  ·rw [uP e]
   constructor
   ·intro h;exact ⟨hi,.inr ⟨fun c=>e c.symm,h⟩⟩
   ·rintro ⟨_,⟨c,_⟩|⟨_,h⟩⟩
    ·exact absurd c.symm e
    ·exact h
 ·rw [uP hi]
  constructor
  ·intro h;cases h
  ·rintro ⟨h,_⟩;exact absurd h hi
theorem sM (h:(l.map key).Nodup) {j:Nat} {a z:α} (hj:l[j]?=some a) (hz:l[l.length - 1]?=some z) (c:α):c∈oB l j z↔c∈l/\key c≠key a:=by
 have hl:=(List.getElem?_eq_some_iff.1 hj).1
 rw [List.mem_iff_getElem?]
 constructor
 ·rintro ⟨i,hi⟩
  obtain ⟨h1,⟨rfl,rfl⟩|⟨h2,h3⟩⟩:=(kG hj i c).1 hi
  ·exact ⟨List.mem_of_getElem? hz,fun e=>by have:=mW h hj hz e.symm;omega⟩
  ·exact ⟨List.mem_of_getElem? h3,fun e=>h2 (mW h h3 hj e)⟩
 ·rintro ⟨hc,hne⟩
  obtain ⟨i,hi⟩:=List.mem_iff_getElem?.1 hc
  have hij:i≠j:=by
   rintro rfl
   rw [hj] at hi
   simp only [Option.some.injEq] at hi
   exact hne (by rw [hi])
  have hil:=(List.getElem?_eq_some_iff.1 hi).1
  by_cases e:i=l.length - 1
  ·subst e
   rw [hz] at hi
   simp only [Option.some.injEq] at hi
   subst hi
   exact ⟨j,(kG hj j z).2 ⟨uO,.inl ⟨rfl,rfl⟩⟩⟩
  ·exact ⟨i,(kG hj i c).2 ⟨uO,.inr ⟨hij,hi⟩⟩⟩
theorem iT (h:Listed key T l) {j:Nat} {a z:α} (hj:l[j]?=some a) (hz:l[l.length - 1]?=some z):Listed key (xC (key a,0) (zD (key z,0) j T)) (oB l j z):=by
 have hl:=(List.getElem?_eq_some_iff.1 hj).1
 refine ⟨aQ _ (gC _ _ h.srt),?_,fun e=>?_⟩
 ·unfold List.Nodup
  rw [List.pairwise_iff_getElem]
  intro i i' hi hi' hlt e
  simp only [List.getElem_map] at e
  have g1:(oB l j z)[i]?=some ((oB l j z)[i]'(by simpa using hi)):=uD _
  have g2:(oB l j z)[i']?=some ((oB l j z)[i']'(by simpa using hi')):=uD _
  generalize (oB l j z)[i]'(by simpa using hi)=u at e g1
  generalize (oB l j z)[i']'(by simpa using hi')=v at e g2
  obtain ⟨h1,h2⟩:=(kG hj i u).1 g1
  obtain ⟨h3,h4⟩:=(kG hj i' v).1 g2
  rcases h2 with ⟨rfl,rfl⟩|⟨h2,h2'⟩<;>rcases h4 with ⟨rfl,rfl⟩|⟨h4,h4'⟩
  ·omega
  ·have:=mW h.once hz h4' e;omega
  ·have:=mW h.once h2' hz e;omega
  ·have:=mW h.once h2' h4' e;omega
 ·rw [Zq,gR,h.mem]
  constructor
  ·rintro ⟨rfl|⟨⟨i,u,hi,rfl⟩,h1⟩,h2⟩
   ·have hne:key z≠key a:=fun c=>h2 (by rw [c])
    have:j≠l.length - 1:=by
       rintro rfl
       rw [hj] at hz
       simp only [Option.some.injEq] at hz
       exact hne (by rw [hz])
    exact ⟨j,z,(kG hj j z).2 ⟨uO,.inl ⟨rfl,rfl⟩⟩,rfl⟩
   ·have hij:i≠j:=by
       rintro rfl
       rw [hj] at hi
       simp only [Option.some.injEq] at hi
       exact h2 (by rw [hi])
    have hil:=(List.getElem?_eq_some_iff.1 hi).1
    have hiz:i≠l.length - 1:=by
       rintro rfl
       rw [hz] at hi
       simp only [Option.some.injEq] at hi
       exact h1 (by rw [hi])
    exact ⟨i,u,(kG hj i u).2 ⟨uO,.inr ⟨hij,hi⟩⟩,rfl⟩
  ·rintro ⟨i,u,hi,rfl⟩
   obtain ⟨h1,⟨rfl,rfl⟩|⟨h2,h3⟩⟩:=(kG hj i u).1 hi
   ·refine ⟨.inl rfl,fun c=>?_⟩
    have c':key u=key a:=by simpa using c
    have:=mW h.once hz hj c'
    omega
   ·refine ⟨.inr ⟨⟨i,u,h3,rfl⟩,fun c=>?_⟩,fun c=>?_⟩
    ·have c':key u=key z:=by simpa using c
     have:=mW h.once h3 hz c'
     omega
    ·have c':key u=key a:=by simpa using c
     exact h2 (mW h.once h3 hj c')
end
theorem El {L:List Ent} {os:List Ord} (h:kZ L (xW os)):L.length<=os.length * 3:=by
 have h1:(L.map (·.1)).Nodup:=by
  unfold List.Nodup
  rw [List.pairwise_map]
  exact h.1.imp (fun hab=>zJ hab)
 have h2:=yK (L.map (·.1)) (os.flatMap (fun o=>[(o.cust,12),(o.cust,13),(o.cust,14)])) h1 (fun y hy=>by
  obtain ⟨e,he,rfl⟩:=List.mem_map.1 hy
  obtain ⟨⟨c,st⟩,v⟩:=e
  obtain ⟨g1,g2,g3,g4⟩:=(h.2 _).1 he
  simp only at g1 g2 g3 g4
  by_cases hx:∃ o∈os,o.cust=c
  ·obtain ⟨o,ho,rfl⟩:=hx
   refine List.mem_flatMap.2 ⟨o,ho,?_⟩
   rcases g2 with rfl|rfl|rfl<;>simp
  ·exfalso
   apply g4
   rw [g3]
   unfold xW qF
   have:os.map (fun o=>if o.is st c then o.units else 0)=os.map (fun _=>(0:Int)):=by
    apply List.map_congr_left
    intro o ho
    rw [uP]
    unfold Ord.is
    simp only [Bool.and_eq_true,Bool.or_eq_true,beq_iff_eq,not_and,not_or]
    intro _
    exact ⟨g1,fun e=>hx ⟨o,ho,e⟩⟩
   rw [this]
   clear this hx g3 h h1 he
   induction os with
   | nil=>rfl
   | cons o os ih=>rw [List.map_cons,List.sum_cons,ih];rfl)
 have h3:(os.flatMap (fun o=>[(o.cust,(12:Int)),(o.cust,13),(o.cust,14)])).length=os.length * 3:=by
  clear h h1 h2
  induction os with
  | nil=>rfl
  | cons o os ih=>simp at ih ⊢;omega
 rw [h3] at h2
 simpa using h2
end
theorem cD (num cust units st cents upto:Int) (w:World) :
 Ca 166 #[.agg #[iv num,iv cust,iv units,iv st,iv cents,iv upto]] w fun e w'=>e=.returned (.agg #[iv num,iv 0])/\Below w.heap.size w w':=by
 go_enter Tryz.func166,Tryz.ntmps166
 go_wp2
 refine uK (v:=.agg #[iv num,iv 0]) (by simp [results,Tryz.results166,go_sem]) rfl ⟨rfl,?_⟩
 exact bL
theorem cA (num cust units st cents upto:Int) (w:World) (hu:0<=units/\units<=4294967296) :
 Ca 167 #[.agg #[iv num,iv cust,iv units,iv st,iv cents,iv upto]] w fun e w'=>e=.returned (.agg #[iv (-units),iv num])/\Below w.heap.size w w':=by
 have hw:IntKind.i64.wrap (-units)=-units:=yA uO uO
 go_enter Tryz.func167,Tryz.ntmps167
 go_wp2
 refine uK (v:=.agg #[iv (-units),iv num]) (by simp [results,Tryz.results167,go_sem]) rfl ⟨rfl,?_⟩
 exact bL
def De (w w':World) (x q:Nat) (C:Array Value) (T:TypeId) (t1 t2:Tr) (s1 s2:Int) (L1 L2:List Ent):Prop :=
 ∃ t1' t2':Tr,w'.heap[x]?=some (.cells ((((C.setIfInBounds (q+1) (iv s1)).setIfInBounds q (.pointer t1'.addr)).setIfInBounds (q+3) (iv s2)).setIfInBounds (q+2) (.pointer t2'.addr)) T (0,0))/\t1'.at w'/\t2'.at w'/\t1'.toL=L1/\t2'.toL=L2/\Same (fun b=>b=x) w w'/\(∀ n,t1'.has n->t1.has n\/w.heap.size<=n)/\∀ n,t2'.has n->t2.has n\/w.heap.size<=n
theorem at_same {w w':World} {t:Tr} {x:Nat} {C:Array Value} {T:TypeId} (h:t.at w) (hx:w.heap[x]?=some (.cells C T)) (hT:T≠178) (hs:Same (fun b=>b=x) w w'):t.at w' :=
 t.at_keep h (fun n hn=>hs.block n (t.at_lt h hn) (fun e=>by
  obtain ⟨C',hC⟩:=t.at_type h hn
  have e':n=x:=e
  rw [e',hx] at hC
  simp only [Option.some.injEq,Obj.cells.injEq] at hC
  exact hT hC.2.1))
theorem qB {w:World} {R:Nat} {c0 c1 c2 c3 c4 c5:Value} {T:TypeId} (h:w.heap[R]?=some (.cells #[c0,c1,c2,c3,c4,c5] T)):w.cell? (aq R 0)=some c0/\w.cell? (aq R 1)=some c1/\w.cell? (aq R 2)=some c2/\w.cell? (aq R 3)=some c3/\w.cell? (aq R 4)=some c4/\w.cell? (aq R 5)=some c5:=by
 refine ⟨?_,?_,?_,?_,?_,?_⟩<;>(rw [uI h];rfl)
theorem Ey (x q:Nat) (C:Array Value) (T:TypeId) (hT:T≠178) (t1 t2:Tr) (s1 s2 num cust units st cents upto:Int) (w:World) (hx:w.heap[x]?=some (.cells C T)) (h0:C[q]?=some (.pointer t1.addr)) (h1:C[q+1]?=some (iv s1)) (h2:C[q+2]?=some (.pointer t2.addr)) (h3:C[q+3]?=some (iv s2)) (ht1:t1.at w) (ht2:t2.at w) (hs1:srt t1.toL) (hs2:srt t2.toL) (hn1:yO (num,0) t1.toL=none) (hn2:yO (-units,num) t2.toL=none) (hz1:0<=s1/\s1<9223372036854775807) (hz2:0<=s2/\s2<9223372036854775807) (hu:0<=units/\units<=4294967296) :
 Ca 154 #[pt x q,.agg #[iv num,iv cust,iv units,iv st,iv cents,iv upto]] w fun e w'=>e=.returned (.tuple #[])/\De w w' x q C T t1 t2 (s1+1) (s2+1) (zD (num,0) 0 t1.toL) (zD (-units,num) 0 t2.toL):=by
 have hxw:x<w.heap.size:=(blt hx)
 have HK1:Hid (∀ W,Ca 166 #[.agg #[iv num,iv cust,iv units,iv st,iv cents,iv upto]] W fun e w'=>e=.returned (.agg #[iv num,iv 0])/\Below W.heap.size W w'):=cD num cust units st cents upto
 have HK2:Hid (∀ W,Ca 167 #[.agg #[iv num,iv cust,iv units,iv st,iv cents,iv upto]] W fun e w'=>e=.returned (.agg #[iv (-units),iv num])/\Below W.heap.size W w'):=fun W=>cA num cust units st cents upto W hu
 have HP1:Hid (∀ W,Below w.heap.size w W->Ca 99 #[pt x q,.agg #[iv num,iv 0],iv 0] W fun e w'=>e=.returned (.tuple #[])/\zC W w' x q C T (s1+1) t1 (zD (num,0) 0 t1.toL)):=fun W hW=>nO x q C T hT t1 s1 num 0 0 W ((hW.block x hxw).trans hx) h0 h1 (t1.at_below ht1 hW) hs1 hn1 hz1
 have HP2:Hid (∀ W W1 W2,Below w.heap.size w W->zC W W1 x q C T (s1+1) t1 (zD (num,0) 0 t1.toL)->Below W1.heap.size W1 W2->Ca 99 #[pt x (q+2),.agg #[iv (-units),iv num],iv 0] W2 fun e w'=>e=.returned (.tuple #[])/\De w w' x q C T t1 t2 (s1+1) (s2+1) (zD (num,0) 0 t1.toL) (zD (-units,num) 0 t2.toL)/\Same (fun b=>b=x) W2 w'):=fun W W1 W2 hW hA hB=>by
  obtain ⟨t1',a1,a2,a3,a4,a5⟩:=hA
  have hx1:x<W1.heap.size:=(blt a1)
  have b1:=(hB.block x hx1).trans a1
  have yW:=hW.size
  have y1:=a4.size
  have y2:=hB.size
  have d2:t2.at W2:=t2.at_below (at_same (t2.at_below ht2 hW) ((hW.block x hxw).trans hx) hT a4) hB
  have e2:((C.setIfInBounds (q+1) (iv (s1+1))).setIfInBounds q (.pointer t1'.addr))[q+2]?=some (.pointer t2.addr):=by
   rw [vE,uP uO,vE,uP uO];exact h2
  have e3:((C.setIfInBounds (q+1) (iv (s1+1))).setIfInBounds q (.pointer t1'.addr))[q+2+1]?=some (iv s2):=by
   rw [vE,uP uO,vE,uP uO];exact h3
  refine (nO x (q+2) _ T hT t2 s2 (-units) num 0 W2 b1 e2 e3 d2 hs2 hn2 hz2).mono ?_
  rintro e w' ⟨rfl,t2',f1,f2,f3,f4,f5⟩
  refine ⟨rfl,⟨t1',t2',f1,at_same (t1'.at_below a2 hB) b1 hT f4,f2,a3,f3,?_,fun n hn=>(a5 n hn).imp id (fun c=>uO),fun n hn=>(f5 n hn).imp id (fun c=>uO)⟩,f4⟩
  exact Same.trans (Same.trans (Same.trans (Same.of_below (own:=fun _=>False) hW) a4 (o:=fun b=>b=x) (fun k _ c=>c.elim False.elim id)) (Same.of_below (own:=fun _=>False) hB) (o:=fun b=>b=x) (fun k _ c=>c.elim id False.elim)) f4 (fun k _ c=>c.elim id id)
 clear hx h0 h1 h2 h3 ht1 ht2 hs1 hs2 hu hn1 hn2 hz1 hz2
 go_enter Tryz.func154,Tryz.ntmps154
 go_wp2_with fail
 have ob:Hid ((w.alloc (.cells #[iv num,iv cust,iv units,iv st,iv cents,iv upto] 142)).heap[w.heap.size]?=some (.cells #[iv num,iv cust,iv units,iv st,iv cents,iv upto] 142)):=uF w _
 have hbl:Below w.heap.size w (w.alloc (.cells #[iv num,iv cust,iv units,iv st,iv cents,iv upto] 142)):=(uM _ _).alloc (uA _) _
 have hz:w.heap.size<(w.alloc (.cells #[iv num,iv cust,iv units,iv st,iv cents,iv upto] 142)).heap.size:=by simp
 generalize w.alloc (.cells #[iv num,iv cust,iv units,iv st,iv cents,iv upto] 142)=W0 at ob hbl hz ⊢
 obtain ⟨k0,k1,k2,k3,k4,k5⟩:=qB ob.out
 have hxW:x<W0.heap.size:=uO
 have hne:w.heap.size≠x:=uO
 replace hbl:Hid _:=hbl
 go_region_held3 (fun w'=>w'.cell? (aq w.heap.size 0)=some (iv num)/\w'.cell? (aq w.heap.size 1)=some (iv cust)/\w'.cell? (aq w.heap.size 2)=some (iv units)/\w'.cell? (aq w.heap.size 3)=some (iv st)/\w'.cell? (aq w.heap.size 4)=some (iv cents)/\w'.cell? (aq w.heap.size 5)=some (iv upto)) (simp [go_sem, *])
  (first
    | (go_at_call 166;refine (HK1.out _).mono ?_;rintro e w1 ⟨rfl,b⟩
       have hb1:Below W0.heap.size W0 w1:=by first|exact b|exact uL (show Below W0.heap.size W0 _ from bL) b
       have ob1:Hid _:=(hb1.block _ hz).trans ob.out
       have hbl1:Hid (Below w.heap.size w w1):=uL hbl.out (hb1.mono hbl.out.size)
       have zz1:w.heap.size<w1.heap.size:=uB hz hb1.size
       obtain ⟨a0,a1,a2,a3,a4,a5⟩:=qB ob1.out
       clear b hb1)
    | (go_at_call 99;refine (HP1.out _ bL).mono ?_;rintro e w2 ⟨rfl,hq⟩
       have HQ:Hid (∃ W,Below w.heap.size w W/\zC W w2 x q C T (s1+1) t1 (zD (num,0) 0 t1.toL)):=⟨_,bL,hq⟩
       have hsm:=hq.choose_spec.2.2.2.1
       have hz2:=hsm.size
       have ob2:Hid _:=(hsm.block w.heap.size (by first|exact zz1|simpa using zz1) (show w.heap.size≠x by omega)).trans ob1.out
       obtain ⟨d0,d1,d2,d3,d4,d5⟩:=qB ob2.out
       have hzz:w.heap.size<w2.heap.size:=(blt ob2.out)
       have hx2:x<w2.heap.size:=uO
       clear hsm hq))
 clear k0 k1 k2 k3 k4 k5 HP1 HK1
 go_wp2_with fail
 go_region_held3 (fun w'=>w'.cell? (aq w.heap.size 0)=some (iv num)/\w'.cell? (aq w.heap.size 1)=some (iv cust)/\w'.cell? (aq w.heap.size 2)=some (iv units)/\w'.cell? (aq w.heap.size 3)=some (iv st)/\w'.cell? (aq w.heap.size 4)=some (iv cents)/\w'.cell? (aq w.heap.size 5)=some (iv upto)) (simp [go_sem, *])
  (first
    | (go_at_call 167;refine (HK2.out _).mono ?_;rintro e w3 ⟨rfl,b⟩
       have hb3:Below w2.heap.size w2 w3:=by first|exact b|exact uL (show Below w2.heap.size w2 _ from bL) b
       have ob3:Hid _:=(hb3.block _ hzz).trans ob2.out
       have zz3:w.heap.size<w3.heap.size:=uB hzz hb3.size
       obtain ⟨g0,g1,g2,g3,g4,g5⟩:=qB ob3.out
       replace hb3:Hid _:=hb3
       clear b)
    | (go_at_call 99;refine (HP2.out _ w2 _ HQ.out.choose_spec.1 HQ.out.choose_spec.2 bL).mono ?_;rintro e w4 ⟨rfl,hq4,hs4⟩
       obtain ⟨m0,m1,m2,m3,m4,m5⟩:=qB ((hs4.block w.heap.size (by first|exact zz3|simpa using zz3) (show w.heap.size≠x by omega)).trans ob3.out)
       clear hs4))
 go_end0
 exact ⟨rfl,hq4⟩
theorem Uq (x q:Nat) (C:Array Value) (T:TypeId) (hT:T≠178) (t1 t2:Tr) (s1 s2 num cust units st cents upto:Int) (w:World) (hx:w.heap[x]?=some (.cells C T)) (h0:C[q]?=some (.pointer t1.addr)) (h1:C[q+1]?=some (iv s1)) (h2:C[q+2]?=some (.pointer t2.addr)) (h3:C[q+3]?=some (iv s2)) (ht1:t1.at w) (ht2:t2.at w) (hs1:srt t1.toL) (hs2:srt t2.toL) (u1 u2:Int) (hn1:yO (num,0) t1.toL=some u1) (hn2:yO (-units,num) t2.toL=some u2) (hz1:1<=s1/\s1<9223372036854775807) (hz2:1<=s2/\s2<9223372036854775807) (hu:0<=units/\units<=4294967296) :
 Ca 152 #[pt x q,.agg #[iv num,iv cust,iv units,iv st,iv cents,iv upto]] w fun e w'=>e=.returned (.tuple #[])/\De w w' x q C T t1 t2 (s1 - 1) (s2 - 1) (xC (num,0) t1.toL) (xC (-units,num) t2.toL):=by
 have hxw:x<w.heap.size:=(blt hx)
 have HK1:Hid (∀ W,Ca 166 #[.agg #[iv num,iv cust,iv units,iv st,iv cents,iv upto]] W fun e w'=>e=.returned (.agg #[iv num,iv 0])/\Below W.heap.size W w'):=cD num cust units st cents upto
 have HK2:Hid (∀ W,Ca 167 #[.agg #[iv num,iv cust,iv units,iv st,iv cents,iv upto]] W fun e w'=>e=.returned (.agg #[iv (-units),iv num])/\Below W.heap.size W w'):=fun W=>cA num cust units st cents upto W hu
 have HP1:Hid (∀ W,Below w.heap.size w W->Ca 137 #[pt x q,.agg #[iv num,iv 0]] W fun e w'=>e=.returned (.tuple #[])/\zC W w' x q C T (s1 - 1) t1 (xC (num,0) t1.toL)):=fun W hW=>vU x q C T hT t1 s1 num 0 u1 W ((hW.block x hxw).trans hx) h0 h1 (t1.at_below ht1 hW) hs1 hn1 hz1
 have HP2:Hid (∀ W W1 W2,Below w.heap.size w W->zC W W1 x q C T (s1 - 1) t1 (xC (num,0) t1.toL)->Below W1.heap.size W1 W2->Ca 137 #[pt x (q+2),.agg #[iv (-units),iv num]] W2 fun e w'=>e=.returned (.tuple #[])/\De w w' x q C T t1 t2 (s1 - 1) (s2 - 1) (xC (num,0) t1.toL) (xC (-units,num) t2.toL)/\Same (fun b=>b=x) W2 w'):=fun W W1 W2 hW hA hB=>by
  obtain ⟨t1',a1,a2,a3,a4,a5⟩:=hA
  have hx1:x<W1.heap.size:=(blt a1)
  have b1:=(hB.block x hx1).trans a1
  have yW:=hW.size
  have y1:=a4.size
  have y2:=hB.size
  have d2:t2.at W2:=t2.at_below (at_same (t2.at_below ht2 hW) ((hW.block x hxw).trans hx) hT a4) hB
  have e2:((C.setIfInBounds (q+1) (iv (s1 - 1))).setIfInBounds q (.pointer t1'.addr))[q+2]?=some (.pointer t2.addr):=by
   rw [vE,uP uO,vE,uP uO];exact h2
  have e3:((C.setIfInBounds (q+1) (iv (s1 - 1))).setIfInBounds q (.pointer t1'.addr))[q+2+1]?=some (iv s2):=by
   rw [vE,uP uO,vE,uP uO];exact h3
  refine (vU x (q+2) _ T hT t2 s2 (-units) num u2 W2 b1 e2 e3 d2 hs2 hn2 hz2).mono ?_
  rintro e w' ⟨rfl,t2',f1,f2,f3,f4,f5⟩
  refine ⟨rfl,⟨t1',t2',f1,at_same (t1'.at_below a2 hB) b1 hT f4,f2,a3,f3,?_,fun n hn=>(a5 n hn).imp id (fun c=>uO),fun n hn=>(f5 n hn).imp id (fun c=>uO)⟩,f4⟩
  exact Same.trans (Same.trans (Same.trans (Same.of_below (own:=fun _=>False) hW) a4 (o:=fun b=>b=x) (fun k _ c=>c.elim False.elim id)) (Same.of_below (own:=fun _=>False) hB) (o:=fun b=>b=x) (fun k _ c=>c.elim id False.elim)) f4 (fun k _ c=>c.elim id id)
 clear hx h0 h1 h2 h3 ht1 ht2 hs1 hs2 hu hn1 hn2 hz1 hz2
 go_enter Tryz.func152,Tryz.ntmps152
 go_wp2_with fail
 have ob:Hid ((w.alloc (.cells #[iv num,iv cust,iv units,iv st,iv cents,iv upto] 142)).heap[w.heap.size]?=some (.cells #[iv num,iv cust,iv units,iv st,iv cents,iv upto] 142)):=uF w _
 have hbl:Below w.heap.size w (w.alloc (.cells #[iv num,iv cust,iv units,iv st,iv cents,iv upto] 142)):=(uM _ _).alloc (uA _) _
 have hz:w.heap.size<(w.alloc (.cells #[iv num,iv cust,iv units,iv st,iv cents,iv upto] 142)).heap.size:=by simp
 generalize w.alloc (.cells #[iv num,iv cust,iv units,iv st,iv cents,iv upto] 142)=W0 at ob hbl hz ⊢
 obtain ⟨k0,k1,k2,k3,k4,k5⟩:=qB ob.out
 have hxW:x<W0.heap.size:=uO
 have hne:w.heap.size≠x:=uO
 replace hbl:Hid _:=hbl
 go_region_held3 (fun w'=>w'.cell? (aq w.heap.size 0)=some (iv num)/\w'.cell? (aq w.heap.size 1)=some (iv cust)/\w'.cell? (aq w.heap.size 2)=some (iv units)/\w'.cell? (aq w.heap.size 3)=some (iv st)/\w'.cell? (aq w.heap.size 4)=some (iv cents)/\w'.cell? (aq w.heap.size 5)=some (iv upto)) (simp [go_sem, *])
  (first
    | (go_at_call 166;refine (HK1.out _).mono ?_;rintro e w1 ⟨rfl,b⟩
       have hb1:Below W0.heap.size W0 w1:=by first|exact b|exact uL (show Below W0.heap.size W0 _ from bL) b
       have ob1:Hid _:=(hb1.block _ hz).trans ob.out
       have hbl1:Hid (Below w.heap.size w w1):=uL hbl.out (hb1.mono hbl.out.size)
       have zz1:w.heap.size<w1.heap.size:=uB hz hb1.size
       obtain ⟨a0,a1,a2,a3,a4,a5⟩:=qB ob1.out
       clear b hb1)
    | (go_at_call 137;refine (HP1.out _ bL).mono ?_;rintro e w2 ⟨rfl,hq⟩
       have HQ:Hid (∃ W,Below w.heap.size w W/\zC W w2 x q C T (s1 - 1) t1 (xC (num,0) t1.toL)):=⟨_,bL,hq⟩
       have hsm:=hq.choose_spec.2.2.2.1
       have hz2:=hsm.size
       have ob2:Hid _:=(hsm.block w.heap.size (by first|exact zz1|simpa using zz1) (show w.heap.size≠x by omega)).trans ob1.out
       obtain ⟨d0,d1,d2,d3,d4,d5⟩:=qB ob2.out
       have hzz:w.heap.size<w2.heap.size:=(blt ob2.out)
       have hx2:x<w2.heap.size:=uO
       clear hsm hq))
 clear k0 k1 k2 k3 k4 k5 HP1 HK1
 go_wp2_with fail
 go_region_held3 (fun w'=>w'.cell? (aq w.heap.size 0)=some (iv num)/\w'.cell? (aq w.heap.size 1)=some (iv cust)/\w'.cell? (aq w.heap.size 2)=some (iv units)/\w'.cell? (aq w.heap.size 3)=some (iv st)/\w'.cell? (aq w.heap.size 4)=some (iv cents)/\w'.cell? (aq w.heap.size 5)=some (iv upto)) (simp [go_sem, *])
  (first
    | (go_at_call 167;refine (HK2.out _).mono ?_;rintro e w3 ⟨rfl,b⟩
       have hb3:Below w2.heap.size w2 w3:=by first|exact b|exact uL (show Below w2.heap.size w2 _ from bL) b
       have ob3:Hid _:=(hb3.block _ hzz).trans ob2.out
       have zz3:w.heap.size<w3.heap.size:=uB hzz hb3.size
       obtain ⟨g0,g1,g2,g3,g4,g5⟩:=qB ob3.out
       replace hb3:Hid _:=hb3
       clear b)
    | (go_at_call 137;refine (HP2.out _ w2 _ HQ.out.choose_spec.1 HQ.out.choose_spec.2 bL).mono ?_;rintro e w4 ⟨rfl,hq4,hs4⟩
       obtain ⟨m0,m1,m2,m3,m4,m5⟩:=qB ((hs4.block w.heap.size (by first|exact zz3|simpa using zz3) (show w.heap.size≠x by omega)).trans ob3.out)
       clear hs4))
 go_end0
 exact ⟨rfl,hq4⟩
theorem sJ (x q:Nat) (t:Tr) (w:World) (h0:w.cell? (aq x q)=some (.pointer t.addr)) (ht:t.at w) :
 Ca 161 #[pt x q] w fun e w'=>e=.returned (.tuple #[iv (dM t).1.1,.bool (decide (t.toL≠[]))])/\Below w.heap.size w w':=by
 have HF:Hid (∀ W,Below w.heap.size w W->Ca 100 #[pt x q] W fun e w'=>e=.returned (.tuple #[.agg #[iv (dM t).1.1,iv (dM t).1.2,iv (dM t).2],.bool (decide (t.toL≠[]))])/\Below W.heap.size W w'):=fun W hW=>iH x (q) t W ((hW.cell (p:=(aq x q)) (uC w _ h0)).trans h0) (t.at_below ht hW)
 have hxw:x<w.heap.size:=uC w _ h0
 clear h0 ht
 generalize decide (t.toL≠[])=so at HF ⊢
 generalize dM t=F at HF ⊢
 obtain ⟨⟨a1,a2⟩,av⟩:=F
 simp only at HF ⊢
 go_enter Tryz.func161,Tryz.ntmps161
 go_wp2_with fail
 refine (HF.out _ bL).mono ?_
 rintro e w1 ⟨rfl,b1⟩
 have hb1:Below w.heap.size w w1:=uL (show Below w.heap.size w _ from bL) (b1.mono (by first|exact uA _|simp))
 have hz1:=hb1.size
 clear b1
 go_wp2
 refine uK (v:=.tuple #[iv a1,.bool so]) (by simp [results,Tryz.results161,go_sem]) rfl ⟨rfl,?_⟩
 exact bL
theorem tT (x q:Nat) (t:Tr) (w:World) (h0:w.cell? (aq x (q+2))=some (.pointer t.addr)) (ht:t.at w) :
 Ca 168 #[pt x q] w fun e w'=>e=.returned (.tuple #[iv (dM t).1.2,.bool (decide (t.toL≠[]))])/\Below w.heap.size w w':=by
 have HF:Hid (∀ W,Below w.heap.size w W->Ca 100 #[pt x (q+2)] W fun e w'=>e=.returned (.tuple #[.agg #[iv (dM t).1.1,iv (dM t).1.2,iv (dM t).2],.bool (decide (t.toL≠[]))])/\Below W.heap.size W w'):=fun W hW=>iH x (q+2) t W ((hW.cell (p:=(aq x (q+2))) (uC w _ h0)).trans h0) (t.at_below ht hW)
 have hxw:x<w.heap.size:=uC w _ h0
 clear h0 ht
 generalize decide (t.toL≠[])=so at HF ⊢
 generalize dM t=F at HF ⊢
 obtain ⟨⟨a1,a2⟩,av⟩:=F
 simp only at HF ⊢
 go_enter Tryz.func168,Tryz.ntmps168
 go_wp2_with fail
 refine (HF.out _ bL).mono ?_
 rintro e w1 ⟨rfl,b1⟩
 have hb1:Below w.heap.size w w1:=uL (show Below w.heap.size w _ from bL) (b1.mono (by first|exact uA _|simp))
 have hz1:=hb1.size
 clear b1
 go_wp2
 refine uK (v:=.tuple #[iv a2,.bool so]) (by simp [results,Tryz.results168,go_sem]) rfl ⟨rfl,?_⟩
 exact bL
theorem Mq (x q:Nat) (s:Int) (w:World) (h:w.cell? (aq x (q+1))=some (iv s)) :
 Ca 39 #[pt x q] w fun e w'=>e=.returned (iv s)/\Below w.heap.size w w':=by
 have hxw:x<w.heap.size:=uC w _ h
 have HF:Hid (∀ W,Below w.heap.size w W->Ca 61 #[pt x q] W fun e w'=>e=.returned (iv s)/\Below W.heap.size W w'):=fun W hW=>Zh x q s W ((hW.cell (p:=(aq x (q+1))) hxw).trans h)
 clear h
 go_enter Tryz.func39,Tryz.ntmps39
 go_wp2_with fail
 refine (HF.out _ bL).mono ?_
 rintro e w1 ⟨rfl,b1⟩
 go_wp2
 go_ret
 exact ⟨rfl,b1⟩
theorem Ux {L:List Ent} (hs:srt L) {c st d:Int} (h:yO (c,st) L=none->d≠0):((mM L c st d).length:Int)=if (yO (c,st) L).getD 0+d=0 then (L.length:Int) - 1 else if yO (c,st) L=none then (L.length:Int)+1 else L.length:=by
 unfold mM
 cases hg:yO (c,st) L with
 | none =>
   have hd:=h hg
   rw [uP (by simpa using hd),uP (by simpa using hd),uQ rfl,eB hg]
   simp
 | some u =>
   by_cases h0:(some u).getD 0+d=0
   ·rw [uQ h0,uQ h0]
    have:=bC hs hg
    omega
   ·rw [uP h0,uP h0,uP vS,dA hs hg]
theorem qQ {w:World} {R:Nat} {c0 c1:Value} {T:TypeId} (h:w.heap[R]?=some (.cells #[c0,c1] T)):w.cell? (aq R 0)=some c0/\w.cell? (aq R 1)=some c1 :=
 ⟨cB h,cB h⟩
theorem vG {w W w':World} {x o:Nat} {C1:Array Value} {T:TypeId} {s:Int} {t:Tr} {L:List Ent} (hs:Same (fun b=>b=x) w W) (h:zC W w' x o C1 T s t L):zC w w' x o C1 T s t L:=by
 obtain ⟨t',a1,a2,a3,a4,a5⟩:=h
 have:=hs.size
 exact ⟨t',a1,a2,a3,Same.trans hs a4 (fun k _ c=>c.elim id id),fun n hn=>(a5 n hn).imp id (fun c=>uO)⟩
theorem Ya {W:World} {x o:Nat} {C1:Array Value} {T:TypeId} (hT:T≠178) {t:Tr} {s c st d:Int} (hx:W.heap[x]?=some (.cells C1 T)) (h0:C1[o]?=some (.pointer t.addr)) (h1:C1[o+1]?=some (iv s)) (ht:t.at W) (hs:srt t.toL) (hd:yO (c,st) t.toL=none->d≠0) (hsz:s=t.toL.length) (hb:s<9223372036854775807) :
 ((yO (c,st) t.toL).getD 0+d=0->Ca 137 #[pt x o,.agg #[iv c,iv st]] W fun e w'=>e=.returned (.tuple #[])/\zC W w' x o C1 T ((mM t.toL c st d).length:Int) t (mM t.toL c st d)) ∧
 (¬ (yO (c,st) t.toL).getD 0+d=0->Ca 99 #[pt x o,.agg #[iv c,iv st],iv ((yO (c,st) t.toL).getD 0+d)] W fun e w'=>e=.returned (.tuple #[])/\zC W w' x o C1 T ((mM t.toL c st d).length:Int) t (mM t.toL c st d)):=by
 have hlen:=Ux hs hd
 constructor
 ·intro h
  rw [uQ h] at hlen
  cases hg:yO (c,st) t.toL with
  | none=>rw [hg] at h;simp at h;exact absurd h (hd hg)
  | some u =>
    have e:mM t.toL c st d=xC (c,st) t.toL:=by unfold mM;rw [uQ h]
    have hpos:=bC hs hg
    rw [hlen,← hsz,e]
    exact vU x o C1 T hT t s c st u W hx h0 h1 ht hs hg ⟨uO,hb⟩
 ·intro h
  rw [uP h] at hlen
  have e:mM t.toL c st d=zD (c,st) ((yO (c,st) t.toL).getD 0+d) t.toL:=by unfold mM;rw [uP h]
  cases hg:yO (c,st) t.toL with
  | none =>
    rw [uQ hg] at hlen
    rw [hlen,← hsz,e,hg]
    exact nO x o C1 T hT t s c st _ W hx h0 h1 ht hs hg ⟨uO,hb⟩
  | some u =>
    rw [uP (by rw [hg];simp)] at hlen
    rw [hlen,← hsz,e,hg]
    exact Vq x o C1 T hT t s c st _ u W hx h0 h1 ht hs hg
theorem Ul (x l:Nat) (C:Array Value) (T:TypeId) (hT:T≠178) (t:Tr) (s c d:Int)  (w:World) (hx:w.heap[x]?=some (.cells C T)) (h0:C[l+2]?=some (.pointer t.addr)) (h1:C[l+3]?=some (iv s)) (ht:t.at w) (hs:srt t.toL) (hd:yO (c,12) t.toL=none->d≠0) (hsz:s=t.toL.length) (hb:s<9223372036854775807) (hdb:-2305843009213693952<=d/\d<=2305843009213693952) (hgb:-2305843009213693952<=(yO (c,12) t.toL).getD 0/\(yO (c,12) t.toL).getD 0<=2305843009213693952) :
 Ca 153 #[pt x l,iv c,iv 12,iv d] w fun e w'=>e=.returned (.tuple #[])/\zC w w' x (l+2) C T ((mM t.toL c 12 d).length:Int) t (mM t.toL c 12 d):=by
 have hxw:x<w.heap.size:=(blt hx)
 have hx1:=hx
 have ht1:=ht
 have e0:=h0
 have e1:C[l+2+1]?=some (iv s):=h1
 have hs1:Same (fun b=>b=x) w w:=⟨rfl,rfl,rfl,uA _,fun _ _ _=>rfl⟩
 have HLAST:Hid (∀ W,Below w.heap.size w W->((yO (c,12) t.toL).getD 0+d=0->Ca 137 #[pt x (l+2),.agg #[iv c,iv 12]] W fun e w'=>e=.returned (.tuple #[])/\zC w w' x (l+2) C T ((mM t.toL c 12 d).length:Int) t (mM t.toL c 12 d)/\Same (fun b=>b=x) W w')/\(¬ (yO (c,12) t.toL).getD 0+d=0->Ca 99 #[pt x (l+2),.agg #[iv c,iv 12],iv ((yO (c,12) t.toL).getD 0+d)] W fun e w'=>e=.returned (.tuple #[])/\zC w w' x (l+2) C T ((mM t.toL c 12 d).length:Int) t (mM t.toL c 12 d)/\Same (fun b=>b=x) W w')):=fun W hW=>by
  have hxz:x<w.heap.size:=(blt hx1)
  have hh:=Ya hT (d:=d) ((hW.block x hxz).trans hx1) e0 e1 (t.at_below ht1 hW) hs hd hsz hb
  have hsW:Same (fun b=>b=x) w W:=Same.trans hs1 (Same.of_below (own:=fun _=>False) hW) (fun k _ c=>c.elim id False.elim)
  refine ⟨fun h=>(hh.1 h).mono ?_,fun h=>(hh.2 h).mono ?_⟩
  ·rintro e w' ⟨rfl,a⟩
   exact ⟨rfl,vG hsW a,a.choose_spec.2.2.2.1⟩
  ·rintro e w' ⟨rfl,a⟩
   exact ⟨rfl,vG hsW a,a.choose_spec.2.2.2.1⟩
 have HGET:Hid (∀ W,Below w.heap.size w W->Ca 62 #[pt x (l+2),.agg #[iv c,iv 12]] W fun e w'=>(∃ kn,e=.returned (.tuple #[iv ((yO (c,12) t.toL).getD 0),.bool kn]))/\Below W.heap.size W w'):=fun W hW=>by
  have hxz:x<w.heap.size:=(blt hx1)
  have k2:W.cell? (aq x (l+2))=some (.pointer t.addr):=(hW.cell (p:=(aq x (l+2))) hxz).trans (by rw [uI hx1];exact e0)
  refine (xE x (l+2) t c 12 W k2 (t.at_below ht1 hW) hs).mono ?_
  rintro e w' ⟨rfl,hb⟩
  exact ⟨⟨_,rfl⟩,hb⟩
 clear hx ht h0 h1 hs hd hsz hb hs1 hx1 ht1 e0 e1
 generalize (yO (c,12) t.toL).getD 0=old at HLAST HGET hgb
 have hwo:IntKind.i64.wrap (old+d)=old+d:=yA uO uO
 generalize mM t.toL c 12 d=AL at HLAST ⊢
 by_cases hz0:old+d=0
 ·have q0:(old+d==0)=true:=by simpa using hz0
  go_enter Tryz.func153,Tryz.ntmps153
  go_wp2_with fail
  have kb:Hid ((w.alloc (.cells #[iv c,iv 12] 136)).heap[w.heap.size]?=some (.cells #[iv c,iv 12] 136)):=uF _ _
  have hbl:Hid (Below w.heap.size w (w.alloc (.cells #[iv c,iv 12] 136))):=(uM _ _).alloc (uA _) _
  have hz:w.heap.size<(w.alloc (.cells #[iv c,iv 12] 136)).heap.size:=by simp
  generalize w.alloc (.cells #[iv c,iv 12] 136)=W2 at kb hbl hz ⊢
  obtain ⟨y0,y1⟩:=qQ kb.out
  have hxz:x<W2.heap.size:=uO
  go_region_held3 (fun w'=>w'.cell? (aq w.heap.size 0)=some (iv c)/\w'.cell? (aq w.heap.size 1)=some (iv 12)) (simp [go_sem, *])
   (first
     | (go_at_call 62;refine (HGET.out _ bL).mono ?_;rintro e w3 ⟨⟨kn,rfl⟩,b⟩
        have hb3:Below W2.heap.size W2 w3:=by first|exact b|exact uL (show Below W2.heap.size W2 _ from bL) b
        have kb3:Hid _:=(hb3.block _ hz).trans kb.out
        have hbl3:Hid (Below w.heap.size w w3):=uL hbl.out (hb3.mono hbl.out.size)
        have hz3:w.heap.size<w3.heap.size:=uB hz hb3.size
        obtain ⟨u0,u1⟩:=qQ kb3.out
        clear b hb3))
  have hx3:x<w3.heap.size:=uO
  go_wp2_with fail
  go_region_held3 (fun w'=>w'.cell? (aq w.heap.size 0)=some (iv c)/\w'.cell? (aq w.heap.size 1)=some (iv 12)) (simp [go_sem, *])
   (first
     | (go_at_call 137;refine ((HLAST.out _ bL).1 hz0).mono ?_;rintro e w4 ⟨rfl,hq,hs4⟩
        obtain ⟨r0,r1⟩:=qQ ((hs4.block w.heap.size (by first|exact hz3|simpa using hz3) (show w.heap.size≠x by omega)).trans kb3.out)
        clear hs4))
  all_goals (first|go_end0|(go_wp2;go_end0)|(go_wp2;refine uK (uR rfl _ _ _) rfl ?_))
  all_goals exact ⟨rfl,hq⟩
 ·have q0:(old+d==0)=false:=by simpa using hz0
  go_enter Tryz.func153,Tryz.ntmps153
  go_wp2_with fail
  have kb:Hid ((w.alloc (.cells #[iv c,iv 12] 136)).heap[w.heap.size]?=some (.cells #[iv c,iv 12] 136)):=uF _ _
  have hbl:Hid (Below w.heap.size w (w.alloc (.cells #[iv c,iv 12] 136))):=(uM _ _).alloc (uA _) _
  have hz:w.heap.size<(w.alloc (.cells #[iv c,iv 12] 136)).heap.size:=by simp
  generalize w.alloc (.cells #[iv c,iv 12] 136)=W2 at kb hbl hz ⊢
  obtain ⟨y0,y1⟩:=qQ kb.out
  have hxz:x<W2.heap.size:=uO
  go_region_held3 (fun w'=>w'.cell? (aq w.heap.size 0)=some (iv c)/\w'.cell? (aq w.heap.size 1)=some (iv 12)) (simp [go_sem, *])
   (first
     | (go_at_call 62;refine (HGET.out _ bL).mono ?_;rintro e w3 ⟨⟨kn,rfl⟩,b⟩
        have hb3:Below W2.heap.size W2 w3:=by first|exact b|exact uL (show Below W2.heap.size W2 _ from bL) b
        have kb3:Hid _:=(hb3.block _ hz).trans kb.out
        have hbl3:Hid (Below w.heap.size w w3):=uL hbl.out (hb3.mono hbl.out.size)
        have hz3:w.heap.size<w3.heap.size:=uB hz hb3.size
        obtain ⟨u0,u1⟩:=qQ kb3.out
        clear b hb3))
  have hx3:x<w3.heap.size:=uO
  go_wp2_with fail
  go_region_held3 (fun w'=>w'.cell? (aq w.heap.size 0)=some (iv c)/\w'.cell? (aq w.heap.size 1)=some (iv 12)) (simp [go_sem, *])
   (first
     | (go_at_call 99;refine ((HLAST.out _ bL).2 hz0).mono ?_;rintro e w4 ⟨rfl,hq,hs4⟩
        obtain ⟨r0,r1⟩:=qQ ((hs4.block w.heap.size (by first|exact hz3|simpa using hz3) (show w.heap.size≠x by omega)).trans kb3.out)
        clear hs4))
  all_goals (first|go_end0|(go_wp2;go_end0)|(go_wp2;refine uK (uR rfl _ _ _) rfl ?_))
  all_goals exact ⟨rfl,hq⟩
theorem Vs (x l:Nat) (C:Array Value) (T:TypeId) (hT:T≠178) (t:Tr) (s c d:Int) (n:Int) (hn:C[l]?=some (iv n)) (hnb:-2305843009213693952<=n/\n<=2305843009213693952) (w:World) (hx:w.heap[x]?=some (.cells C T)) (h0:C[l+2]?=some (.pointer t.addr)) (h1:C[l+3]?=some (iv s)) (ht:t.at w) (hs:srt t.toL) (hd:yO (c,13) t.toL=none->d≠0) (hsz:s=t.toL.length) (hb:s<9223372036854775807) (hdb:-2305843009213693952<=d/\d<=2305843009213693952) (hgb:-2305843009213693952<=(yO (c,13) t.toL).getD 0/\(yO (c,13) t.toL).getD 0<=2305843009213693952) :
 Ca 153 #[pt x l,iv c,iv 13,iv d] w fun e w'=>e=.returned (.tuple #[])/\zC w w' x (l+2) (C.setIfInBounds (l) (iv (n+d))) T ((mM t.toL c 13 d).length:Int) t (mM t.toL c 13 d):=by
 have hxw:x<w.heap.size:=(blt hx)
 have k0:w.cell? (aq x l)=some (iv n):=by rw [uI hx];exact hn
 have f0:=qA hx (l)
 have hwn:IntKind.i64.wrap (n+d)=n+d:=yA uO uO
 have hx1:(w.setCell (aq x l) (iv (n+d))).heap[x]?=some (.cells (C.setIfInBounds (l) (iv (n+d))) T (0,0)):=uH hx _
 have ht1:t.at (w.setCell (aq x l) (iv (n+d))):=t.at_set ht hx hT
 have e0:(C.setIfInBounds (l) (iv (n+d)))[l+2]?=some (.pointer t.addr):=by rw [vE,uP uO];exact h0
 have e1:(C.setIfInBounds (l) (iv (n+d)))[l+2+1]?=some (iv s):=by rw [vE,uP uO];exact h1
 have hs1:Same (fun b=>b=x) w (w.setCell (aq x l) (iv (n+d))):=⟨rfl,rfl,rfl,by simp [World.setCell],fun k _ hn=>uG _ (aq x l) _ _ hn⟩
 have HLAST:Hid (∀ W,Below (w.setCell (aq x l) (iv (n+d))).heap.size (w.setCell (aq x l) (iv (n+d))) W->((yO (c,13) t.toL).getD 0+d=0->Ca 137 #[pt x (l+2),.agg #[iv c,iv 13]] W fun e w'=>e=.returned (.tuple #[])/\zC w w' x (l+2) (C.setIfInBounds (l) (iv (n+d))) T ((mM t.toL c 13 d).length:Int) t (mM t.toL c 13 d)/\Same (fun b=>b=x) W w')/\(¬ (yO (c,13) t.toL).getD 0+d=0->Ca 99 #[pt x (l+2),.agg #[iv c,iv 13],iv ((yO (c,13) t.toL).getD 0+d)] W fun e w'=>e=.returned (.tuple #[])/\zC w w' x (l+2) (C.setIfInBounds (l) (iv (n+d))) T ((mM t.toL c 13 d).length:Int) t (mM t.toL c 13 d)/\Same (fun b=>b=x) W w')):=fun W hW=>by
  have hxz:x<(w.setCell (aq x l) (iv (n+d))).heap.size:=(blt hx1)
  have hh:=Ya hT (d:=d) ((hW.block x hxz).trans hx1) e0 e1 (t.at_below ht1 hW) hs hd hsz hb
  have hsW:Same (fun b=>b=x) w W:=Same.trans hs1 (Same.of_below (own:=fun _=>False) hW) (fun k _ c=>c.elim id False.elim)
  refine ⟨fun h=>(hh.1 h).mono ?_,fun h=>(hh.2 h).mono ?_⟩
  ·rintro e w' ⟨rfl,a⟩
   exact ⟨rfl,vG hsW a,a.choose_spec.2.2.2.1⟩
  ·rintro e w' ⟨rfl,a⟩
   exact ⟨rfl,vG hsW a,a.choose_spec.2.2.2.1⟩
 have HGET:Hid (∀ W,Below (w.setCell (aq x l) (iv (n+d))).heap.size (w.setCell (aq x l) (iv (n+d))) W->Ca 62 #[pt x (l+2),.agg #[iv c,iv 13]] W fun e w'=>(∃ kn,e=.returned (.tuple #[iv ((yO (c,13) t.toL).getD 0),.bool kn]))/\Below W.heap.size W w'):=fun W hW=>by
  have hxz:x<(w.setCell (aq x l) (iv (n+d))).heap.size:=(blt hx1)
  have k2:W.cell? (aq x (l+2))=some (.pointer t.addr):=(hW.cell (p:=(aq x (l+2))) hxz).trans (by rw [uI hx1];exact e0)
  refine (xE x (l+2) t c 13 W k2 (t.at_below ht1 hW) hs).mono ?_
  rintro e w' ⟨rfl,hb⟩
  exact ⟨⟨_,rfl⟩,hb⟩
 have hz1:(w.setCell (aq x l) (iv (n+d))).heap.size=w.heap.size:=by simp [World.setCell]
 clear hx ht h0 h1 hs hd hsz hb hs1 hx1 ht1 e0 e1
 generalize (yO (c,13) t.toL).getD 0=old at HLAST HGET hgb
 have hwo:IntKind.i64.wrap (old+d)=old+d:=yA uO uO
 generalize mM t.toL c 13 d=AL at HLAST ⊢
 by_cases hz0:old+d=0
 ·have q0:(old+d==0)=true:=by simpa using hz0
  go_enter Tryz.func153,Tryz.ntmps153
  go_wp2_with fail
  have kb:Hid (((w.setCell (aq x l) (iv (n+d))).alloc (.cells #[iv c,iv 13] 136)).heap[(w.setCell (aq x l) (iv (n+d))).heap.size]?=some (.cells #[iv c,iv 13] 136)):=uF _ _
  have hbl:Hid (Below (w.setCell (aq x l) (iv (n+d))).heap.size (w.setCell (aq x l) (iv (n+d))) ((w.setCell (aq x l) (iv (n+d))).alloc (.cells #[iv c,iv 13] 136))):=(uM _ _).alloc (uA _) _
  have hz:(w.setCell (aq x l) (iv (n+d))).heap.size<((w.setCell (aq x l) (iv (n+d))).alloc (.cells #[iv c,iv 13] 136)).heap.size:=by simp
  generalize (w.setCell (aq x l) (iv (n+d))).alloc (.cells #[iv c,iv 13] 136)=W2 at kb hbl hz ⊢
  replace kb:Hid (W2.heap[w.heap.size]?=some (.cells #[iv c,iv 13] 136)):=by unfold Hid;rw [← hz1];exact kb.out
  rw [hz1] at hz
  obtain ⟨y0,y1⟩:=qQ kb.out
  have hxz:x<W2.heap.size:=uO
  go_region_held3 (fun w'=>w'.cell? (aq w.heap.size 0)=some (iv c)/\w'.cell? (aq w.heap.size 1)=some (iv 13)) (simp [go_sem, *])
   (first
     | (go_at_call 62;refine (HGET.out _ bL).mono ?_;rintro e w3 ⟨⟨kn,rfl⟩,b⟩
        have hb3:Below W2.heap.size W2 w3:=by first|exact b|exact uL (show Below W2.heap.size W2 _ from bL) b
        have kb3:Hid _:=(hb3.block _ hz).trans kb.out
        have hbl3:Hid (Below (w.setCell (aq x l) (iv (n+d))).heap.size (w.setCell (aq x l) (iv (n+d))) w3):=uL hbl.out (hb3.mono hbl.out.size)
        have hz3:w.heap.size<w3.heap.size:=uB hz hb3.size
        obtain ⟨u0,u1⟩:=qQ kb3.out
        clear b hb3))
  have hx3:x<w3.heap.size:=uO
  go_wp2_with fail
  go_region_held3 (fun w'=>w'.cell? (aq w.heap.size 0)=some (iv c)/\w'.cell? (aq w.heap.size 1)=some (iv 13)) (simp [go_sem, *])
   (first
     | (go_at_call 137;refine ((HLAST.out _ bL).1 hz0).mono ?_;rintro e w4 ⟨rfl,hq,hs4⟩
        obtain ⟨r0,r1⟩:=qQ ((hs4.block w.heap.size (by first|exact hz3|simpa using hz3) (show w.heap.size≠x by omega)).trans kb3.out)
        clear hs4))
  all_goals (first|go_end0|(go_wp2;go_end0)|(go_wp2;refine uK (uR rfl _ _ _) rfl ?_))
  all_goals exact ⟨rfl,hq⟩
 ·have q0:(old+d==0)=false:=by simpa using hz0
  go_enter Tryz.func153,Tryz.ntmps153
  go_wp2_with fail
  have kb:Hid (((w.setCell (aq x l) (iv (n+d))).alloc (.cells #[iv c,iv 13] 136)).heap[(w.setCell (aq x l) (iv (n+d))).heap.size]?=some (.cells #[iv c,iv 13] 136)):=uF _ _
  have hbl:Hid (Below (w.setCell (aq x l) (iv (n+d))).heap.size (w.setCell (aq x l) (iv (n+d))) ((w.setCell (aq x l) (iv (n+d))).alloc (.cells #[iv c,iv 13] 136))):=(uM _ _).alloc (uA _) _
  have hz:(w.setCell (aq x l) (iv (n+d))).heap.size<((w.setCell (aq x l) (iv (n+d))).alloc (.cells #[iv c,iv 13] 136)).heap.size:=by simp
  generalize (w.setCell (aq x l) (iv (n+d))).alloc (.cells #[iv c,iv 13] 136)=W2 at kb hbl hz ⊢
  replace kb:Hid (W2.heap[w.heap.size]?=some (.cells #[iv c,iv 13] 136)):=by unfold Hid;rw [← hz1];exact kb.out
  rw [hz1] at hz
  obtain ⟨y0,y1⟩:=qQ kb.out
  have hxz:x<W2.heap.size:=uO
  go_region_held3 (fun w'=>w'.cell? (aq w.heap.size 0)=some (iv c)/\w'.cell? (aq w.heap.size 1)=some (iv 13)) (simp [go_sem, *])
   (first
     | (go_at_call 62;refine (HGET.out _ bL).mono ?_;rintro e w3 ⟨⟨kn,rfl⟩,b⟩
        have hb3:Below W2.heap.size W2 w3:=by first|exact b|exact uL (show Below W2.heap.size W2 _ from bL) b
        have kb3:Hid _:=(hb3.block _ hz).trans kb.out
        have hbl3:Hid (Below (w.setCell (aq x l) (iv (n+d))).heap.size (w.setCell (aq x l) (iv (n+d))) w3):=uL hbl.out (hb3.mono hbl.out.size)
        have hz3:w.heap.size<w3.heap.size:=uB hz hb3.size
        obtain ⟨u0,u1⟩:=qQ kb3.out
        clear b hb3))
  have hx3:x<w3.heap.size:=uO
  go_wp2_with fail
  go_region_held3 (fun w'=>w'.cell? (aq w.heap.size 0)=some (iv c)/\w'.cell? (aq w.heap.size 1)=some (iv 13)) (simp [go_sem, *])
   (first
     | (go_at_call 99;refine ((HLAST.out _ bL).2 hz0).mono ?_;rintro e w4 ⟨rfl,hq,hs4⟩
        obtain ⟨r0,r1⟩:=qQ ((hs4.block w.heap.size (by first|exact hz3|simpa using hz3) (show w.heap.size≠x by omega)).trans kb3.out)
        clear hs4))
  all_goals (first|go_end0|(go_wp2;go_end0)|(go_wp2;refine uK (uR rfl _ _ _) rfl ?_))
  all_goals exact ⟨rfl,hq⟩
theorem Kt (x l:Nat) (C:Array Value) (T:TypeId) (hT:T≠178) (t:Tr) (s c d:Int) (n:Int) (hn:C[l+1]?=some (iv n)) (hnb:-2305843009213693952<=n/\n<=2305843009213693952) (w:World) (hx:w.heap[x]?=some (.cells C T)) (h0:C[l+2]?=some (.pointer t.addr)) (h1:C[l+3]?=some (iv s)) (ht:t.at w) (hs:srt t.toL) (hd:yO (c,14) t.toL=none->d≠0) (hsz:s=t.toL.length) (hb:s<9223372036854775807) (hdb:-2305843009213693952<=d/\d<=2305843009213693952) (hgb:-2305843009213693952<=(yO (c,14) t.toL).getD 0/\(yO (c,14) t.toL).getD 0<=2305843009213693952) :
 Ca 153 #[pt x l,iv c,iv 14,iv d] w fun e w'=>e=.returned (.tuple #[])/\zC w w' x (l+2) (C.setIfInBounds (l+1) (iv (n+d))) T ((mM t.toL c 14 d).length:Int) t (mM t.toL c 14 d):=by
 have hxw:x<w.heap.size:=(blt hx)
 have k0:w.cell? (aq x (l+1))=some (iv n):=by rw [uI hx];exact hn
 have f0:=qA hx (l+1)
 have hwn:IntKind.i64.wrap (n+d)=n+d:=yA uO uO
 have hx1:(w.setCell (aq x (l+1)) (iv (n+d))).heap[x]?=some (.cells (C.setIfInBounds (l+1) (iv (n+d))) T (0,0)):=uH hx _
 have ht1:t.at (w.setCell (aq x (l+1)) (iv (n+d))):=t.at_set ht hx hT
 have e0:(C.setIfInBounds (l+1) (iv (n+d)))[l+2]?=some (.pointer t.addr):=by rw [vE,uP uO];exact h0
 have e1:(C.setIfInBounds (l+1) (iv (n+d)))[l+2+1]?=some (iv s):=by rw [vE,uP uO];exact h1
 have hs1:Same (fun b=>b=x) w (w.setCell (aq x (l+1)) (iv (n+d))):=⟨rfl,rfl,rfl,by simp [World.setCell],fun k _ hn=>uG _ (aq x (l+1)) _ _ hn⟩
 have HLAST:Hid (∀ W,Below (w.setCell (aq x (l+1)) (iv (n+d))).heap.size (w.setCell (aq x (l+1)) (iv (n+d))) W->((yO (c,14) t.toL).getD 0+d=0->Ca 137 #[pt x (l+2),.agg #[iv c,iv 14]] W fun e w'=>e=.returned (.tuple #[])/\zC w w' x (l+2) (C.setIfInBounds (l+1) (iv (n+d))) T ((mM t.toL c 14 d).length:Int) t (mM t.toL c 14 d)/\Same (fun b=>b=x) W w')/\(¬ (yO (c,14) t.toL).getD 0+d=0->Ca 99 #[pt x (l+2),.agg #[iv c,iv 14],iv ((yO (c,14) t.toL).getD 0+d)] W fun e w'=>e=.returned (.tuple #[])/\zC w w' x (l+2) (C.setIfInBounds (l+1) (iv (n+d))) T ((mM t.toL c 14 d).length:Int) t (mM t.toL c 14 d)/\Same (fun b=>b=x) W w')):=fun W hW=>by
  have hxz:x<(w.setCell (aq x (l+1)) (iv (n+d))).heap.size:=(blt hx1)
  have hh:=Ya hT (d:=d) ((hW.block x hxz).trans hx1) e0 e1 (t.at_below ht1 hW) hs hd hsz hb
  have hsW:Same (fun b=>b=x) w W:=Same.trans hs1 (Same.of_below (own:=fun _=>False) hW) (fun k _ c=>c.elim id False.elim)
  refine ⟨fun h=>(hh.1 h).mono ?_,fun h=>(hh.2 h).mono ?_⟩
  ·rintro e w' ⟨rfl,a⟩
   exact ⟨rfl,vG hsW a,a.choose_spec.2.2.2.1⟩
  ·rintro e w' ⟨rfl,a⟩
   exact ⟨rfl,vG hsW a,a.choose_spec.2.2.2.1⟩
 have HGET:Hid (∀ W,Below (w.setCell (aq x (l+1)) (iv (n+d))).heap.size (w.setCell (aq x (l+1)) (iv (n+d))) W->Ca 62 #[pt x (l+2),.agg #[iv c,iv 14]] W fun e w'=>(∃ kn,e=.returned (.tuple #[iv ((yO (c,14) t.toL).getD 0),.bool kn]))/\Below W.heap.size W w'):=fun W hW=>by
  have hxz:x<(w.setCell (aq x (l+1)) (iv (n+d))).heap.size:=(blt hx1)
  have k2:W.cell? (aq x (l+2))=some (.pointer t.addr):=(hW.cell (p:=(aq x (l+2))) hxz).trans (by rw [uI hx1];exact e0)
  refine (xE x (l+2) t c 14 W k2 (t.at_below ht1 hW) hs).mono ?_
  rintro e w' ⟨rfl,hb⟩
  exact ⟨⟨_,rfl⟩,hb⟩
 have hz1:(w.setCell (aq x (l+1)) (iv (n+d))).heap.size=w.heap.size:=by simp [World.setCell]
 clear hx ht h0 h1 hs hd hsz hb hs1 hx1 ht1 e0 e1
 generalize (yO (c,14) t.toL).getD 0=old at HLAST HGET hgb
 have hwo:IntKind.i64.wrap (old+d)=old+d:=yA uO uO
 generalize mM t.toL c 14 d=AL at HLAST ⊢
 by_cases hz0:old+d=0
 ·have q0:(old+d==0)=true:=by simpa using hz0
  go_enter Tryz.func153,Tryz.ntmps153
  go_wp2_with fail
  have kb:Hid (((w.setCell (aq x (l+1)) (iv (n+d))).alloc (.cells #[iv c,iv 14] 136)).heap[(w.setCell (aq x (l+1)) (iv (n+d))).heap.size]?=some (.cells #[iv c,iv 14] 136)):=uF _ _
  have hbl:Hid (Below (w.setCell (aq x (l+1)) (iv (n+d))).heap.size (w.setCell (aq x (l+1)) (iv (n+d))) ((w.setCell (aq x (l+1)) (iv (n+d))).alloc (.cells #[iv c,iv 14] 136))):=(uM _ _).alloc (uA _) _
  have hz:(w.setCell (aq x (l+1)) (iv (n+d))).heap.size<((w.setCell (aq x (l+1)) (iv (n+d))).alloc (.cells #[iv c,iv 14] 136)).heap.size:=by simp
  generalize (w.setCell (aq x (l+1)) (iv (n+d))).alloc (.cells #[iv c,iv 14] 136)=W2 at kb hbl hz ⊢
  replace kb:Hid (W2.heap[w.heap.size]?=some (.cells #[iv c,iv 14] 136)):=by unfold Hid;rw [← hz1];exact kb.out
  rw [hz1] at hz
  obtain ⟨y0,y1⟩:=qQ kb.out
  have hxz:x<W2.heap.size:=uO
  go_region_held3 (fun w'=>w'.cell? (aq w.heap.size 0)=some (iv c)/\w'.cell? (aq w.heap.size 1)=some (iv 14)) (simp [go_sem, *])
   (first
     | (go_at_call 62;refine (HGET.out _ bL).mono ?_;rintro e w3 ⟨⟨kn,rfl⟩,b⟩
        have hb3:Below W2.heap.size W2 w3:=by first|exact b|exact uL (show Below W2.heap.size W2 _ from bL) b
        have kb3:Hid _:=(hb3.block _ hz).trans kb.out
        have hbl3:Hid (Below (w.setCell (aq x (l+1)) (iv (n+d))).heap.size (w.setCell (aq x (l+1)) (iv (n+d))) w3):=uL hbl.out (hb3.mono hbl.out.size)
        have hz3:w.heap.size<w3.heap.size:=uB hz hb3.size
        obtain ⟨u0,u1⟩:=qQ kb3.out
        clear b hb3))
  have hx3:x<w3.heap.size:=uO
  go_wp2_with fail
  go_region_held3 (fun w'=>w'.cell? (aq w.heap.size 0)=some (iv c)/\w'.cell? (aq w.heap.size 1)=some (iv 14)) (simp [go_sem, *])
   (first
     | (go_at_call 137;refine ((HLAST.out _ bL).1 hz0).mono ?_;rintro e w4 ⟨rfl,hq,hs4⟩
        obtain ⟨r0,r1⟩:=qQ ((hs4.block w.heap.size (by first|exact hz3|simpa using hz3) (show w.heap.size≠x by omega)).trans kb3.out)
        clear hs4))
  all_goals (first|go_end0|(go_wp2;go_end0)|(go_wp2;refine uK (uR rfl _ _ _) rfl ?_))
  all_goals exact ⟨rfl,hq⟩
 ·have q0:(old+d==0)=false:=by simpa using hz0
  go_enter Tryz.func153,Tryz.ntmps153
  go_wp2_with fail
  have kb:Hid (((w.setCell (aq x (l+1)) (iv (n+d))).alloc (.cells #[iv c,iv 14] 136)).heap[(w.setCell (aq x (l+1)) (iv (n+d))).heap.size]?=some (.cells #[iv c,iv 14] 136)):=uF _ _
  have hbl:Hid (Below (w.setCell (aq x (l+1)) (iv (n+d))).heap.size (w.setCell (aq x (l+1)) (iv (n+d))) ((w.setCell (aq x (l+1)) (iv (n+d))).alloc (.cells #[iv c,iv 14] 136))):=(uM _ _).alloc (uA _) _
  have hz:(w.setCell (aq x (l+1)) (iv (n+d))).heap.size<((w.setCell (aq x (l+1)) (iv (n+d))).alloc (.cells #[iv c,iv 14] 136)).heap.size:=by simp
  generalize (w.setCell (aq x (l+1)) (iv (n+d))).alloc (.cells #[iv c,iv 14] 136)=W2 at kb hbl hz ⊢
  replace kb:Hid (W2.heap[w.heap.size]?=some (.cells #[iv c,iv 14] 136)):=by unfold Hid;rw [← hz1];exact kb.out
  rw [hz1] at hz
  obtain ⟨y0,y1⟩:=qQ kb.out
  have hxz:x<W2.heap.size:=uO
  go_region_held3 (fun w'=>w'.cell? (aq w.heap.size 0)=some (iv c)/\w'.cell? (aq w.heap.size 1)=some (iv 14)) (simp [go_sem, *])
   (first
     | (go_at_call 62;refine (HGET.out _ bL).mono ?_;rintro e w3 ⟨⟨kn,rfl⟩,b⟩
        have hb3:Below W2.heap.size W2 w3:=by first|exact b|exact uL (show Below W2.heap.size W2 _ from bL) b
        have kb3:Hid _:=(hb3.block _ hz).trans kb.out
        have hbl3:Hid (Below (w.setCell (aq x (l+1)) (iv (n+d))).heap.size (w.setCell (aq x (l+1)) (iv (n+d))) w3):=uL hbl.out (hb3.mono hbl.out.size)
        have hz3:w.heap.size<w3.heap.size:=uB hz hb3.size
        obtain ⟨u0,u1⟩:=qQ kb3.out
        clear b hb3))
  have hx3:x<w3.heap.size:=uO
  go_wp2_with fail
  go_region_held3 (fun w'=>w'.cell? (aq w.heap.size 0)=some (iv c)/\w'.cell? (aq w.heap.size 1)=some (iv 14)) (simp [go_sem, *])
   (first
     | (go_at_call 99;refine ((HLAST.out _ bL).2 hz0).mono ?_;rintro e w4 ⟨rfl,hq,hs4⟩
        obtain ⟨r0,r1⟩:=qQ ((hs4.block w.heap.size (by first|exact hz3|simpa using hz3) (show w.heap.size≠x by omega)).trans kb3.out)
        clear hs4))
  all_goals (first|go_end0|(go_wp2;go_end0)|(go_wp2;refine uK (uR rfl _ _ _) rfl ?_))
  all_goals exact ⟨rfl,hq⟩
