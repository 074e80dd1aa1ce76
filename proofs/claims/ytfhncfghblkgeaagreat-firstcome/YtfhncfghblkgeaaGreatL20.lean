import Derived.Test.YtfhncfghblkgeaaGreatL16
import Derived.Test.YtfhncfghblkgeaaGreatL17
import Derived.Test.YtfhncfghblkgeaaGreatL19
set_option maxRecDepth 100000
set_option maxHeartbeats 2000000
namespace Go.Proofs.YtfhncfghblkgeaaGreat
open Go.RowKit
section
def Ord.untl (C:Cfg) (o:Ord):Int:=if o.state=12\/o.state=13 then o.upto else o.ended+C.keep
def jbw (C:Cfg) (i:Nat) (o:Ord):POrd:=⟨(i:Int)+1,o.cust,o.units,o.state,o.cents,o.untl C⟩
def jau (C:Cfg) (st:Int):Int:=if st=13 then C.lease else if st=12 then C.wait else C.keep
structure relO (V:PV) (S:Sal) (last:Nat) (K:Nat->Prop):Prop where
 C:V.C=S.C
 now:V.now=S.now
 last:V.last=last
 tn:V.tn<=S.now
 once:jcz V.tl
 tl:∀ p,p∈V.tl↔∃ i,K i/\V.tn<(S.os.getD i ja3).untl S.C/\p=((S.os.getD i ja3).untl S.C,(i:Int)+1)
 kin:∀ i,K i->i<S.os.length
 live:∀ i,i<S.os.length->(S.os.getD i ja3).state=12\/(S.os.getD i ja3).state=13->K i
 ls:Listed POrd.num V.ot V.ol
 ol:∀ o,o∈V.ol↔∃ i,K i/\o=jbw S.C i (S.os.getD i ja3)
 turns:jdb V.qt S.os
 sizes:jbz V.qz S.os
 held:V.held=ja4 S.os 13 0
 sold:V.sold=ja4 S.os 14 0
 lu:je4 V.lu (jdf S.os)
 cust:∀ o∈S.os,o.cust≠0
def PV.led (V:PV) (c st d:Int):PV:={ V with held:=if st=13 then V.held+d else V.held,sold:=if st=14 then V.sold+d else V.sold,lu:=jnj V.lu c st d }
def PV.qout (V:PV) (o:POrd):PV:={ V with qt:=jd0 (o.num,0) V.qt,qz:=jd0 (-o.units,o.num) V.qz }
def PV.qin (V:PV) (o:POrd):PV:={ V with qt:=jbl (o.num,0) 0 V.qt,qz:=jbl (-o.units,o.num) 0 V.qz }
def PV.moved (V:PV) (p:POrd) (st:Int):PV :=
 { V with
   tl:=jg1 V.tn (jbs V.tl p.num) p.num (V.now+jau V.C st)
   qt:=if st=12 then jbl (p.num,0) 0 (if p.st=12 then jd0 (p.num,0) V.qt else V.qt) else if p.st=12 then jd0 (p.num,0) V.qt else V.qt
   qz:=if st=12 then jbl (-p.units,p.num) 0 (if p.st=12 then jd0 (-p.units,p.num) V.qz else V.qz) else if p.st=12 then jd0 (-p.units,p.num) V.qz else V.qz
   held:=if st=13 then (if p.st=13 then V.held+-p.units else V.held)+p.units else if p.st=13 then V.held+-p.units else V.held
   sold:=if st=14 then (if p.st=14 then V.sold+-p.units else V.sold)+p.units else if p.st=14 then V.sold+-p.units else V.sold
   lu:=jnj (jnj V.lu p.cust p.st (-p.units)) p.cust st p.units }
def POrd.to (p:POrd) (V:PV) (st:Int):POrd:={ p with st:=st,upto:=V.now+jau V.C st }
theorem jo4 {now:Int} {L:List (Int × Int)} {id at':Int} (h:jcz L) (ha:now<at') (q:Int × Int):q∈jg1 now (jbs L id) id at'↔(q∈L/\q.2≠id)\/q=(at',id):=by
 have hu:=jm9 (id:=id) h
 have hx:¬ 0<=jo8 (jbs L id) id:=by
  rw [jh9]
  rintro ⟨p,hp,e⟩
  rw [hu,List.mem_filter] at hp
  simp [e] at hp
 unfold jg1
 rw [if_neg (by omega),if_neg hx,List.mem_append,hu,List.mem_filter]
 simp
section
variable {V:PV} {S:Sal} {last:Nat} {K:Nat->Prop}
theorem relO.known (h:relO V S last K) {i:Nat} (hi:K i):∃ j:Nat,V.ol[j]?=some (jbw S.C i (S.os.getD i ja3))/\jb5 ((i:Int)+1,0) V.ot=some (j:Int):=by
 have hm:=(h.ol _).2 ⟨i,hi,rfl⟩
 obtain ⟨j,hj⟩:=List.mem_iff_getElem?.1 hm
 exact ⟨j,hj,jeb h.ls hj⟩
theorem relO.strange (h:relO V S last K) {num:Int} (hi:∀ i,K i->num≠(i:Int)+1):jb5 (num,0) V.ot=none:=by
 refine jhz h.ls (fun a ha e=>?_)
 obtain ⟨i,hk,rfl⟩:=(h.ol a).1 ha
 exact hi i hk e.symm
theorem relO.olen (h:relO V S last K):V.ol.length<=S.os.length:=by
 have h1:=jb0 (V.ol.map POrd.num) ((List.range S.os.length).map (fun i:Nat=>(i:Int)+1)) h.ls.once (fun y hy=>by
  obtain ⟨a,ha,rfl⟩:=List.mem_map.1 hy
  obtain ⟨i,hk,rfl⟩:=(h.ol a).1 ha
  exact List.mem_map.2 ⟨i,List.mem_range.2 (h.kin i hk),rfl⟩)
 simpa using h1
theorem relO.tlen (h:relO V S last K):V.tl.length<=S.os.length:=by
 have h1:=jb0 (V.tl.map (·.2)) ((List.range S.os.length).map (fun i:Nat=>(i:Int)+1)) h.once (fun y hy=>by
  obtain ⟨a,ha,rfl⟩:=List.mem_map.1 hy
  obtain ⟨i,hk,_,rfl⟩:=(h.tl a).1 ha
  exact List.mem_map.2 ⟨i,List.mem_range.2 (h.kin i hk),rfl⟩)
 simpa using h1
theorem jnd (o:Ord) (st:Int):o.part st 0=if o.state=st then o.units else 0:=by
 unfold Ord.part Ord.is
 by_cases e:o.state=st<;>simp [e]
theorem relO.move (h:relO V S last K) {i:Nat} (hi:K i) {p:POrd} (h1:p.num=(i:Int)+1) (h2:p.cust=(S.os.getD i ja3).cust) (h3:p.units=(S.os.getD i ja3).units) (h4:p.st=(S.os.getD i ja3).state) {st:Int} (hst:st≠12) {o:Ord} (g2:o.cust=p.cust) (g3:o.units=p.units) (g4:o.state=st) (g5:o.cents=p.cents) (g6:o.untl S.C=S.now+jau S.C st) (hs:1<=jau S.C st) {j:Nat} (hj:jb5 (p.num,0) V.ot=some (j:Int)) :
 relO { V.moved p st with ol:=V.ol.set j (p.to V st) } (S.put i o) last K:=by
 have hil:=h.kin i hi
 have hg:∀ k,(S.put i o).os.getD k ja3=if k=i then o else S.os.getD k ja3:=fun k=>jar o hil
 obtain ⟨j',hj1,hj2⟩:=h.known hi
 have ej:j'=j:=by
  rw [h1,hj2] at hj
  have e2:(j':Int)=(j:Int):=by simpa using hj
  omega
 subst ej
 have hp:p.to V st=jbw S.C i o:=by
  unfold POrd.to jbw
  rw [g2,g3,g4,g5,g6,h1,h.now,h.C]
 have hnum:(p.to V st).num=(jbw S.C i (S.os.getD i ja3)).num:=by rw [hp];rfl
 have hcu:o.cust=(S.os.getD i ja3).cust:=g2.trans h2
 have hun:o.units=(S.os.getD i ja3).units:=g3.trans h3
 have hc0:o.cust≠0:=by rw [hcu];exact h.cust _ (jal hil)
 have hlen:(S.put i o).os.length=S.os.length:=by show (S.os.set i o).length=_;simp
 have hv:(V.now+jau V.C st)=S.now+jau S.C st:=by rw [h.now,h.C]
 have htn:V.tn<S.now+jau S.C st:=by have:=h.tn;omega
 refine ⟨h.C,h.now,h.last,h.tn,jih (jlm h.once),fun q=>?_,fun k hk=>by rw [hlen];exact h.kin k hk,fun k hk hs=>?_,jwv h.ls hj1 hnum,fun a=>?_,?_,?_,?_,?_,?_,?_⟩
 ·show q∈jg1 V.tn (jbs V.tl p.num) p.num (V.now+jau V.C st)↔_
  rw [hv,jo4 h.once htn,h.tl,h1]
  constructor
  ·rintro (⟨⟨k,k1,k2,rfl⟩,k3⟩|rfl)
   ·have e:k≠i:=fun e=>k3 (by rw [e])
    refine ⟨k,k1,?_,?_⟩
    ·rw [hg,if_neg e];exact k2
    ·rw [hg,if_neg e];rfl
   ·refine ⟨i,hi,?_,?_⟩
    ·rw [hg,if_pos rfl];show V.tn<o.untl S.C;rw [g6];exact htn
    ·rw [hg,if_pos rfl];show _=(o.untl S.C,_);rw [g6]
  ·rintro ⟨k,k1,k2,rfl⟩
   by_cases e:k=i
   ·subst e
    right
    rw [hg,if_pos rfl]
    show (o.untl S.C,_)=_
    rw [g6]
   ·rw [hg,if_neg e] at k2 ⊢
    exact .inl ⟨⟨k,k1,k2,rfl⟩,fun c=>e (by simp at c;omega)⟩
 ·rw [hg] at hs
  by_cases e:k=i
  ·rw [e];exact hi
  ·rw [if_neg e] at hs
   exact h.live k (by rw [hlen] at hk;exact hk) hs
 ·show a∈V.ol.set j' (p.to V st)↔_
  rw [jnc h.ls.once hj1 hnum,h.ol]
  constructor
  ·rintro (rfl|⟨⟨k,k1,rfl⟩,k2⟩)
   ·exact ⟨i,hi,by rw [hg,if_pos rfl];exact hp⟩
   ·have e:k≠i:=fun e=>k2 (by rw [e])
    exact ⟨k,k1,by rw [hg,if_neg e];rfl⟩
  ·rintro ⟨k,k1,rfl⟩
   by_cases e:k=i
   ·subst e
    left
    rw [hg,if_pos rfl]
    exact hp.symm
   ·rw [hg,if_neg e]
    exact .inr ⟨⟨k,k1,rfl⟩,fun c=>e (by simp [jbw] at c;omega)⟩
 ·show jdb (if st=12 then _ else if p.st=12 then jd0 (p.num,0) V.qt else V.qt) (S.os.set i o)
  rw [if_neg hst]
  split
  ·next e=>rw [h1];exact qab h.turns hil o (by rw [g4];exact hst)
  ·next e=>exact jw3 h.turns hil o (by rw [g4];exact hst) (by rw [← h4];exact e)
 ·show jbz (if st=12 then _ else if p.st=12 then jd0 (-p.units,p.num) V.qz else V.qz) (S.os.set i o)
  rw [if_neg hst]
  split
  ·next e=>rw [h1,h3];exact jqv h.sizes hil o (by rw [g4];exact hst)
  ·next e=>exact jus h.sizes hil o (by rw [g4];exact hst) (by rw [← h4];exact e)
 ·show (if st=13 then (if p.st=13 then V.held+-p.units else V.held)+p.units else if p.st=13 then V.held+-p.units else V.held)=ja4 (S.os.set i o) 13 0
  rw [jcc hil,jnd,jnd,g4,g3,← h4,← h3,h.held]
  split<;>split<;>omega
 ·show (if st=14 then (if p.st=14 then V.sold+-p.units else V.sold)+p.units else if p.st=14 then V.sold+-p.units else V.sold)=ja4 (S.os.set i o) 14 0
  rw [jcc hil,jnd,jnd,g4,g3,← h4,← h3,h.sold]
  split<;>split<;>omega
 ·show je4 (jnj (jnj V.lu p.cust p.st (-p.units)) p.cust st p.units) (jdf (S.os.set i o))
  have:=qaj h.lu hil o hcu hun hc0
  rw [g4,g3,g2,← h4] at this
  exact this
 ·intro a ha
  rcases jfb (show a∈S.os.set i o from ha) with rfl|ha
  ·exact hc0
  ·exact h.cust a ha
theorem relO.moveNew (h:relO V S (S.os.length+1) K) {p:POrd} (h1:p.num=(S.os.length:Int)+1) (h4:p.st=0) {st:Int} {o:Ord} (g2:o.cust=p.cust) (g3:o.units=p.units) (g4:o.state=st) (g5:o.cents=p.cents) (g6:o.untl S.C=S.now+jau S.C st) (hs:1<=jau S.C st) (hc0:p.cust≠0) (rm:Int) :
 relO { V.moved p st with ot:=jbl (p.num,0) V.ol.length V.ot,ol:=V.ol++[p.to V st],orm:=rm } ({ S with os:=S.os++[o] }:Sal) (S.os.length+1) (fun k=>K k\/k=S.os.length):=by
 have hg:∀ k,k<S.os.length+1->({ S with os:=S.os++[o] }:Sal).os.getD k ja3=if k=S.os.length then o else S.os.getD k ja3:=fun k hk=>jaw hk
 have hlen:({ S with os:=S.os++[o] }:Sal).os.length=S.os.length+1:=by show (S.os++[o]).length=_;simp
 have hp:p.to V st=jbw S.C S.os.length o:=by
  unfold POrd.to jbw
  rw [g2,g3,g4,g5,g6,h1,h.now,h.C]
 have hv:(V.now+jau V.C st)=S.now+jau S.C st:=by rw [h.now,h.C]
 have htn:V.tn<S.now+jau S.C st:=by have:=h.tn;omega
 have hfresh:∀ a∈V.ol,a.num≠(p.to V st).num:=fun a ha=>by
  obtain ⟨i,hk,rfl⟩:=(h.ol a).1 ha
  have:=h.kin i hk
  show (i:Int)+1≠p.num
  omega
 refine ⟨h.C,h.now,h.last,h.tn,jih (jlm h.once),fun q=>?_,fun k hk=>?_,fun k hk hs=>?_,jmm h.ls hfresh,fun a=>?_,?_,?_,?_,?_,?_,?_⟩
 ·show q∈jg1 V.tn (jbs V.tl p.num) p.num (V.now+jau V.C st)↔_
  rw [hv,jo4 h.once htn,h.tl,h1]
  constructor
  ·rintro (⟨⟨k,k1,k2,rfl⟩,k3⟩|rfl)
   ·have hk:=h.kin k k1
    have e:k≠S.os.length:=by omega
    refine ⟨k,.inl k1,?_,?_⟩
    ·rw [hg k (by omega),if_neg e];exact k2
    ·rw [hg k (by omega),if_neg e]
   ·refine ⟨S.os.length,.inr rfl,?_,?_⟩
    ·rw [hg _ (by omega),if_pos rfl];show V.tn<o.untl S.C;rw [g6];exact htn
    ·rw [hg _ (by omega),if_pos rfl];show _=(o.untl S.C,_);rw [g6]
  ·rintro ⟨k,k1|rfl,k2,rfl⟩
   ·have hk:=h.kin k k1
    have e:k≠S.os.length:=by omega
    rw [hg k (by omega),if_neg e] at k2 ⊢
    exact .inl ⟨⟨k,k1,k2,rfl⟩,fun c=>e (by simp at c;omega)⟩
   ·right
    rw [hg _ (by omega),if_pos rfl]
    show (o.untl S.C,_)=_
    rw [g6]
 ·rw [hlen]
  rcases hk with hk|rfl
  ·have:=h.kin k hk;omega
  ·omega
 ·rw [hlen] at hk
  by_cases e:k=S.os.length
  ·exact .inr e
  ·rw [hg k hk,if_neg e] at hs
   exact .inl (h.live k (by omega) hs)
 ·show a∈V.ol++[p.to V st]↔_
  rw [List.mem_append,h.ol]
  constructor
  ·rintro (⟨k,k1,rfl⟩|k1)
   ·have hk:=h.kin k k1
    exact ⟨k,.inl k1,by rw [hg k (by omega),if_neg (by omega)]⟩
   ·have e:a=p.to V st:=by simpa using k1
    exact ⟨S.os.length,.inr rfl,by rw [hg _ (by omega),if_pos rfl,e];exact hp⟩
  ·rintro ⟨k,k1|rfl,rfl⟩
   ·have hk:=h.kin k k1
    rw [hg k (by omega),if_neg (by omega)]
    exact .inl ⟨k,k1,rfl⟩
   ·rw [hg _ (by omega),if_pos rfl]
    exact .inr (by rw [hp];simp)
 ·show jdb (if st=12 then jbl (p.num,0) 0 (if p.st=12 then jd0 (p.num,0) V.qt else V.qt) else if p.st=12 then jd0 (p.num,0) V.qt else V.qt) (S.os++[o])
  rw [h4,if_neg (show ¬ (0:Int)=12 by decide)]
  split
  ·next e=>rw [h1];exact qca h.turns o (by rw [g4];exact e)
  ·next e=>exact jvl h.turns o (by rw [g4];exact e)
 ·show jbz (if st=12 then jbl (-p.units,p.num) 0 (if p.st=12 then jd0 (-p.units,p.num) V.qz else V.qz) else if p.st=12 then jd0 (-p.units,p.num) V.qz else V.qz) (S.os++[o])
  rw [h4,if_neg (show ¬ (0:Int)=12 by decide)]
  split
  ·next e=>rw [h1,← g3];exact qbt h.sizes o (by rw [g4];exact e)
  ·next e=>exact jwq h.sizes o (by rw [g4];exact e)
 ·show (if st=13 then (if p.st=13 then V.held+-p.units else V.held)+p.units else if p.st=13 then V.held+-p.units else V.held)=ja4 (S.os++[o]) 13 0
  rw [jca,jnd,g4,g3,h4,h.held,if_neg (show ¬ (0:Int)=13 by decide)]
  split<;>omega
 ·show (if st=14 then (if p.st=14 then V.sold+-p.units else V.sold)+p.units else if p.st=14 then V.sold+-p.units else V.sold)=ja4 (S.os++[o]) 14 0
  rw [jca,jnd,g4,g3,h4,h.sold,if_neg (show ¬ (0:Int)=14 by decide)]
  split<;>omega
 ·show je4 (jnj (jnj V.lu p.cust p.st (-p.units)) p.cust st p.units) (jdf (S.os++[o]))
  have h0:jnj V.lu p.cust p.st (-p.units)=V.lu:=by rw [h4];unfold jnj;rw [if_neg (by unfold isL;omega)]
  rw [h0]
  have:=jzf h.lu o (by rw [g2];exact hc0)
  rw [g4,g3,g2] at this
  exact this
 ·intro a ha
  have ha':a∈S.os++[o]:=ha
  rcases List.mem_append.1 ha' with ha|ha
  ·exact h.cust a ha
  ·have e:a=o:=by simpa using ha
   rw [e,g2]
   exact hc0
theorem jqz {l:List Ent} (h:srt l):l.Nodup:=by
 unfold srt at h
 exact List.Pairwise.imp (R:=fun x y:Ent=>jac x.1 y.1=true) (S:=fun x y=>x≠y) (fun {a b} hab e=>jbr hab (by rw [e])) h
theorem jxv {Z:List Ent} {os:List Ord} (h:jbz Z os):Z.length<=os.length:=by
 have h1:=jb0 Z ((List.range os.length).map (fun i:Nat=>((-(os.getD i ja3).units,(i:Int)+1),(0:Int)))) (jqz h.1) (fun y hy=>by
  obtain ⟨i,hi,_,rfl⟩:=(h.2 y).1 hy
  exact List.mem_map.2 ⟨i,List.mem_range.2 hi,rfl⟩)
 simpa using h1
theorem jvd {Z:List Ent} {os:List Ord} (h:jdb Z os):Z.length<=os.length:=by
 have h1:=jb0 Z ((List.range os.length).map (fun i:Nat=>(((i:Int)+1,(0:Int)),(0:Int)))) (jqz h.1) (fun y hy=>by
  obtain ⟨i,hi,_,rfl⟩:=(h.2 y).1 hy
  exact List.mem_map.2 ⟨i,List.mem_range.2 hi,rfl⟩)
 simpa using h1
theorem jeh {S:Sal} (hI:salI S) (st c:Int):0<=ja4 S.os st c:=jcd st c (fun o ho=>by have:=(hI.units o ho).1;omega)
theorem jhi {S:Sal} (hI:salI S) {st c:Int} (hst:isL st) (hc:c≠0\/st≠12):ja4 S.os st c<=4294967296:=by
 have hn:∀ o∈S.os,0<=o.units:=fun o ho=>by have:=(hI.units o ho).1;omega
 have h13:=jeh hI 13 0
 have h14:=jeh hI 14 0
 have h0:=hI.stock
 have h1:=hI.cfg
 rcases hst with rfl|rfl|rfl
 ·exact hI.cap c (hc.resolve_right (by simp))
 ·have:=jld hn 13 c;omega
 ·have:=jld hn 14 c;omega
structure boundsV (V:PV) (S:Sal):Prop where
 held:0<=V.held/\V.held<=4294967296
 sold:0<=V.sold/\V.sold<=4294967296
 stock:0<=V.C.stock/\V.C.stock<=4294967296
 lu:V.lu.length<=12884901888
 qt:V.qt.length<=4294967296
 qz:V.qz.length<=4294967296
 tl:V.tl.length<=4294967296
 ol:V.ol.length<=4294967296
 un:∀ st c,isL st->c≠0->0<=jdf S.os st c/\jdf S.os st c<=4294967296
theorem relO.bounds (h:relO V S last K) (hI:salI S) (hl:S.os.length<=4294967296):boundsV V S:=by
 have h1:=jvd h.turns
 have h2:=jxv h.sizes
 have h3:=qax h.lu
 have h4:=h.tlen
 have h5:=h.olen
 refine ⟨?_,?_,?_,by omega,by omega,by omega,by omega,by omega,fun st c hst hc=>⟨jeh hI st c,jhi hI hst (.inl hc)⟩⟩
 ·rw [h.held];exact ⟨jeh hI 13 0,jhi hI (.inr (.inl rfl)) (.inr (by decide))⟩
 ·rw [h.sold];exact ⟨jeh hI 14 0,jhi hI (.inr (.inr rfl)) (.inr (by decide))⟩
 ·rw [h.C];exact ⟨hI.cfg.1,hI.cfg.2.1⟩
theorem qdy {L:List Ent} (hs:srt L) (c st d:Int) (hd:d≠0):(jnj L c st d).length<=L.length+1:=by
 unfold jnj
 split
 ·have:=ju9 hs (c:=c) (st:=st) (d:=d) (fun _=>hd)
  split at this
  ·omega
  ·split at this<;>omega
 ·omega
structure relA (an:Int) (atl:List (Int × Int)) (att:List Ent) (al:List PAns) (keep:Int) (ansL:List Ans):Prop where
 once:jcz atl
 ls:Listed PAns.t att al
 reqs:∀ j,j<ansL.length->an<(ansL.getD j jf6).at'+keep->∃ a∈al,a.t=(ansL.getD j jf6).token/\isB a.k a.t a.c a.u a.o=true/\(ansL.getD j jf6).frame=strOfNums (jao a.k (jay a.k a.t a.c a.u a.o))/\(ansL.getD j jf6).rep=⟨a.rk,a.ro,a.rc,a.ru⟩
 uniq:∀ i j,i<ansL.length->j<ansL.length->an<(ansL.getD i jf6).at'+keep->an<(ansL.getD j jf6).at'+keep->(ansL.getD i jf6).token=(ansL.getD j jf6).token->i=j
 al:∀ a∈al,∃ j,j<ansL.length/\an<(ansL.getD j jf6).at'+keep/\a.t=(ansL.getD j jf6).token
 tl:∀ p,p∈atl↔∃ j,j<ansL.length/\an<(ansL.getD j jf6).at'+keep/\p=((ansL.getD j jf6).at'+keep,(ansL.getD j jf6).token)
end
end
def Ord.alive (o:Ord):Prop:=o.state=12\/o.state=13
def Sal.knows (S:Sal) (i:Nat):Prop:=i<S.os.length/\((S.os.getD i ja3).alive\/S.now<(S.os.getD i ja3).untl S.C)
theorem jdk {C:Cfg} {o:Ord} (h:o.alive):o.untl C=o.upto:=if_pos h
theorem jjl {C:Cfg} {o:Ord} (h:¬ o.alive):o.untl C=o.ended+C.keep:=if_neg h
theorem qac {S:Sal} {i:Nat} {o:Ord} (hk:S.knows i) (ho:o.alive\/S.now<o.untl S.C):(S.put i o).knows=S.knows:=by
 funext k
 have hg:(S.put i o).os.getD k ja3=if k=i then o else S.os.getD k ja3:=jar o hk.1
 have hl:(S.put i o).os.length=S.os.length:=by show (S.os.set i o).length=_;simp
 unfold Sal.knows
 rw [hg,hl]
 by_cases e:k=i
 ·rw [if_pos e,e]
  exact propext ⟨fun _=>hk,fun _=>⟨hk.1,ho⟩⟩
 ·rw [if_neg e]
  rfl
theorem jvx {S:Sal} {o:Ord} (ho:o.alive):(S.more o).knows=fun k=>S.knows k\/k=S.os.length:=by
 funext k
 have hl:(S.more o).os.length=S.os.length+1:=by show (S.os++[o]).length=_;simp
 unfold Sal.knows
 rw [hl]
 by_cases hk:k<S.os.length+1
 ·have hg:(S.more o).os.getD k ja3=if k=S.os.length then o else S.os.getD k ja3:=jaw hk
  rw [hg]
  by_cases e:k=S.os.length
  ·rw [if_pos e]
   exact propext ⟨fun _=>.inr e,fun _=>⟨hk,.inl ho⟩⟩
  ·rw [if_neg e]
   exact propext ⟨fun h=>.inl ⟨by omega,h.2⟩,fun h=>h.elim (fun h=>⟨hk,h.2⟩) (fun h=>absurd h e)⟩
 ·exact propext ⟨fun h=>absurd h.1 hk,fun h=>h.elim (fun h=>by have:=h.1;omega) (fun h=>by omega)⟩
def Sal.stable (S:Sal):Prop:=∀ q qs,ja5 S.os=q :: qs->S.free<(S.os.getD q ja3).units
theorem jkx {S:Sal} (h:S.stable):S.promote=S:=by
 cases hq:ja5 S.os with
 | nil=>exact jmd hq
 | cons q qs=>exact jkn hq (h q qs hq)
theorem jgz:∀ (n:Nat) (S:Sal),(ja5 S.os).length<=n->(jak n S).stable
 | 0,S,h=>by
   have:ja5 S.os=[]:=List.length_eq_zero_iff.1 (by omega)
   intro q qs hq
   rw [show jak 0 S=S from rfl,this] at hq
   cases hq
 | n+1,S,h=>by
   unfold jak
   split
   ·next hq=>intro q qs hq';rw [hq] at hq';cases hq'
   ·next q qs hq =>
    split
    ·next hf =>
     intro q' qs' hq'
     rw [hq] at hq'
     simp only [List.cons.injEq] at hq'
     rw [← hq'.1]
     exact hf
    ·refine jgz n _ ?_
     rw [jg6 hq]
     rw [hq] at h
     simpa using h
theorem jhs (S:Sal):S.promote.stable:=jgz _ S (Nat.le_refl _)
theorem jgu {Q:Ord->Prop} (now:Int) (C:Cfg) (hq:∀ o c,Q o->o.state=12->Q { o with state:=13,cents:=c,upto:=now+C.lease }):∀ (n:Nat) (S:Sal),S.now=now->S.C=C->(∀ o∈S.os,Q o)->∀ o∈(jak n S).os,Q o
 | 0,S,_,_,h=>h
 | n+1,S,hn,hC,h=>by
   unfold jak
   split
   ·exact h
   ·next q qs hqq =>
    split
    ·exact h
    ·obtain ⟨_,hl,hs⟩:=jbh hqq ja3 (by decide)
     refine jgu now C hq n _ hn hC (fun o ho=>?_)
     rcases jfb (show o∈S.os.set q _ from ho) with rfl|ho
     ·rw [hn,hC]
      exact hq _ _ (h _ (jal hl)) hs
     ·exact h o ho
theorem jhq {Q:Ord->Prop} (S:Sal) (hq:∀ o c,Q o->o.state=12->Q { o with state:=13,cents:=c,upto:=S.now+S.C.lease }) (h:∀ o∈S.os,Q o):∀ o∈S.promote.os,Q o:=jgu S.now S.C hq _ S rfl rfl h
theorem jdh {os:List Ord} {o:Ord} (h:o∈os):∃ i,i<os.length/\os.getD i ja3=o:=by
 obtain ⟨i,hi,rfl⟩:=List.getElem_of_mem h
 exact ⟨i,hi,by simp [List.getD,List.getElem?_eq_getElem hi]⟩
theorem jh1 (S:Sal) (st en:Int):∀ n,n<=S.os.length->∀ k,(jbq S st en n).os.getD k ja3=if k<n/\(S.os.getD k ja3).state=st/\(S.os.getD k ja3).upto=S.now then { S.os.getD k ja3 with state:=en,ended:=S.now } else S.os.getD k ja3
 | 0,_,k=>by rw [if_neg (by omega)];rfl
 | n+1,hn,k=>by
   have ih:=jh1 S st en n (by omega)
   obtain ⟨_,hnow,_⟩:=jdp S st en n
   have hi:=ih n
   rw [if_neg (by omega)] at hi
   unfold jbq
   rw [hi]
   by_cases hc:(S.os.getD n ja3).state=st/\(S.os.getD n ja3).upto=S.now
   ·rw [if_pos hc]
    have hl:n<(jbq S st en n).os.length:=by rw [jc5];omega
    have hg:((jbq S st en n).ends n en).os.getD k ja3=if k=n then { (jbq S st en n).os.getD n ja3 with state:=en,ended:=(jbq S st en n).now } else (jbq S st en n).os.getD k ja3:=jar _ hl
    rw [hg,hi,hnow]
    by_cases e:k=n
    ·rw [if_pos e,if_pos ⟨by omega,by rw [e];exact hc⟩,e]
    ·rw [if_neg e,ih k]
     by_cases hk:k<n
     ·simp only [hk,show k<n+1 by omega,true_and]
     ·rw [if_neg (fun c=>hk c.1),if_neg (fun c=>e (by omega))]
   ·rw [if_neg hc,ih k]
    by_cases hk:k<n
    ·simp only [hk,show k<n+1 by omega,true_and]
    ·rw [if_neg (fun c=>hk c.1)]
     by_cases e:k=n
     ·rw [if_neg (fun c=>hc (by rw [← e];exact c.2))]
     ·rw [if_neg (fun c=>e (by omega))]
theorem jui {a b:List Ord} (hl:a.length=b.length) (h:∀ k,k<a.length->a.getD k ja3=b.getD k ja3):a=b:=by
 apply List.ext_getElem hl
 intro k h1 h2
 have:=h k h1
 simpa [List.getD,List.getElem?_eq_getElem h1,List.getElem?_eq_getElem h2] using this
theorem jzy {a b:Sal} (h1:a.C=b.C) (h2:a.now=b.now) (h3:a.os=b.os) (h4:a.ansL=b.ansL):a=b:=by
 cases a;cases b;simp_all
def jgl (S:Sal) (st en:Int) (ds:List Nat):Sal:=ds.foldl (fun S k=>if (S.os.getD k ja3).state=st then S.ends k en else S) S
theorem jrr (S:Sal) (st en:Int) (ds:List Nat) (k:Nat):jgl S st en (ds++[k])=if ((jgl S st en ds).os.getD k ja3).state=st then (jgl S st en ds).ends k en else jgl S st en ds:=by
 unfold jgl
 rw [List.foldl_append]
 rfl
theorem jln (st en:Int):∀ (ds:List Nat) (S:Sal),(jgl S st en ds).C=S.C/\(jgl S st en ds).now=S.now/\(jgl S st en ds).ansL=S.ansL/\(jgl S st en ds).os.length=S.os.length
 | [],S=>⟨rfl,rfl,rfl,rfl⟩
 | d :: ds,S=>by
   have e:jgl S st en (d :: ds)=jgl (if (S.os.getD d ja3).state=st then S.ends d en else S) st en ds:=rfl
   rw [e]
   obtain ⟨a,b,c,d'⟩:=jln st en ds (if (S.os.getD d ja3).state=st then S.ends d en else S)
   rw [a,b,c,d']
   split
   ·exact ⟨rfl,rfl,rfl,jd6 S d en⟩
   ·exact ⟨rfl,rfl,rfl,rfl⟩
theorem jpc {st en:Int} (hne:en≠st):∀ (ds:List Nat) (S:Sal),(∀ d∈ds,d<S.os.length)->∀ k,(jgl S st en ds).os.getD k ja3=if k∈ds/\(S.os.getD k ja3).state=st then { S.os.getD k ja3 with state:=en,ended:=S.now } else S.os.getD k ja3
 | [],S,_,k=>by rw [if_neg (by simp)];rfl
 | d :: ds,S,h,k=>by
   have e:jgl S st en (d :: ds)=jgl (if (S.os.getD d ja3).state=st then S.ends d en else S) st en ds:=rfl
   have hd:=h d List.mem_cons_self
   have h':∀ x∈ds,x<S.os.length:=fun x hx=>h x (List.mem_cons_of_mem _ hx)
   rw [e]
   by_cases hs:(S.os.getD d ja3).state=st
   ·rw [if_pos hs,jpc hne ds _ (fun x hx=>by rw [jd6];exact h' x hx) k]
    have hg:(S.ends d en).os.getD k ja3=if k=d then { S.os.getD d ja3 with state:=en,ended:=S.now } else S.os.getD k ja3:=jar _ hd
    rw [hg]
    by_cases ek:k=d
    ·subst ek
     rw [if_pos rfl,if_neg (fun c=>hne c.2),if_pos ⟨List.mem_cons_self,hs⟩]
    ·rw [if_neg ek]
     have hi:(k∈d :: ds)↔k∈ds:=by simp [ek]
     by_cases hm:k∈ds/\(S.os.getD k ja3).state=st
     ·rw [if_pos hm,if_pos ⟨hi.2 hm.1,hm.2⟩]
      rfl
     ·rw [if_neg hm,if_neg (fun c=>hm ⟨hi.1 c.1,c.2⟩)]
   ·rw [if_neg hs,jpc hne ds S h' k]
    by_cases ek:k=d
    ·subst ek
     rw [if_neg (fun c=>hs c.2),if_neg (fun c=>hs c.2)]
    ·have hi:(k∈d :: ds)↔k∈ds:=by simp [ek]
     by_cases hm:k∈ds/\(S.os.getD k ja3).state=st
     ·rw [if_pos hm,if_pos ⟨hi.2 hm.1,hm.2⟩]
     ·rw [if_neg hm,if_neg (fun c=>hm ⟨hi.1 c.1,c.2⟩)]
theorem jrf {S:Sal} {st en:Int} (hne:en≠st) {ds:List Nat} (hd:∀ d∈ds,d<S.os.length) (h1:∀ k,k<S.os.length->(S.os.getD k ja3).state=st->(k∈ds↔(S.os.getD k ja3).upto=S.now)):jgl S st en ds=jbq S st en S.os.length:=by
 obtain ⟨a,b,c,d⟩:=jln st en ds S
 obtain ⟨a',b',c'⟩:=jdp S st en S.os.length
 refine jzy (a.trans a'.symm) (b.trans b'.symm) (jui (d.trans (jc5 S st en _).symm) (fun k hk=>?_)) (c.trans c'.symm)
 rw [d] at hk
 rw [jpc hne ds S hd,jh1 S st en _ (Nat.le_refl _)]
 by_cases hs:(S.os.getD k ja3).state=st
 ·have:=h1 k hk hs
  by_cases hm:k∈ds
  ·rw [if_pos ⟨hm,hs⟩,if_pos ⟨hk,hs,this.1 hm⟩]
  ·rw [if_neg (fun c=>hm c.1),if_neg (fun c=>hm (this.2 c.2.2))]
 ·rw [if_neg (fun c=>hs c.2),if_neg (fun c=>hs c.2.1)]
structure restS (S:Sal):Prop where
 fut:∀ o∈S.os,o.alive->S.now<o.upto
 stable:S.stable
 lease:1<=S.C.lease/\S.C.lease<=4294967296
 wait:1<=S.C.wait/\S.C.wait<=4294967296
 keep:1<=S.C.keep/\S.C.keep<=4294967296
 tokens:1<=S.C.tokens/\S.C.tokens<=4294967296
 queue:1<=S.C.queue/\S.C.queue<=4294967296
theorem jls (os:List Ord) (to:Int) (h0:∀ o∈os,o.alive->0<=o.upto):∀ k,k<=os.length->∀ i,i<k->(os.getD i ja3).alive->(os.getD i ja3).upto<=to->0<=jp5 os to k/\jp5 os to k<=(os.getD i ja3).upto
 | 0,_,i,h,_,_=>by omega
 | k+1,hk,i,h,ha,hu=>by
   unfold jp5
   have hk':(os.getD k ja3)∈os:=jal (by omega)
   by_cases hc:((os.getD k ja3).state=13\/(os.getD k ja3).state=12)/\(os.getD k ja3).upto<=to/\(jp5 os to k<0\/(os.getD k ja3).upto<jp5 os to k)
   ·rw [if_pos hc]
    refine ⟨h0 _ hk' hc.1.symm,?_⟩
    by_cases e:i=k
    ·rw [e];omega
    ·have:=jls os to h0 k (by omega) i (by omega) ha hu
     omega
   ·rw [if_neg hc]
    by_cases e:i=k
    ·subst e
     have h1:¬ (jp5 os to i<0\/(os.getD i ja3).upto<jp5 os to i):=fun c=>hc ⟨ha.symm,hu,c⟩
     omega
    ·exact jls os to h0 k (by omega) i (by omega) ha hu
theorem qco {S:Sal} {to:Int} (h:∀ o∈S.os,o.alive->to<o.upto):S.due to<0:=by
 refine Classical.byContradiction fun hn=>?_
 obtain ⟨i,hi,hs,hu,hle⟩:=ji6 S.os to S.os.length (Nat.le_refl _) (by unfold Sal.due at hn;omega)
 have:=h _ (jal hi) hs.symm
 omega
theorem job {S:Sal} {st en:Int} (h:∀ o∈S.os,o.state=st->o.upto≠S.now):jbq S st en S.os.length=S:=by
 obtain ⟨a',b',c'⟩:=jdp S st en S.os.length
 refine jzy a' b' (jui (jc5 S st en _) (fun k hk=>?_)) c'
 rw [jc5] at hk
 rw [jh1 S st en _ (Nat.le_refl _),if_neg]
 rintro ⟨_,h1,h2⟩
 exact h _ (jal hk) h1 h2
theorem jxp:∀ (n:Nat) (S:Sal) (t to:Int),jdw n { S with now:=t } to=jdw n S to
 | 0,_,_,_=>rfl
 | n+1,S,t,to=>by
   unfold jdw
   have e1:({ S with now:=t }:Sal).due to=S.due to:=rfl
   rw [e1]
   split
   ·rfl
   ·rfl
theorem jwf (S:Sal) (t to:Int):({ S with now:=t }:Sal).tickTo to=S.tickTo to:=jxp _ S t to
theorem jom {S:Sal} {t:Int} (hs:S.stable) (h:∀ o∈S.os,o.alive->t<o.upto):S.round t={ S with now:=t }:=by
 have h1:({ S with now:=t }:Sal).past 13 15={ S with now:=t }:=by
  unfold Sal.past
  rw [job (S:={ S with now:=t }) (fun o ho e c=>by have:=h o ho (.inr e);have c':o.upto=t:=c;omega)]
  exact jkx (S:={ S with now:=t }) hs
 unfold Sal.round
 rw [h1]
 unfold Sal.past
 rw [job (S:={ S with now:=t }) (fun o ho e c=>by have:=h o ho (.inl e);have c':o.upto=t:=c;omega)]
 exact jkx (S:={ S with now:=t }) hs
theorem jt8 {S:Sal} (h:restS S) (h0:0<=S.now) {t to:Int} (ht:t<=to) (hm:∀ o∈S.os,o.alive->t<=o.upto):S.tickTo to=(S.round t).tickTo to:=by
 by_cases hx:∃ o∈S.os,o.alive/\o.upto=t
 ·obtain ⟨o,ho,ha,hu⟩:=hx
  obtain ⟨i,hi,rfl⟩:=jdh ho
  have hp:∀ o∈S.os,o.alive->0<=o.upto:=fun o ho ha=>by have:=h.fut o ho ha;omega
  obtain ⟨d1,d2⟩:=jls S.os to hp S.os.length (Nat.le_refl _) i hi ha (by omega)
  obtain ⟨k,hk,hs,hku,_⟩:=ji6 S.os to S.os.length (Nat.le_refl _) d1
  have:=hm _ (jal hk) hs.symm
  have e:S.due to=t:=by unfold Sal.due;omega
  rw [qer (by rw [e];have:=h.fut _ ho ha;omega),e]
 ·rw [jom h.stable (fun o ho ha=>by
   have:=hm o ho ha
   have:o.upto≠t:=fun e=>hx ⟨o,ho,ha,e⟩
   omega)]
  exact (jwf S t to).symm
theorem jlu {S:Sal} {st en:Int} {Q:Ord->Prop} (hp:∀ o∈S.os,¬ (o.state=st/\o.upto=S.now)->Q o) (he:∀ o∈S.os,o.state=st->o.upto=S.now->Q { o with state:=en,ended:=S.now }) (hq:∀ o c,Q o->o.state=12->Q { o with state:=13,cents:=c,upto:=S.now+S.C.lease }):∀ o∈(S.past st en).os,Q o:=by
 obtain ⟨hC,hn,_⟩:=jdp S st en S.os.length
 unfold Sal.past
 refine jhq _ (by rw [hC,hn];exact hq) (fun o ho=>?_)
 obtain ⟨i,hi,rfl⟩:=jdh ho
 rw [jc5] at hi
 rw [jh1 S st en _ (Nat.le_refl _)]
 by_cases hc:i<S.os.length/\(S.os.getD i ja3).state=st/\(S.os.getD i ja3).upto=S.now
 ·rw [if_pos hc]
  exact he _ (jal hi) hc.2.1 hc.2.2
 ·rw [if_neg hc]
  exact hp _ (jal hi) (fun c=>hc ⟨hi,c⟩)
theorem jxe {S:Sal} {t:Int} (hl:1<=S.C.lease) (h:∀ o∈S.os,o.alive->t<=o.upto):∀ o∈(S.round t).os,o.alive->t<o.upto:=by
 have h1:∀ o∈(({ S with now:=t }:Sal).past 13 15).os,(o.state=12->t<=o.upto)/\(o.state=13->t<o.upto):=by
  refine jlu (fun o ho hc=>⟨fun e=>h o ho (.inl e),fun e=>?_⟩) (fun o ho hs hu=>⟨fun e=>?_,fun e=>?_⟩) (fun o c hq hs=>⟨fun e=>?_,fun _=>?_⟩)
  ·have:=h o ho (.inr e)
   have:o.upto≠t:=fun c=>hc ⟨e,c⟩
   omega
  ·exact absurd e (show ¬ (15:Int)=12 by decide)
  ·exact absurd e (show ¬ (15:Int)=13 by decide)
  ·exact absurd e (show ¬ (13:Int)=12 by decide)
  ·show t<t+S.C.lease;omega
 obtain ⟨hC,hn,_⟩:=jf7 ({ S with now:=t }:Sal) 13 15
 unfold Sal.round
 refine jlu (Q:=fun o=>o.alive->t<o.upto) (fun o ho hc ha=>?_) (fun o ho hs hu ha=>?_) (fun o c hq hs ha=>?_)
 ·obtain ⟨q1,q2⟩:=h1 o ho
  rcases ha with ha|ha
  ·have:=q1 ha
   have:o.upto≠t:=fun c=>hc ⟨ha,by rw [hn];exact c⟩
   omega
  ·exact q2 ha
 ·rcases ha with ha|ha
  ·exact absurd ha (show ¬ (17:Int)=12 by decide)
  ·exact absurd ha (show ¬ (17:Int)=13 by decide)
 ·show t<_+_
  rw [hC,hn]
  show t<t+S.C.lease
  omega
theorem je6 (S:Sal) (t:Int):(S.round t).C=S.C/\(S.round t).now=t/\(S.round t).ansL=S.ansL/\(S.round t).os.length=S.os.length:=by
 obtain ⟨a,b,c⟩:=jf7 ({ S with now:=t }:Sal) 13 15
 obtain ⟨d,e,f⟩:=jf7 (({ S with now:=t }:Sal).past 13 15) 12 17
 exact ⟨d.trans a,e.trans b,f.trans c,(jjc _ 12 17).trans (jjc _ 13 15)⟩
theorem joh {S:Sal} (h:restS S) {t:Int} (hm:∀ o∈S.os,o.alive->t<=o.upto):restS (S.round t):=by
 obtain ⟨a,b,c,d⟩:=je6 S t
 refine ⟨by rw [b];exact jxe h.lease.1 hm,jhs _,?_,?_,?_,?_,?_⟩
 ·rw [a];exact h.lease
 ·rw [a];exact h.wait
 ·rw [a];exact h.keep
 ·rw [a];exact h.tokens
 ·rw [a];exact h.queue
theorem jo7 (os:List Ord) (o:Ord):ja5 (os++[o])=if o.state=12 then ja5 os++[os.length] else ja5 os:=by
 have key:∀ k,k<=os.length->jam (os++[o]) k=jam os k:=by
  intro k
  induction k with
  | zero=>intro _;rfl
  | succ k ih =>
    intro hk
    have hg:(os++[o]).getD k ja3=os.getD k ja3:=by rw [jaw (by omega),if_neg (by omega)]
    unfold jam
    rw [hg,ih (by omega)]
 unfold ja5
 rw [List.length_append,List.length_singleton]
 have hg:(os++[o]).getD os.length ja3=o:=by rw [jaw (by omega),if_pos rfl]
 rw [jam,hg,key _ (Nat.le_refl _)]
section
structure restP (S:Sal):Prop where
 R:restS S
 qlen:((ja5 S.os).length:Int)<=S.C.queue
 alen:(S.answers:Int)<=S.C.tokens
theorem jsb {S:Sal} (hl:1<=S.C.lease) (h:∀ o∈S.os,o.alive->S.now<o.upto):∀ o∈S.promote.os,o.alive->S.now<o.upto :=
 jhq (Q:=fun o=>o.alive->S.now<o.upto) S (fun o c _ _ _=>by show S.now<S.now+S.C.lease;omega) h
theorem jud {S:Sal} {i:Nat} {st:Int} (hst:st≠12/\st≠13) (h:∀ o∈S.os,o.alive->S.now<o.upto):∀ o∈(S.ends i st).os,o.alive->S.now<o.upto:=by
 intro o ho ha
 rcases jfb (show o∈S.os.set i _ from ho) with rfl|ho
 ·exact absurd ha (fun c=>c.elim hst.1 hst.2)
 ·exact h o ho ha
theorem jlk {S:Sal} (h:∀ o∈S.os,o.alive->S.now<o.upto):∀ o∈S.drained.os,o.alive->S.now<o.upto:=by
 intro o ho ha
 obtain ⟨p,hp,rfl⟩:=List.mem_map.1 (show o∈S.os.map (dry S.left S.now) from ho)
 unfold dry at ha ⊢
 split
 ·next hc=>rw [if_pos hc] at ha;exact absurd ha (fun c=>c.elim (show ¬ (18:Int)=12 by decide) (show ¬ (18:Int)=13 by decide))
 ·next hc=>rw [if_neg hc] at ha;exact h p hp ha
theorem jj5:∀ (n:Nat) (S:Sal),(ja5 (jak n S).os).length<=(ja5 S.os).length
 | 0,_=>Nat.le_refl _
 | n+1,S=>by
   unfold jak
   split
   ·exact Nat.le_refl _
   ·next q qs hq =>
    split
    ·exact Nat.le_refl _
    ·refine Nat.le_trans (jj5 n _) ?_
     rw [jg6 hq,hq]
     simp
theorem jkw (S:Sal):(ja5 S.promote.os).length<=(ja5 S.os).length:=jj5 _ S
theorem jj8 {S:Sal} {i:Nat} (hi:i<S.os.length) {st:Int} (hst:st≠12):(ja5 (S.ends i st).os).length<=(ja5 S.os).length:=by
 show (ja5 (S.os.set i _)).length<=_
 rw [jj2 _ hi hst]
 exact List.length_filter_le _ _
theorem jhu:∀ (qs:List Nat) (S:Sal),(∀ q∈qs,q<S.os.length)->(ja5 (jd2 S qs).os).length<=(ja5 S.os).length
 | [],_,_=>Nat.le_refl _
 | q :: qs,S,h=>by
   have e:jd2 S (q :: qs)=jd2 (if S.left<(S.os.getD q ja3).units then S.ends q 18 else S) qs:=rfl
   rw [e]
   split
   ·exact Nat.le_trans (jhu qs _ (fun x hx=>by rw [jd6];exact h x (List.mem_cons_of_mem _ hx))) (jj8 (h q List.mem_cons_self) (by decide))
   ·exact jhu qs _ (fun x hx=>h x (List.mem_cons_of_mem _ hx))
theorem jkg (S:Sal):(ja5 S.drained.os).length<=(ja5 S.os).length:=by
 rw [← jbj]
 exact jhu _ S (fun q hq=>jf9 S.os _ q hq)
theorem jfk {S T:Sal} (h:restP S) (hC:T.C=S.C) (hn:T.now=S.now) (ha:T.ansL=S.ansL) (hf:∀ o∈T.os,o.alive->T.now<o.upto) (hq:(ja5 T.os).length<=(ja5 S.os).length):restP T.promote:=by
 obtain ⟨a,b,c⟩:=jeo T
 have hR:=h.R
 refine ⟨⟨?_,jhs T,?_,?_,?_,?_,?_⟩,?_,?_⟩
 ·rw [b];exact jsb (by rw [hC];exact hR.lease.1) hf
 ·rw [a,hC];exact hR.lease
 ·rw [a,hC];exact hR.wait
 ·rw [a,hC];exact hR.keep
 ·rw [a,hC];exact hR.tokens
 ·rw [a,hC];exact hR.queue
 ·have h1:=jkw T
  have h2:=h.qlen
  rw [a,hC]
  omega
 ·have:T.promote.answers=S.answers:=by unfold Sal.answers Sal.remem;rw [c,ha,b,hn,a,hC]
  rw [this,a,hC]
  exact h.alen
theorem jpx {S:Sal} (h:restP S) (r:Req):restP (S.confirm r).2:=by
 unfold Sal.confirm
 split
 ·exact h
 ·next i hf =>
  split
  ·exact h
  ·by_cases hi:i<S.os.length
   ·have hl:=hi
    obtain ⟨d,e,f⟩:=jfd (ja5 (S.ends i 14).os) (S.ends i 14)
    refine jfk h d e f ?_ ?_
    ·rw [e,jbj]
     exact jlk (S:=S.ends i 14) (jud (by decide) h.R.fut)
    ·rw [jbj]
     exact Nat.le_trans (jkg _) (jj8 hl (by decide))
   ·have e1:S.ends i 14=S:=by
     unfold Sal.ends Sal.put
     rw [List.set_eq_of_length_le (Nat.le_of_not_lt hi)]
    obtain ⟨d,e,f⟩:=jfd (ja5 (S.ends i 14).os) (S.ends i 14)
    refine jfk h d e f ?_ ?_
    ·rw [e,jbj,e1]
     exact jlk h.R.fut
    ·rw [jbj,e1]
     exact jkg _
theorem jsm {S:Sal} (h:restP S) (r:Req):restP (S.cancel r).2:=by
 unfold Sal.cancel
 split
 ·exact h
 ·next i hf =>
  split
  ·exact h
  ·by_cases hi:i<S.os.length
   ·exact jfk (T:=S.ends i 16) h rfl rfl rfl (jud (by decide) h.R.fut) (jj8 hi (by decide))
   ·have e1:S.ends i 16=S:=by
     unfold Sal.ends Sal.put
     rw [List.set_eq_of_length_le (Nat.le_of_not_lt hi)]
    rw [e1]
    exact jfk (T:=S) h rfl rfl rfl h.R.fut (Nat.le_refl _)
theorem qav {S:Sal} (h:restP S) (r:Req):restP (S.ask r).2:=by
 have hR:=h.R
 unfold Sal.ask
 split
 ·exact h
 split
 ·exact h
 split
 ·exact h
 split
 ·next hq =>
  obtain ⟨e1,e2⟩:=jcw S r.cust r.units
  show restP ((S.more ⟨r.cust,r.units,0,0,0,0⟩).holds S.os.length)
  rw [e1,e2]
  have hqs:ja5 (S.more ⟨r.cust,r.units,13,S.price,S.now+S.C.lease,0⟩).os=[]:=by
   show ja5 (S.os++[_])=_
   rw [jo7,if_neg (show ¬ (13:Int)=12 by decide)]
   exact hq.1
  refine ⟨⟨fun o ho ha=>?_,fun q qs c=>(by rw [hqs] at c;cases c),hR.lease,hR.wait,hR.keep,hR.tokens,hR.queue⟩,?_,h.alen⟩
  ·rcases List.mem_append.1 (show o∈S.os++[_] from ho) with ho|ho
   ·exact hR.fut o ho ha
   ·have e:o=⟨r.cust,r.units,13,S.price,S.now+S.C.lease,0⟩:=by simpa using ho
    rw [e]
    show S.now<S.now+S.C.lease
    have:=hR.lease.1
    omega
  ·rw [hqs]
   have:=hR.queue.1
   show ((0:Nat):Int)<=S.C.queue
   omega
 split
 ·exact h
 ·next c1 c2 c3 c4 c5 =>
  have hqs:ja5 (S.more ⟨r.cust,r.units,12,0,S.now+S.C.wait,0⟩).os=ja5 S.os++[S.os.length]:=by
   show ja5 (S.os++[_])=_
   rw [jo7,if_pos rfl]
  have hfree:(S.more ⟨r.cust,r.units,12,0,S.now+S.C.wait,0⟩).free=S.free:=by
   unfold Sal.free Sal.left
   show S.C.stock - ja4 (S.os++[_]) 14 0 - ja4 (S.os++[_]) 13 0=_
   rw [jca,jca,jnd,jnd,if_neg (show ¬ (12:Int)=14 by decide),if_neg (show ¬ (12:Int)=13 by decide)]
   omega
  refine ⟨⟨fun o ho ha=>?_,fun q qs c=>?_,hR.lease,hR.wait,hR.keep,hR.tokens,hR.queue⟩,?_,h.alen⟩
  ·rcases List.mem_append.1 (show o∈S.os++[_] from ho) with ho|ho
   ·exact hR.fut o ho ha
   ·have e:o=⟨r.cust,r.units,12,0,S.now+S.C.wait,0⟩:=by simpa using ho
    rw [e]
    show S.now<S.now+S.C.wait
    have:=hR.wait.1
    omega
  ·rw [hfree]
   rw [hqs] at c
   cases hq:ja5 S.os with
   | nil =>
     rw [hq] at c
     simp at c
     rw [← c.1]
     show S.free<((S.os++[_]).getD S.os.length ja3).units
     rw [jaw (by omega),if_pos rfl]
     show S.free<r.units
     have:¬ r.units<=S.free:=fun d=>c4 ⟨hq,d⟩
     omega
   | cons q' qs' =>
     rw [hq] at c
     simp at c
     rw [← c.1]
     obtain ⟨_,hl,_⟩:=jbh hq ja3 (by decide)
     show S.free<((S.os++[_]).getD q' ja3).units
     rw [jaw (by omega),if_neg (by omega)]
     exact hR.stable q' qs' hq
  ·rw [hqs]
   have:=h.qlen
   show (((ja5 S.os++[S.os.length]).length:Nat):Int)<=S.C.queue
   rw [List.length_append]
   simp
   omega
theorem jzz {S:Sal} (h:restP S) (r:Req):restP (S.doS r).2:=by
 unfold Sal.doS
 split
 ·exact qav h r
 split
 ·exact jpx h r
 ·exact jsm h r
theorem jsq {a b:List Int} (ha:∀ x∈a,0<=x/\x<256) (hb:∀ x∈b,0<=x/\x<256) (h:strOfNums a=strOfNums b):a=b:=by
 refine juk a b ha hb ?_
 have:=congrArg (fun s:ByteArray=>s.data.toList) h
 simpa [strOfNums] using this
section
variable {an:Int} {atl:List (Int × Int)} {att:List Ent} {al:List PAns} {keep:Int} {ansL:List Ans}
theorem relA.count (h:relA an atl att al keep ansL):al.length=(ansL.filter (fun a=>decide (an<a.at'+keep))).length:=by
 have mem:∀ t,t∈(ansL.filter (fun a=>decide (an<a.at'+keep))).map Ans.token↔∃ j,j<ansL.length/\an<(ansL.getD j jf6).at'+keep/\t=(ansL.getD j jf6).token:=by
  intro t
  rw [List.mem_map]
  constructor
  ·rintro ⟨a,ha,rfl⟩
   obtain ⟨h1,h2⟩:=List.mem_filter.1 ha
   obtain ⟨j,hj,rfl⟩:=List.getElem_of_mem h1
   have e:ansL.getD j jf6=ansL[j]:=by simp [List.getD,List.getElem?_eq_getElem hj]
   exact ⟨j,hj,by rw [e];simpa using h2,by rw [e]⟩
  ·rintro ⟨j,hj,h2,rfl⟩
   have e:ansL.getD j jf6=ansL[j]:=by simp [List.getD,List.getElem?_eq_getElem hj]
   exact ⟨ansL.getD j jf6,List.mem_filter.2 ⟨by rw [e];exact List.getElem_mem hj,by simpa using h2⟩,rfl⟩
 have n2:((ansL.filter (fun a=>decide (an<a.at'+keep))).map Ans.token).Nodup:=by
  have key:∀ (l:List Ans),(∀ i j,i<l.length->j<l.length->an<(l.getD i jf6).at'+keep->an<(l.getD j jf6).at'+keep->(l.getD i jf6).token=(l.getD j jf6).token->i=j)->((l.filter (fun a=>decide (an<a.at'+keep))).map Ans.token).Nodup:=by
   intro l
   induction l with
   | nil=>intro _;simp
   | cons a l ih =>
     intro hu
     have ihl:=ih (fun i j hi hj h1 h2 h3=>by
      have:=hu (i+1) (j+1) (by simpa using hi) (by simpa using hj) h1 h2 h3
      omega)
     rw [List.filter_cons]
     split
     ·next ha =>
      rw [List.map_cons,List.nodup_cons]
      refine ⟨fun hm=>?_,ihl⟩
      obtain ⟨b,hb,e⟩:=List.mem_map.1 hm
      obtain ⟨h1,h2⟩:=List.mem_filter.1 hb
      obtain ⟨j,hj,rfl⟩:=List.getElem_of_mem h1
      have e2:l.getD j jf6=l[j]:=by simp [List.getD,List.getElem?_eq_getElem hj]
      have:=hu 0 (j+1) (by simp) (by simpa using hj) (by simpa using ha) (by show an<(l.getD j jf6).at'+keep;rw [e2];simpa using h2) (by show a.token=(l.getD j jf6).token;rw [e2];exact e.symm)
      omega
     ·exact ihl
  exact key ansL h.uniq
 have l1:=jb0 (al.map PAns.t) _ h.ls.once (fun t ht=>(mem t).2 (by
  obtain ⟨a,ha,rfl⟩:=List.mem_map.1 ht
  obtain ⟨j,a1,a2,a3⟩:=h.al a ha
  exact ⟨j,a1,a2,a3⟩))
 have l2:=jb0 _ (al.map PAns.t) n2 (fun t ht=>by
  obtain ⟨j,a1,a2,rfl⟩:=(mem t).1 ht
  obtain ⟨a,ha,e,_⟩:=h.reqs j a1 a2
  exact List.mem_map.2 ⟨a,ha,e⟩)
 simp only [List.length_map] at l1 l2
 omega
theorem relA.add (h:relA an atl att al keep ansL) (a:PAns) (now:Int) (han:an=now) (hk:1<=keep) (hb:isB a.k a.t a.c a.u a.o=true) (hn:∀ j,j<ansL.length->an<(ansL.getD j jf6).at'+keep->(ansL.getD j jf6).token≠a.t) :
 relA an (jg1 an atl a.t (now+keep)) (jbl (a.t,0) al.length att) (al++[a]) keep (ansL++[⟨strOfNums (jao a.k (jay a.k a.t a.c a.u a.o)),a.t,⟨a.rk,a.ro,a.rc,a.ru⟩,now⟩]):=by
 have hg:∀ j,j<ansL.length+1->(ansL++[(⟨strOfNums (jao a.k (jay a.k a.t a.c a.u a.o)),a.t,⟨a.rk,a.ro,a.rc,a.ru⟩,now⟩:Ans)]).getD j jf6=if j=ansL.length then ⟨strOfNums (jao a.k (jay a.k a.t a.c a.u a.o)),a.t,⟨a.rk,a.ro,a.rc,a.ru⟩,now⟩ else ansL.getD j jf6:=by
  intro j hj
  simp only [List.getD]
  by_cases e:j=ansL.length
  ·subst e;simp
  ·rw [if_neg e,List.getElem?_append_left (by omega)]
 generalize hA:(⟨strOfNums (jao a.k (jay a.k a.t a.c a.u a.o)),a.t,⟨a.rk,a.ro,a.rc,a.ru⟩,now⟩:Ans)=A at hg
 have ht:A.token=a.t:=by rw [← hA]
 have hat:A.at'=now:=by rw [← hA]
 have hal:∀ b∈al,b.t≠a.t:=fun b hb' e=>by
  obtain ⟨j,j1,j2,j3⟩:=h.al b hb'
  exact hn j j1 j2 (by rw [← j3,e])
 have hx:¬ 0<=jo8 atl a.t:=by
  rw [jh9]
  rintro ⟨p,hp,e⟩
  obtain ⟨j,j1,j2,rfl⟩:=(h.tl p).1 hp
  exact hn j j1 j2 e
 have hset:jg1 an atl a.t (now+keep)=atl++[(now+keep,a.t)]:=by
  unfold jg1
  rw [if_neg (by omega),if_neg hx]
 refine ⟨jih h.once,jmm h.ls hal,fun j hj hm=>?_,fun i j hi hj h1 h2 h3=>?_,fun b hb'=>?_,fun p=>?_⟩
 ·simp only [List.length_append,List.length_singleton] at hj
  rw [hg j hj] at hm ⊢
  by_cases e:j=ansL.length
  ·rw [if_pos e]
   exact ⟨a,by simp,by rw [ht],hb,by rw [← hA],by rw [← hA]⟩
  ·rw [if_neg e] at hm ⊢
   obtain ⟨b,q1,q2⟩:=h.reqs j (by omega) hm
   exact ⟨b,List.mem_append_left _ q1,q2⟩
 ·simp only [List.length_append,List.length_singleton] at hi hj
  rw [hg i hi] at h1 h3
  rw [hg j hj] at h2 h3
  by_cases e1:i=ansL.length<;>by_cases e2:j=ansL.length
  ·omega
  ·rw [if_pos e1] at h3;rw [if_neg e2] at h2 h3
   exact absurd (h3.symm.trans ht) (hn j (by omega) h2)
  ·rw [if_neg e1] at h1 h3;rw [if_pos e2] at h3
   exact absurd (h3.trans ht) (hn i (by omega) h1)
  ·rw [if_neg e1] at h1 h3;rw [if_neg e2] at h2 h3
   exact h.uniq i j (by omega) (by omega) h1 h2 h3
 ·rcases List.mem_append.1 hb' with hb'|hb'
  ·obtain ⟨j,j1,j2,j3⟩:=h.al b hb'
   exact ⟨j,by simp;omega,by rw [hg j (by omega),if_neg (by omega)];exact j2,by rw [hg j (by omega),if_neg (by omega)];exact j3⟩
  ·have e:b=a:=by simpa using hb'
   rw [e]
   exact ⟨ansL.length,by simp,by rw [hg _ (by omega),if_pos rfl,hat];omega,by rw [hg _ (by omega),if_pos rfl,ht]⟩
 ·rw [hset,List.mem_append,h.tl]
  constructor
  ·rintro (⟨j,j1,j2,rfl⟩|hp)
   ·exact ⟨j,by simp;omega,by rw [hg j (by omega),if_neg (by omega)];exact j2,by rw [hg j (by omega),if_neg (by omega)]⟩
   ·have e:p=(now+keep,a.t):=by simpa using hp
    rw [e]
    exact ⟨ansL.length,by simp,by rw [hg _ (by omega),if_pos rfl,hat];omega,by rw [hg _ (by omega),if_pos rfl,hat,ht]⟩
  ·rintro ⟨j,j1,j2,rfl⟩
   simp only [List.length_append,List.length_singleton] at j1
   rw [hg j j1] at j2 ⊢
   by_cases e:j=ansL.length
   ·rw [if_pos e,hat,ht]
    exact .inr (by simp)
   ·rw [if_neg e] at j2 ⊢
    exact .inl ⟨j,by omega,j2,rfl⟩
end
end
section
section
variable {V:PV} {S:Sal} {last:Nat} {K:Nat->Prop}
theorem relO.clock (h:relO V S last K) {t:Int} (ht:V.tn<=t):relO { V with now:=t } { S with now:=t } last K :=
 ⟨h.C,rfl,h.last,ht,h.once,h.tl,h.kin,h.live,h.ls,h.ol,h.turns,h.sizes,h.held,h.sold,h.lu,h.cust⟩
theorem relO.advance (h:relO V S last K) {t:Int} (h1:V.tn<=t) (h2:t<=S.now):relO { V with tn:=t,tl:=jtz V.tn t V.tl } S last K:=by
 have he:jtz V.tn t V.tl=V.tl.filter (fun p=>decide (t<p.1)):=by
  unfold jtz
  rw [if_neg (by omega),ju3]
 rw [he]
 refine ⟨h.C,h.now,h.last,h2,jen _ h.once,fun p=>?_,h.kin,h.live,h.ls,h.ol,h.turns,h.sizes,h.held,h.sold,h.lu,h.cust⟩
 show p∈V.tl.filter (fun p=>decide (t<p.1))↔∃ i,K i/\t<_/\_
 rw [List.mem_filter,h.tl]
 constructor
 ·rintro ⟨⟨i,a,b,rfl⟩,c⟩
  exact ⟨i,a,by simpa using c,rfl⟩
 ·rintro ⟨i,a,b,rfl⟩
  exact ⟨⟨i,a,by omega,rfl⟩,by simpa using b⟩
theorem relO.due (h:relO V S last K) {t:Int} (h1:V.tn<=t) (p:Int × Int):p∈jhk V.tn t V.tl↔∃ i,K i/\V.tn<(S.os.getD i ja3).untl S.C/\(S.os.getD i ja3).untl S.C<=t/\p=((S.os.getD i ja3).untl S.C,(i:Int)+1):=by
 have he:(jhk V.tn t V.tl).Perm (V.tl.filter (fun p=>decide (p.1<=t))):=by
  unfold jhk
  rw [if_neg (by omega)]
  exact (jgc t _ V.tl rfl).2.1
 rw [he.mem_iff,List.mem_filter,h.tl]
 constructor
 ·rintro ⟨⟨i,a,b,rfl⟩,c⟩
  exact ⟨i,a,b,by simpa using c,rfl⟩
 ·rintro ⟨i,a,b,c,rfl⟩
  exact ⟨⟨i,a,b,rfl⟩,by simpa using c⟩
theorem relO.drop (h:relO V S last K) {i:Nat} (ha:¬ (S.os.getD i ja3).alive) (hu:(S.os.getD i ja3).untl S.C<=V.tn) {j:Nat} {z:POrd} (hj:V.ol[j]?=some (jbw S.C i (S.os.getD i ja3))) (hz:V.ol[V.ol.length - 1]?=some z) (rm:Int) :
 relO { V with ot:=jd0 ((i:Int)+1,0) (jbl (z.num,0) j V.ot),ol:=jel V.ol j z,orm:=rm } S last (fun k=>K k/\k≠i):=by
 refine ⟨h.C,h.now,h.last,h.tn,h.once,fun p=>?_,fun k hk=>h.kin k hk.1,fun k hk hs=>⟨h.live k hk hs,fun e=>ha (by rw [e] at hs;exact hs)⟩,jlx h.ls hj hz,fun o=>?_,h.turns,h.sizes,h.held,h.sold,h.lu,h.cust⟩
 ·refine (h.tl p).trans ?_
  constructor
  ·rintro ⟨k,a,b,rfl⟩
   exact ⟨k,⟨a,fun e=>by rw [e] at b;omega⟩,b,rfl⟩
  ·rintro ⟨k,a,b,rfl⟩
   exact ⟨k,a.1,b,rfl⟩
 ·show o∈jel V.ol j z↔_
  rw [jnm h.ls.once hj hz,h.ol]
  constructor
  ·rintro ⟨⟨k,a,rfl⟩,b⟩
   exact ⟨k,⟨a,fun e=>b (by rw [e])⟩,rfl⟩
  ·rintro ⟨k,a,rfl⟩
   exact ⟨⟨k,a.1,rfl⟩,fun c=>a.2 (by simp [jbw] at c;omega)⟩
end
theorem relA.forget {an t:Int} {atl:List (Int × Int)} {att att':List Ent} {al al':List PAns} {keep:Int} {ansL:List Ans} (h:relA an atl att al keep ansL) (ht:an<=t) (hls:Listed PAns.t att' al') (hm:∀ a,a∈al'↔a∈al/\∀ d∈jhk an t atl,a.t≠d.2) :
 relA t (jtz an t atl) att' al' keep ansL:=by
 have he:jtz an t atl=atl.filter (fun p=>decide (t<p.1)):=by
  unfold jtz
  rw [if_neg (by omega),ju3]
 have hd:∀ p,p∈jhk an t atl↔∃ j,j<ansL.length/\an<(ansL.getD j jf6).at'+keep/\(ansL.getD j jf6).at'+keep<=t/\p=((ansL.getD j jf6).at'+keep,(ansL.getD j jf6).token):=fun p=>by
  have hp:(jhk an t atl).Perm (atl.filter (fun p=>decide (p.1<=t))):=by
   unfold jhk
   rw [if_neg (by omega)]
   exact (jgc t _ atl rfl).2.1
  rw [hp.mem_iff,List.mem_filter,h.tl]
  constructor
  ·rintro ⟨⟨i,a,b,rfl⟩,c⟩
   exact ⟨i,a,b,by simpa using c,rfl⟩
  ·rintro ⟨i,a,b,c,rfl⟩
   exact ⟨⟨i,a,b,rfl⟩,by simpa using c⟩
 refine ⟨by rw [he];exact jen _ h.once,hls,fun j hj hr=>?_,fun i j hi hj h1 h2=>h.uniq i j hi hj (by omega) (by omega),fun a ha=>?_,fun p=>?_⟩
 ·obtain ⟨a,q1,q2,q3⟩:=h.reqs j hj (by omega)
  refine ⟨a,(hm a).2 ⟨q1,fun d hd' e=>?_⟩,q2,q3⟩
  obtain ⟨i,i1,i2,i3,rfl⟩:=(hd d).1 hd'
  have:=h.uniq i j i1 hj i2 (by omega) (e.symm.trans q2)
  subst this
  omega
 ·obtain ⟨q1,q2⟩:=(hm a).1 ha
  obtain ⟨j,j1,j2,j3⟩:=h.al a q1
  refine ⟨j,j1,?_,j3⟩
  refine Classical.byContradiction fun hn=>q2 _ ((hd _).2 ⟨j,j1,j2,by omega,rfl⟩) j3
 ·rw [he,List.mem_filter,h.tl]
  constructor
  ·rintro ⟨⟨i,a,b,rfl⟩,c⟩
   exact ⟨i,a,by simpa using c,rfl⟩
  ·rintro ⟨i,a,b,rfl⟩
   exact ⟨⟨i,a,by omega,rfl⟩,by simpa using b⟩
theorem jle {S:Sal} {t:Int} (ht:S.now<=t) (i:Nat):({ S with now:=t }:Sal).knows i↔S.knows i/\((S.os.getD i ja3).alive\/t<(S.os.getD i ja3).untl S.C):=by
 constructor
 ·rintro ⟨h1,h2⟩
  exact ⟨⟨h1,h2.imp id (fun h=>by have h':t<(S.os.getD i ja3).untl S.C:=h;omega)⟩,h2⟩
 ·rintro ⟨⟨h1,_⟩,h2⟩
  exact ⟨h1,h2⟩
end
section
theorem jwj {L L':List (Int × Int)} (h:∀ p,p∈L↔p∈L'):jcf L=jcf L'/\ja8 L=ja8 L':=by
 by_cases e:L=[]
 ·have e':L'=[]:=List.eq_nil_iff_forall_not_mem.2 (fun p hp=>by rw [← h,e] at hp;simp at hp)
  rw [e,e'];exact ⟨rfl,rfl⟩
 ·have e':L'≠[]:=fun c=>e (List.eq_nil_iff_forall_not_mem.2 (fun p hp=>by rw [h,c] at hp;simp at hp))
  obtain ⟨a1,a2,a3⟩:=jf1 e
  obtain ⟨b1,b2,b3⟩:=jf1 e'
  exact ⟨a1.trans b1.symm,jfp (b3 _ ((h _).1 a2)) (a3 _ ((h _).2 b2))⟩
open Classical in
noncomputable def Sal.kset (S:Sal):List Nat:=(List.range S.os.length).filter (fun i=>decide (S.knows i))
noncomputable def Sal.tset (S:Sal):List (Int × Int):=S.kset.map (fun i=>((S.os.getD i ja3).untl S.C,(i:Int)+1))
theorem ju6 (S:Sal) (i:Nat):i∈S.kset↔S.knows i:=by
 unfold Sal.kset
 rw [List.mem_filter]
 constructor
 ·rintro ⟨_,h⟩;simpa using h
 ·intro h;exact ⟨List.mem_range.2 h.1,by simpa using h⟩
theorem jl4 (S:Sal) (p:Int × Int):p∈S.tset↔∃ i,S.knows i/\p=((S.os.getD i ja3).untl S.C,(i:Int)+1):=by
 unfold Sal.tset
 rw [List.mem_map]
 constructor
 ·rintro ⟨i,h,rfl⟩;exact ⟨i,(ju6 S i).1 h,rfl⟩
 ·rintro ⟨i,h,rfl⟩;exact ⟨i,(ju6 S i).2 h,rfl⟩
theorem jii {S:Sal} (hR:restS S) {i:Nat} (h:S.knows i):S.now<(S.os.getD i ja3).untl S.C:=by
 rcases h.2 with ha|ha
 ·rw [jdk ha];exact hR.fut _ (jal h.1) ha
 ·exact ha
theorem relO.firstK {V:PV} {S:Sal} {last:Nat} (h:relO V S last S.knows) (hR:restS S):jcf V.tl=jcf S.tset/\ja8 V.tl=ja8 S.tset :=
 jwj (fun p=>by
  rw [h.tl,jl4]
  constructor
  ·rintro ⟨i,a,_,rfl⟩;exact ⟨i,a,rfl⟩
  ·rintro ⟨i,a,rfl⟩
   exact ⟨i,a,by have:=jii hR a;have:=h.tn;omega,rfl⟩)
theorem jmb {α:Type} {p q:α->Bool}:∀ {l:List α},(∀ x∈l,q x=true->p x=true)->(∃ x∈l,p x=true/\q x=false)->(l.filter q).length<(l.filter p).length
 | [],_,h=>by obtain ⟨x,hx,_⟩:=h;simp at hx
 | a :: l,h1,h2=>by
   have le:(l.filter q).length<=(l.filter p).length:=by
    clear h2
    induction l with
    | nil=>simp
    | cons b l ih =>
      have ih':=ih (fun x hx=>h1 x (by simp at hx ⊢;rcases hx with rfl|hx<;>simp_all))
      have hb:=h1 b (by simp)
      by_cases hq:q b=true
      ·rw [List.filter_cons_of_pos hq,List.filter_cons_of_pos (hb hq)];simpa using ih'
      ·by_cases hp:p b=true
       ·rw [List.filter_cons_of_neg hq,List.filter_cons_of_pos hp];simp;omega
       ·rw [List.filter_cons_of_neg hq,List.filter_cons_of_neg hp];exact ih'
   by_cases hq:q a=true
   ·rw [List.filter_cons_of_pos hq,List.filter_cons_of_pos (h1 a (by simp) hq)]
    obtain ⟨x,hx,hp,hn⟩:=h2
    have:=jmb (p:=p) (q:=q) (l:=l) (fun x hx=>h1 x (List.mem_cons_of_mem _ hx)) ⟨x,by
     rcases List.mem_cons.1 hx with rfl|hx
     ·rw [hq] at hn;cases hn
     ·exact hx,hp,hn⟩
    simpa using this
   ·by_cases hp:p a=true
    ·rw [List.filter_cons_of_neg hq,List.filter_cons_of_pos hp];simp;omega
    ·rw [List.filter_cons_of_neg hq,List.filter_cons_of_neg hp]
     obtain ⟨x,hx,hp',hn⟩:=h2
     exact jmb (p:=p) (q:=q) (l:=l) (fun x hx=>h1 x (List.mem_cons_of_mem _ hx)) ⟨x,by
      rcases List.mem_cons.1 hx with rfl|hx
      ·exact absurd hp' hp
      ·exact hx,hp',hn⟩
noncomputable def Sal.todo (S:Sal):Nat:=jby S.os * (S.os.length+1)+S.kset.length
structure stopAt (S:Sal) (t:Int):Prop where
 some:∃ i,S.knows i/\t=(S.os.getD i ja3).untl S.C
 min:∀ i,S.knows i->t<=(S.os.getD i ja3).untl S.C
theorem jh6 {S:Sal} (h:jcf S.tset=true):stopAt S (ja8 S.tset).1:=by
 have hn:S.tset≠[]:=fun e=>by rw [e] at h;rw [jlf.2] at h;cases h
 obtain ⟨_,a2,a3⟩:=jf1 hn
 obtain ⟨i,h1,h2⟩:=(jl4 S _).1 a2
 refine ⟨⟨i,h1,by rw [h2]⟩,fun k hk=>?_⟩
 have:=a3 _ ((jl4 S _).2 ⟨k,hk,rfl⟩)
 have:=jft.1 this
 have h':((ja8 S.tset).1<(S.os.getD k ja3).untl S.C)\/((ja8 S.tset).1=(S.os.getD k ja3).untl S.C/\_):=this
 omega
theorem jvs {S:Sal} (h:jcf S.tset=false) (i:Nat):¬ S.knows i:=fun hk=>by
 have hn:S.tset≠[]:=fun e=>by
  have:=(jl4 S _).2 ⟨i,hk,rfl⟩
  rw [e] at this
  simp at this
 rw [(jf1 hn).1] at h
 cases h
section
variable {S:Sal} {t:Int}
theorem stopAt.alive (h:stopAt S t):∀ o∈S.os,o.alive->t<=o.upto:=fun o ho ha=>by
 obtain ⟨k,hk,rfl⟩:=jdh ho
 have:=h.min k ⟨hk,.inl ha⟩
 rwa [jdk ha] at this
theorem stopAt.later (h:stopAt S t) (hR:restS S):S.now<t:=by
 obtain ⟨i,h1,rfl⟩:=h.some
 exact jii hR h1
theorem jzi (h:stopAt S t) (hR:restS S) (h0:0<=S.now):(S.round t).todo<S.todo:=by
 have hl:=(je6 S t).2.2.2
 have hm:=h.alive
 have hn:=h.later hR
 by_cases hx:∃ o∈S.os,o.alive/\o.upto=t
 ·obtain ⟨o,ho,ha,hu⟩:=hx
  obtain ⟨i,hi,rfl⟩:=jdh ho
  have hp:∀ o∈S.os,o.alive->0<=o.upto:=fun o ho ha=>by have:=hR.fut o ho ha;omega
  obtain ⟨d1,d2⟩:=jls S.os t hp S.os.length (Nat.le_refl _) i hi ha (by omega)
  obtain ⟨k,hk,hs,hku,_⟩:=ji6 S.os t S.os.length (Nat.le_refl _) d1
  have:=hm _ (jal hk) hs.symm
  have e:S.due t=t:=by unfold Sal.due;omega
  have hlt:=jp7 (S:=S) (to:=t) (by omega)
  rw [e] at hlt
  have hks:(S.round t).kset.length<=S.os.length:=by
   unfold Sal.kset
   refine Nat.le_trans (List.length_filter_le _ _) ?_
   rw [List.length_range,hl]
   exact Nat.le_refl _
  have h1:(jby (S.round t).os+1) * (S.os.length+1)<=jby S.os * (S.os.length+1):=Nat.mul_le_mul_right _ hlt
  rw [Nat.add_mul,Nat.one_mul] at h1
  unfold Sal.todo
  rw [hl]
  omega
 ·have hr:=jom (S:=S) (t:=t) hR.stable (fun o ho ha=>by
   have:=hm o ho ha
   have:o.upto≠t:=fun e=>hx ⟨o,ho,ha,e⟩
   omega)
  rw [hr]
  have hlt:({ S with now:=t }:Sal).kset.length<S.kset.length:=by
   unfold Sal.kset
   refine jmb (fun i _ hi=>?_) ?_
   ·have hi':({ S with now:=t }:Sal).knows i:=by simpa using hi
    have:=((jle (by omega) i).1 hi').1
    simpa using this
   ·obtain ⟨i,h1,h2⟩:=h.some
    have hno:¬ ({ S with now:=t }:Sal).knows i:=fun c=>by
     rcases ((jle (by omega) i).1 c).2 with ha|ha
     ·exact hx ⟨_,jal h1.1,ha,by rw [h2,jdk ha]⟩
     ·omega
    exact ⟨i,List.mem_range.2 h1.1,by simpa using h1,by simpa using hno⟩
  show jby S.os * (S.os.length+1)+_<jby S.os * (S.os.length+1)+_
  omega
theorem jiw (S:Sal) {t:Int} (h:S.now<=t) (T:Sal) (hn:T.now=t) (hC:T.C=S.C) (ha:T.ansL=S.ansL):T.answers<=S.answers:=by
 unfold Sal.answers
 rw [ha]
 have:∀ l:List Ans,(l.filter T.remem).length<=(l.filter S.remem).length:=by
  intro l
  induction l with
  | nil=>simp
  | cons a l ih =>
    have hb:T.remem a=true->S.remem a=true:=by
     unfold Sal.remem
     rw [hn,hC]
     simp only [decide_eq_true_eq]
     omega
    by_cases hq:T.remem a=true
    ·rw [List.filter_cons_of_pos hq,List.filter_cons_of_pos (hb hq)];simpa using ih
    ·rw [List.filter_cons_of_neg hq]
     by_cases hp:S.remem a=true
     ·rw [List.filter_cons_of_pos hp];simp;omega
     ·rw [List.filter_cons_of_neg hp];exact ih
 exact this _
theorem jon (S:Sal) (st en:Int) (hen:en≠12):∀ n,n<=S.os.length->(ja5 (jbq S st en n).os).length<=(ja5 S.os).length
 | 0,_=>Nat.le_refl _
 | n+1,hn=>by
   have ih:=jon S st en hen n (by omega)
   unfold jbq
   split
   ·exact Nat.le_trans (jj8 (by rw [jc5];omega) hen) ih
   ·exact ih
theorem jr5 (S:Sal) (st en:Int) (hen:en≠12):(ja5 (S.past st en).os).length<=(ja5 S.os).length :=
 Nat.le_trans (jkw _) (jon S st en hen _ (Nat.le_refl _))
theorem jsv (h:stopAt S t) (hR:restP S):restP (S.round t):=by
 obtain ⟨a,b,c,d⟩:=je6 S t
 have hn:=h.later hR.R
 have h1:=jr5 ({ S with now:=t }:Sal) 13 15 (by decide)
 have h2:=jr5 (({ S with now:=t }:Sal).past 13 15) 12 17 (by decide)
 refine ⟨joh hR.R h.alive,?_,?_⟩
 ·rw [a]
  have:=hR.qlen
  have h3:(ja5 (S.round t).os).length<=(ja5 S.os).length:=Nat.le_trans h2 h1
  omega
 ·rw [a]
  have:=jiw S (t:=t) (by omega) (S.round t) b a c
  have:=hR.alen
  omega
theorem jws (hJ:salJ S) (ht:0<=t/\t<=4611686018427387904):salJ (S.round t):=by
 obtain ⟨a,b,c,d⟩:=je6 S t
 refine ⟨jl9 (jl9 (jig hJ.I ht) 13 15 (by decide)) 12 17 (by decide),by rw [a];exact hJ.cap,by rw [a];exact hJ.queue,by rw [d];exact hJ.len,by rw [c];exact hJ.ats⟩
theorem juu {to:Int} (hto:S.now<=to) (h:∀ i,S.knows i->to<(S.os.getD i ja3).untl S.C):({ S with now:=to }:Sal).knows=S.knows:=by
 funext i
 exact propext ((jle hto i).trans ⟨fun c=>c.1,fun c=>⟨c,.inr (h i c)⟩⟩)
theorem jzr {to:Int} (h:∀ i,S.knows i->to<(S.os.getD i ja3).untl S.C):S.tickTo to={ S with now:=to } :=
 jz4 (qco (fun o ho ha=>by
  obtain ⟨k,hk,rfl⟩:=jdh ho
  have:=h k ⟨hk,.inl ha⟩
  rwa [jdk ha] at this))
theorem jv1 {to:Int} (hto:S.now<=to) (h:∀ i,S.knows i->to<(S.os.getD i ja3).untl S.C) (hR:restP S):restP ({ S with now:=to }:Sal):=by
 refine ⟨⟨fun o ho ha=>?_,hR.R.stable,hR.R.lease,hR.R.wait,hR.R.keep,hR.R.tokens,hR.R.queue⟩,hR.qlen,?_⟩
 ·obtain ⟨k,hk,rfl⟩:=jdh ho
  have:=h k ⟨hk,.inl ha⟩
  rwa [jdk ha] at this
 ·have:=jiw S (t:=to) hto ({ S with now:=to }:Sal) rfl rfl rfl
  have:=hR.alen
  show (_:Int)<=S.C.tokens
  omega
theorem jhp {k:Nat}:∀ (n:Nat) (S:Sal),((jak n S).os.getD k ja3).state=12->(jak n S).os.getD k ja3=S.os.getD k ja3
 | 0,_,_=>rfl
 | n+1,S,h=>by
   unfold jak at h ⊢
   split
   ·rfl
   ·next q qs hq =>
    split
    ·rfl
    ·next hf =>
     rw [hq] at h
     simp only at h
     rw [if_neg hf] at h
     obtain ⟨_,hl,hs⟩:=jbh hq ja3 (by decide)
     have ih:=jhp n (S.holds q) h
     rw [ih] at h ⊢
     have hg:(S.holds q).os.getD k ja3=if k=q then { S.os.getD q ja3 with state:=13,cents:=(S.put q { S.os.getD q ja3 with state:=13 }).price,upto:=S.now+S.C.lease } else S.os.getD k ja3:=jar _ hl
     rw [hg] at h ⊢
     by_cases e:k=q
     ·rw [if_pos e] at h;exact absurd h (by show ¬ (13:Int)=12;decide)
     ·rw [if_neg e]
theorem jwk {k:Nat} (S:Sal) (h:((S.past 13 15).os.getD k ja3).state=12):(S.past 13 15).os.getD k ja3=S.os.getD k ja3:=by
 unfold Sal.past at h ⊢
 have e:=jhp _ _ h
 have e':(jbq S 13 15 S.os.length).promote.os.getD k ja3=(jbq S 13 15 S.os.length).os.getD k ja3:=e
 rw [e'] at h ⊢
 rw [jh1 S 13 15 _ (Nat.le_refl _)] at h ⊢
 split
 ·next hc=>rw [if_pos hc] at h;exact absurd h (by show ¬ (15:Int)=12;decide)
 ·rfl
end
end
theorem jsk (x l:Nat) (c st d:Int) (w:World) (h:st≠12/\st≠13/\st≠14) :
 Calls Tryz.prog 171 #[pt x l,iv c,iv st,iv d] w fun e w'=>e=.returned (.tuple #[])/\Below w.heap.size w w':=by
 have q2:(st==12)=false:=by simpa using h.1
 have q3:(st==13)=false:=by simpa using h.2.1
 have q4:(st==14)=false:=by simpa using h.2.2
 go_enter Tryz.func171,Tryz.ntmps171
 go_wp2
 first|go_end0|refine bodyPost_ret (results_none rfl _ _ _) rfl ?_
 exact ⟨rfl,Below.refl _ _⟩
theorem jw0 (x l:Nat) (t:Tr) (c:Int) (w:World) (h0:w.cell? (aq x (l+2))=some (.pointer t.addr)) (ht:t.at w) (hs:srt t.toL) :
 Calls Tryz.prog 61 #[pt x l,iv c] w fun e w'=>e=.returned (.agg #[iv ((jb5 (c,13) t.toL).getD 0),iv ((jb5 (c,14) t.toL).getD 0),iv ((jb5 (c,12) t.toL).getD 0)])/\Below w.heap.size w w':=by
 have hxw:x<w.heap.size:=World.block_lt_of_cell? w _ h0
 have HG:Hid (∀ st:Int,(st=13\/st=14\/st=12)->∀ W,Below w.heap.size w W->Calls Tryz.prog 95 #[pt x (l+2),.agg #[iv c,iv st]] W fun e w'=>(∃ kn,e=.returned (.tuple #[iv ((jb5 (c,st) t.toL).getD 0),.bool kn]))/\Below W.heap.size W w'):=fun st _ W hW=>by
  refine (jd3 x (l+2) t c st W ((hW.cell (p:=(aq x (l+2))) hxw).trans h0) (t.at_below ht hW) hs).mono ?_
  rintro e w' ⟨rfl,hb⟩
  exact ⟨⟨_,rfl⟩,hb⟩
 clear h0 ht hs
 go_enter Tryz.func61,Tryz.ntmps61
 go_wp2_with fail
 refine (HG.out 13 (by decide) _ ((Below.refl _ _).alloc (Nat.le_refl _) _)).mono ?_
 rintro e w1 ⟨⟨kn1,rfl⟩,b1⟩
 have n1:w1.heap[w.heap.size]?=some (.cells #[iv 0,iv 0,iv 0] 87 (0,0)):=(b1.block _ (by simp)).trans (heap_alloc_new w _)
 have hb1:Below w.heap.size w w1:=Below.trans ((Below.refl _ _).alloc (Nat.le_refl _) _) (b1.mono (by simp))
 have z1:w.heap.size<w1.heap.size:=(blt n1)
 clear b1
 go_wp2_with fail
 refine (HG.out 14 (by decide) _ hb1).mono ?_
 rintro e w2 ⟨⟨kn2,rfl⟩,b2⟩
 have n2:=(b2.block _ z1).trans n1
 have hb2:Below w.heap.size w w2:=Below.trans hb1 (b2.mono (by omega))
 have z2:w.heap.size<w2.heap.size:=(blt n2)
 clear b2 n1
 go_wp2_with fail
 refine (HG.out 12 (by decide) _ hb2).mono ?_
 rintro e w3 ⟨⟨kn3,rfl⟩,b3⟩
 have n3:=(b3.block _ z2).trans n2
 have hb3:Below w.heap.size w w3:=Below.trans hb2 (b3.mono (by omega))
 have z3:w.heap.size<w3.heap.size:=(blt n3)
 clear b3 n2 HG
 obtain ⟨s0,s1,s2⟩:=jb3 n3
 have f0:=ja0 n3 0
 have f1:=ja0 n3 1
 have f2:=ja0 n3 2
 clear n3
 go_wp2
 refine bodyPost_ret (v:=.agg #[iv ((jb5 (c,13) t.toL).getD 0),iv ((jb5 (c,14) t.toL).getD 0),iv ((jb5 (c,12) t.toL).getD 0)]) (by simp [results,Tryz.results61,go_sem,s0,s1,s2]) rfl ⟨rfl,?_⟩
 exact bL
theorem jbu {w w2:World} {B b:Nat} {v0 v1 v2 v3 v4 v5:Value} (h:Below B w w2) (hb:B<=b):Below B w ((((((w2.setCell (aq b 0) v0).setCell (aq b 1) v1).setCell (aq b 2) v2).setCell (aq b 3) v3).setCell (aq b 4) v4).setCell (aq b 5) v5) :=
 (((((h.setCell (p:=(aq b 0)) hb _).setCell (p:=(aq b 1)) hb _).setCell (p:=(aq b 2)) hb _).setCell (p:=(aq b 3)) hb _).setCell (p:=(aq b 4)) hb _).setCell (p:=(aq b 5)) hb _
theorem qe6 (x p:Nat) (t:Tr) (num:Int) (w:World) (h0:w.cell? (aq x p)=some (.pointer t.addr)) (ht:t.at w) (hs:srt t.toL) (hn:jb5 (num,0) t.toL=none) :
 Calls Tryz.prog 131 #[pt x p,iv num] w fun e w'=>e=.returned (.tuple #[.agg #[iv 0,iv 0,iv 0,iv 0,iv 0,iv 0],.bool false])/\Below w.heap.size w w':=by
 have hxw:x<w.heap.size:=World.block_lt_of_cell? w _ h0
 have HG:Hid (∀ W,Below w.heap.size w W->Calls Tryz.prog 95 #[pt x p,.agg #[iv num,iv 0]] W fun e w'=>e=.returned (.tuple #[iv 0,.bool false])/\Below W.heap.size W w'):=fun W hW=>by
  have:=jd3 x p t num 0 W ((hW.cell (p:=(aq x p)) hxw).trans h0) (t.at_below ht hW) hs
  rw [hn] at this
  exact this
 clear h0 ht hs hn
 go_enter Tryz.func131,Tryz.ntmps131
 go_wp2_with fail
 refine (HG.out _ ((Below.refl _ _).alloc (Nat.le_refl _) _)).mono ?_
 rintro e w1 ⟨rfl,b1⟩
 have n1:w1.heap[w.heap.size]?=some (.cells #[iv 0,iv 0,iv 0,iv 0,iv 0,iv 0] 184 (0,0)):=(b1.block _ (by simp)).trans (heap_alloc_new w _)
 have hb1:Below w.heap.size w w1:=Below.trans ((Below.refl _ _).alloc (Nat.le_refl _) _) (b1.mono (by simp))
 have z1:w.heap.size<w1.heap.size:=(blt n1)
 obtain ⟨s0,s1,s2,s3,s4,s5⟩:=ja1 n1
 have f0:=ja0 n1 0
 have f1:=ja0 n1 1
 have f2:=ja0 n1 2
 have f3:=ja0 n1 3
 have f4:=ja0 n1 4
 have f5:=ja0 n1 5
 clear b1 n1
 go_wp2
 refine bodyPost_ret (v:=.tuple #[.agg #[iv 0,iv 0,iv 0,iv 0,iv 0,iv 0],.bool false]) (by simp [results,Tryz.results131,go_sem,s0,s1,s2,s3,s4,s5]) rfl ⟨rfl,?_⟩
 exact jbu hb1 (Nat.le_refl _)
theorem qb7 (x p g n cap i:Nat) (t:Tr) (num c0 c1 c2 c3 c4 c5:Int) (w:World) (h0:w.cell? (aq x p)=some (.pointer t.addr)) (ht:t.at w) (hs:srt t.toL) (hn:jb5 (num,0) t.toL=some (i:Int)) (hl:w.cell? (aq x (p+2))=some (.slice (some (aq g 0)) n cap)) (hi:i<n)
 (e0:w.cell? (aq g (i * 6))=some (iv c0)) (e1:w.cell? (aq g (i * 6+1))=some (iv c1)) (e2:w.cell? (aq g (i * 6+2))=some (iv c2)) (e3:w.cell? (aq g (i * 6+3))=some (iv c3)) (e4:w.cell? (aq g (i * 6+4))=some (iv c4)) (e5:w.cell? (aq g (i * 6+5))=some (iv c5)) :
 Calls Tryz.prog 131 #[pt x p,iv num] w fun e w'=>e=.returned (.tuple #[.agg #[iv c0,iv c1,iv c2,iv c3,iv c4,iv c5],.bool true])/\Below w.heap.size w w':=by
 have hxw:x<w.heap.size:=World.block_lt_of_cell? w _ h0
 have hgw:g<w.heap.size:=World.block_lt_of_cell? w _ e0
 have HG:Hid (∀ W,Below w.heap.size w W->Calls Tryz.prog 95 #[pt x p,.agg #[iv num,iv 0]] W fun e w'=>e=.returned (.tuple #[iv i,.bool true])/\Below W.heap.size W w'):=fun W hW=>by
  have:=jd3 x p t num 0 W ((hW.cell (p:=(aq x p)) hxw).trans h0) (t.at_below ht hW) hs
  rw [hn] at this
  exact this
 clear h0 ht hs hn
 have b0:(0:Int)<=(i:Int):=by omega
 have b1':(i:Int)<(n:Int):=by omega
 have d0:decide ((i:Int)<0)=false:=by simp
 have d1:decide ((n:Int)<=(i:Int))=false:=by simp;omega
 go_enter Tryz.func131,Tryz.ntmps131
 go_wp2_with fail
 refine (HG.out _ ((Below.refl _ _).alloc (Nat.le_refl _) _)).mono ?_
 rintro e w1 ⟨rfl,b1⟩
 have n1:w1.heap[w.heap.size]?=some (.cells #[iv 0,iv 0,iv 0,iv 0,iv 0,iv 0] 184 (0,0)):=(b1.block _ (by simp)).trans (heap_alloc_new w _)
 have hb1:Below w.heap.size w w1:=Below.trans ((Below.refl _ _).alloc (Nat.le_refl _) _) (b1.mono (by simp))
 have z1:w.heap.size<w1.heap.size:=(blt n1)
 obtain ⟨s0,s1,s2,s3,s4,s5⟩:=ja1 n1
 have f0:=ja0 n1 0
 have f1:=ja0 n1 1
 have f2:=ja0 n1 2
 have f3:=ja0 n1 3
 have f4:=ja0 n1 4
 have f5:=ja0 n1 5
 replace hl:=(hb1.cell (p:=(aq x (p+2))) hxw).trans hl
 replace e0:=(hb1.cell (p:=(aq g (i * 6))) hgw).trans e0
 replace e1:=(hb1.cell (p:=(aq g (i * 6+1))) hgw).trans e1
 replace e2:=(hb1.cell (p:=(aq g (i * 6+2))) hgw).trans e2
 replace e3:=(hb1.cell (p:=(aq g (i * 6+3))) hgw).trans e3
 replace e4:=(hb1.cell (p:=(aq g (i * 6+4))) hgw).trans e4
 replace e5:=(hb1.cell (p:=(aq g (i * 6+5))) hgw).trans e5
 have hx1:x<w1.heap.size:=by omega
 have hg1:g<w1.heap.size:=by omega
 clear b1 n1
 go_wp2
 refine bodyPost_ret (v:=.tuple #[.agg #[iv c0,iv c1,iv c2,iv c3,iv c4,iv c5],.bool true]) (by simp [results,Tryz.results131,go_sem,s0,s1,s2,s3,s4,s5]) rfl ⟨rfl,?_⟩
 exact jbu hb1 (Nat.le_refl _)
def jnk (Cg:Array Value) (o:Nat) (c0 c1 c2 c3 c4 c5:Int):Array Value:=(((((Cg.setIfInBounds o (iv c0)).setIfInBounds (o+1) (iv c1)).setIfInBounds (o+2) (iv c2)).setIfInBounds (o+3) (iv c3)).setIfInBounds (o+4) (iv c4)).setIfInBounds (o+5) (iv c5)
theorem jce {own:Nat->Prop} {a b:World} (h:Same own a b) (g i:Nat) (v:Value) (hg:own g):Same own a (b.setCell (aq g i) v) :=
 ⟨h.os,h.tape,h.output,by have:=h.size;simpa [World.setCell] using this,fun k hk hn=>(Below.heap_setCell _ (aq g i) _ _ (fun e=>hn (by rw [e];exact hg))).trans (h.block k hk hn)⟩
theorem qdu {w w1:World} {g o:Nat} {Cg:Array Value} {T:TypeId} {c0 c1 c2 c3 c4 c5:Int} (hg:w.heap[g]?=some (.cells Cg T (0,0))) (hb:Below w.heap.size w w1) :
 ((((((w1.setCell (aq g o) (iv c0)).setCell (aq g (o+1)) (iv c1)).setCell (aq g (o+2)) (iv c2)).setCell (aq g (o+3)) (iv c3)).setCell (aq g (o+4)) (iv c4)).setCell (aq g (o+5)) (iv c5)).heap[g]?=some (.cells (jnk Cg o c0 c1 c2 c3 c4 c5) T (0,0)) ∧
 Same (fun b=>b=g) w ((((((w1.setCell (aq g o) (iv c0)).setCell (aq g (o+1)) (iv c1)).setCell (aq g (o+2)) (iv c2)).setCell (aq g (o+3)) (iv c3)).setCell (aq g (o+4)) (iv c4)).setCell (aq g (o+5)) (iv c5)):=by
 have hgw:g<w.heap.size:=(blt hg)
 have h1:=(hb.block g hgw).trans hg
 have h2:=Joins.block_setCell (i:=o) h1 (iv c0)
 have h3:=Joins.block_setCell (i:=o+1) h2 (iv c1)
 have h4:=Joins.block_setCell (i:=o+2) h3 (iv c2)
 have h5:=Joins.block_setCell (i:=o+3) h4 (iv c3)
 have h6:=Joins.block_setCell (i:=o+4) h5 (iv c4)
 have h7:=Joins.block_setCell (i:=o+5) h6 (iv c5)
 have j1:Same (fun b=>b=g) w w1:=Same.of_below hb
 have j2:=jce j1 g o (iv c0) rfl
 have j3:=jce j2 g (o+1) (iv c1) rfl
 have j4:=jce j3 g (o+2) (iv c2) rfl
 have j5:=jce j4 g (o+3) (iv c3) rfl
 have j6:=jce j5 g (o+4) (iv c4) rfl
 have j7:=jce j6 g (o+5) (iv c5) rfl
 exact ⟨h7,j7⟩
theorem jvh (x p g n cap i:Nat) (t:Tr) (Cg:Array Value) (Tg:TypeId) (num cust units st cents upto:Int) (v0 v1 v2 v3 v4 v5:Value) (w:World) (h0:w.cell? (aq x p)=some (.pointer t.addr)) (ht:t.at w) (hs:srt t.toL) (hn:jb5 (num,0) t.toL=some (i:Int)) (hl:w.cell? (aq x (p+2))=some (.slice (some (aq g 0)) n cap)) (hi:i<n) (hg:w.heap[g]?=some (.cells Cg Tg (0,0)))
 (e0:w.cell? (aq g (i * 6))=some v0) (e1:w.cell? (aq g (i * 6+1))=some v1) (e2:w.cell? (aq g (i * 6+2))=some v2) (e3:w.cell? (aq g (i * 6+3))=some v3) (e4:w.cell? (aq g (i * 6+4))=some v4) (e5:w.cell? (aq g (i * 6+5))=some v5) :
 Calls Tryz.prog 174 #[pt x p,.agg #[iv num,iv cust,iv units,iv st,iv cents,iv upto]] w fun e w'=>e=.returned (.tuple #[])/\w'.heap[g]?=some (.cells (jnk Cg (i * 6) num cust units st cents upto) Tg (0,0))/\Same (fun b=>b=g) w w':=by
 have hxw:x<w.heap.size:=World.block_lt_of_cell? w _ h0
 have hgw:g<w.heap.size:=World.block_lt_of_cell? w _ e0
 have HG:Hid (∀ W,Below w.heap.size w W->Calls Tryz.prog 95 #[pt x p,.agg #[iv num,iv 0]] W fun e w'=>e=.returned (.tuple #[iv i,.bool true])/\Below W.heap.size W w'):=fun W hW=>by
  have:=jd3 x p t num 0 W ((hW.cell (p:=(aq x p)) hxw).trans h0) (t.at_below ht hW) hs
  rw [hn] at this
  exact this
 have HSIX:Hid (∀ w1,Below w.heap.size w w1->_):=fun w1 hb=>qdu (o:=i * 6) (c0:=num) (c1:=cust) (c2:=units) (c3:=st) (c4:=cents) (c5:=upto) hg hb
 replace hg:Hid _:=hg
 clear h0 ht hs hn
 have b0:(0:Int)<=(i:Int):=by omega
 have b1':(i:Int)<(n:Int):=by omega
 have d0:decide ((0:Int)<=(i:Int))=true:=by simp
 have d1:decide ((i:Int)<(n:Int))=true:=by simp;omega
 go_enter Tryz.func174,Tryz.ntmps174
 go_wp2_with fail
 have ob:Hid (((w.alloc (.cells #[iv num,iv cust,iv units,iv st,iv cents,iv upto] 184)).alloc (.cells #[iv num,iv 0] 178)).heap[w.heap.size]?=some (.cells #[iv num,iv cust,iv units,iv st,iv cents,iv upto] 184 (0,0))):=(Below.heap_alloc _ _ _ (by simp)).trans (heap_alloc_new w _)
 have kb:Hid (((w.alloc (.cells #[iv num,iv cust,iv units,iv st,iv cents,iv upto] 184)).alloc (.cells #[iv num,iv 0] 178)).heap[w.heap.size+1]?=some (.cells #[iv num,iv 0] 178 (0,0))):=by
  have h:=heap_alloc_new (w.alloc (.cells #[iv num,iv cust,iv units,iv st,iv cents,iv upto] 184)) (.cells #[iv num,iv 0] 178)
  rwa [show (w.alloc (.cells #[iv num,iv cust,iv units,iv st,iv cents,iv upto] 184)).heap.size=w.heap.size+1 by simp] at h
 have hbl:Hid (Below w.heap.size w ((w.alloc (.cells #[iv num,iv cust,iv units,iv st,iv cents,iv upto] 184)).alloc (.cells #[iv num,iv 0] 178))):=((Below.refl _ _).alloc (Nat.le_refl _) _).alloc (by simp) _
 generalize (w.alloc (.cells #[iv num,iv cust,iv units,iv st,iv cents,iv upto] 184)).alloc (.cells #[iv num,iv 0] 178)=W0 at ob kb hbl ⊢
 obtain ⟨y0,y1⟩:=jaa kb.out
 have hz:w.heap.size+1<W0.heap.size:=(blt kb.out)
 have hxW:x<W0.heap.size:=by omega
 go_region_held3 (fun w'=>w'.cell? (aq (w.heap.size+1) 0)=some (iv num)/\w'.cell? (aq (w.heap.size+1) 1)=some (iv 0)) (simp [go_sem, *])
  (first
    | (go_at_call 95;refine (HG.out _ bL).mono ?_;rintro e w1 ⟨rfl,b⟩
       have hb1:Below W0.heap.size W0 w1:=by first|exact b|exact Below.trans (show Below W0.heap.size W0 _ from bL) b
       have hbl1:Hid (Below w.heap.size w w1):=Below.trans hbl.out (hb1.mono hbl.out.size)
       have ob1:Hid _:=(hb1.block w.heap.size (by omega)).trans ob.out
       obtain ⟨q0,q1⟩:=jaa ((hb1.block (w.heap.size+1) hz).trans kb.out)
       have hz1:w.heap.size+1<w1.heap.size:=Nat.lt_of_lt_of_le hz hb1.size
       clear b hb1))
 obtain ⟨s0,s1,s2,s3,s4,s5⟩:=ja1 ob1.out
 have hg1:=(hbl1.out.block g hgw).trans hg.out
 have f0:=ja0 hg1 (i * 6)
 have f1:=ja0 hg1 (i * 6+1)
 have f2:=ja0 hg1 (i * 6+2)
 have f3:=ja0 hg1 (i * 6+3)
 have f4:=ja0 hg1 (i * 6+4)
 have f5:=ja0 hg1 (i * 6+5)
 replace hl:=(hbl1.out.cell (p:=(aq x (p+2))) hxw).trans hl
 replace e0:=(hbl1.out.cell (p:=(aq g (i * 6))) hgw).trans e0
 replace e1:=(hbl1.out.cell (p:=(aq g (i * 6+1))) hgw).trans e1
 replace e2:=(hbl1.out.cell (p:=(aq g (i * 6+2))) hgw).trans e2
 replace e3:=(hbl1.out.cell (p:=(aq g (i * 6+3))) hgw).trans e3
 replace e4:=(hbl1.out.cell (p:=(aq g (i * 6+4))) hgw).trans e4
 replace e5:=(hbl1.out.cell (p:=(aq g (i * 6+5))) hgw).trans e5
 have hx1:x<w1.heap.size:=by omega
 have hgz:g<w1.heap.size:=by omega
 have hw1:w.heap.size<w1.heap.size:=by omega
 clear y0 y1 q0 q1 HG hg1
 go_wp2_with fail
 go_region
 all_goals (first|go_end0|(go_wp2;go_end0)|(go_wp2;refine bodyPost_ret (results_none rfl _ _ _) rfl ?_))
 all_goals (obtain ⟨a,b⟩:=HSIX.out w1 hbl1.out;generalize (((((w1.setCell (aq g (i * 6)) (iv num)).setCell (aq g (i * 6+1)) (iv cust)).setCell (aq g (i * 6+2)) (iv units)).setCell (aq g (i * 6+3)) (iv st)).setCell (aq g (i * 6+4)) (iv cents)).setCell (aq g (i * 6+5)) (iv upto)=W5 at a b ⊢;exact ⟨rfl,a,jmp b⟩)
end Go.Proofs.YtfhncfghblkgeaaGreat
