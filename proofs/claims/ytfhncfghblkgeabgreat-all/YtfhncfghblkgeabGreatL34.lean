import Derived.Test.YtfhncfghblkgeabGreatL33
set_option maxRecDepth 100000
set_option maxHeartbeats 2000000
namespace Go.Proofs.YtfhncfghblkgeabGreat
open Go.RowKit
section
def Ord.untl (C:Cfg) (o:Ord):Int:=if o.state=12\/o.state=13 then o.upto else o.ended+C.keep
def zO (C:Cfg) (i:Nat) (o:Ord):POrd:=⟨(i:Int)+1,o.cust,o.units,o.state,o.cents,o.untl C⟩
def yC (C:Cfg) (st:Int):Int:=if st=13 then C.lease else if st=12 then C.wait else C.keep
structure relO (V:PV) (S:Sal) (last:Nat) (K:Nat->Prop):Prop where
 C:V.C=S.C
 now:V.now=S.now
 last:V.last=last
 tn:V.tn<=S.now
 once:xB V.tl
 tl:∀ p,p∈V.tl↔∃ i,K i/\V.tn<(S.os.getD i qD).untl S.C/\p=((S.os.getD i qD).untl S.C,(i:Int)+1)
 kin:∀ i,K i->i<S.os.length
 live:∀ i,i<S.os.length->(S.os.getD i qD).state=12\/(S.os.getD i qD).state=13->K i
 ls:Listed POrd.num V.ot V.ol
 ol:∀ o,o∈V.ol↔∃ i,K i/\o=zO S.C i (S.os.getD i qD)
 turns:xT V.qt S.os
 sizes:zS V.qz S.os
 held:V.held=qF S.os 13 0
 sold:V.sold=qF S.os 14 0
 lu:kZ V.lu (xW S.os)
 cust:∀ o∈S.os,o.cust≠0
def PV.led (V:PV) (c st d:Int):PV:={ V with held:=if st=13 then V.held+d else V.held,sold:=if st=14 then V.sold+d else V.sold,lu:=pI V.lu c st d }
def PV.qout (V:PV) (o:POrd):PV:={ V with qt:=xC (o.num,0) V.qt,qz:=xC (-o.units,o.num) V.qz }
def PV.qin (V:PV) (o:POrd):PV:={ V with qt:=zD (o.num,0) 0 V.qt,qz:=zD (-o.units,o.num) 0 V.qz }
def PV.moved (V:PV) (p:POrd) (st:Int):PV :=
 { V with
   tl:=vI V.tn (yL V.tl p.num) p.num (V.now+yC V.C st)
   qt:=if st=12 then zD (p.num,0) 0 (if p.st=12 then xC (p.num,0) V.qt else V.qt) else if p.st=12 then xC (p.num,0) V.qt else V.qt
   qz:=if st=12 then zD (-p.units,p.num) 0 (if p.st=12 then xC (-p.units,p.num) V.qz else V.qz) else if p.st=12 then xC (-p.units,p.num) V.qz else V.qz
   held:=if st=13 then (if p.st=13 then V.held+-p.units else V.held)+p.units else if p.st=13 then V.held+-p.units else V.held
   sold:=if st=14 then (if p.st=14 then V.sold+-p.units else V.sold)+p.units else if p.st=14 then V.sold+-p.units else V.sold
   lu:=pI (pI V.lu p.cust p.st (-p.units)) p.cust st p.units }
def POrd.to (p:POrd) (V:PV) (st:Int):POrd:={ p with st:=st,upto:=V.now+yC V.C st }
theorem wJ {now:Int} {L:List (Int × Int)} {id at':Int} (h:xB L) (ha:now<at') (q:Int × Int):q∈vI now (yL L id) id at'↔(q∈L/\q.2≠id)\/q=(at',id):=by
 have hu:=iE (id:=id) h
 have hx:¬ 0<=gY (yL L id) id:=by
  rw [mA]
  rintro ⟨p,hp,e⟩
  rw [hu,List.mem_filter] at hp
  simp [e] at hp
 unfold vI
 rw [uP uO,uP hx,List.mem_append,hu,List.mem_filter]
 simp
section
variable {V:PV} {S:Sal} {last:Nat} {K:Nat->Prop}
theorem relO.known (h:relO V S last K) {i:Nat} (hi:K i):∃ j:Nat,V.ol[j]?=some (zO S.C i (S.os.getD i qD))/\yO ((i:Int)+1,0) V.ot=some (j:Int):=by
 have hm:=(h.ol _).2 ⟨i,hi,rfl⟩
 obtain ⟨j,hj⟩:=List.mem_iff_getElem?.1 hm
 exact ⟨j,hj,vT h.ls hj⟩
theorem relO.strange (h:relO V S last K) {num:Int} (hi:∀ i,K i->num≠(i:Int)+1):yO (num,0) V.ot=none:=by
 refine nP h.ls (fun a ha e=>?_)
 obtain ⟨i,hk,rfl⟩:=(h.ol a).1 ha
 exact hi i hk e.symm
theorem relO.olen (h:relO V S last K):V.ol.length<=S.os.length:=by
 have h1:=yK (V.ol.map POrd.num) ((List.range S.os.length).map (fun i:Nat=>(i:Int)+1)) h.ls.once (fun y hy=>by
  obtain ⟨a,ha,rfl⟩:=List.mem_map.1 hy
  obtain ⟨i,hk,rfl⟩:=(h.ol a).1 ha
  exact List.mem_map.2 ⟨i,List.mem_range.2 (h.kin i hk),rfl⟩)
 simpa using h1
theorem relO.tlen (h:relO V S last K):V.tl.length<=S.os.length:=by
 have h1:=yK (V.tl.map (·.2)) ((List.range S.os.length).map (fun i:Nat=>(i:Int)+1)) h.once (fun y hy=>by
  obtain ⟨a,ha,rfl⟩:=List.mem_map.1 hy
  obtain ⟨i,hk,_,rfl⟩:=(h.tl a).1 ha
  exact List.mem_map.2 ⟨i,List.mem_range.2 (h.kin i hk),rfl⟩)
 simpa using h1
theorem pG (o:Ord) (st:Int):o.part st 0=if o.state=st then o.units else 0:=by
 unfold Ord.part Ord.is
 by_cases e:o.state=st<;>simp [e]
theorem relO.move (h:relO V S last K) {i:Nat} (hi:K i) {p:POrd} (h1:p.num=(i:Int)+1) (h2:p.cust=(S.os.getD i qD).cust) (h3:p.units=(S.os.getD i qD).units) (h4:p.st=(S.os.getD i qD).state) {st:Int} (hst:st≠12) {o:Ord} (g2:o.cust=p.cust) (g3:o.units=p.units) (g4:o.state=st) (g5:o.cents=p.cents) (g6:o.untl S.C=S.now+yC S.C st) (hs:1<=yC S.C st) {j:Nat} (hj:yO (p.num,0) V.ot=some (j:Int)) :
 relO { V.moved p st with ol:=V.ol.set j (p.to V st) } (S.put i o) last K:=by
 have hil:=h.kin i hi
 have hg:∀ k,(S.put i o).os.getD k qD=if k=i then o else S.os.getD k qD:=fun k=>zK o hil
 obtain ⟨j',hj1,hj2⟩:=h.known hi
 have ej:j'=j:=by
  rw [h1,hj2] at hj
  have e2:(j':Int)=(j:Int):=by simpa using hj
  omega
 subst ej
 have hp:p.to V st=zO S.C i o:=by
  unfold POrd.to zO
  rw [g2,g3,g4,g5,g6,h1,h.now,h.C]
 have hnum:(p.to V st).num=(zO S.C i (S.os.getD i qD)).num:=by rw [hp];rfl
 have hcu:o.cust=(S.os.getD i qD).cust:=g2.trans h2
 have hun:o.units=(S.os.getD i qD).units:=g3.trans h3
 have hc0:o.cust≠0:=by rw [hcu];exact h.cust _ (zG hil)
 have hlen:(S.put i o).os.length=S.os.length:=by show (S.os.set i o).length=_;simp
 have hv:(V.now+yC V.C st)=S.now+yC S.C st:=by rw [h.now,h.C]
 have htn:V.tn<S.now+yC S.C st:=by have:=h.tn;omega
 refine ⟨h.C,h.now,h.last,h.tn,rH (iY h.once),fun q=>?_,fun k hk=>by rw [hlen];exact h.kin k hk,fun k hk hs=>?_,Lj h.ls hj1 hnum,fun a=>?_,?_,?_,?_,?_,?_,?_⟩
 ·show q∈vI V.tn (yL V.tl p.num) p.num (V.now+yC V.C st)↔_
  rw [hv,wJ h.once htn,h.tl,h1]
  constructor
  ·rintro (⟨⟨k,k1,k2,rfl⟩,k3⟩|rfl)
   ·have e:k≠i:=fun e=>k3 (by rw [e])
    refine ⟨k,k1,?_,?_⟩
    ·rw [hg,uP e];exact k2
    ·rw [hg,uP e];rfl
   ·refine ⟨i,hi,?_,?_⟩
    ·rw [hg,uQ rfl];show V.tn<o.untl S.C;rw [g6];exact htn
    ·rw [hg,uQ rfl];show _=(o.untl S.C,_);rw [g6]
  ·rintro ⟨k,k1,k2,rfl⟩
   by_cases e:k=i
   ·subst e
    right
    rw [hg,uQ rfl]
    show (o.untl S.C,_)=_
    rw [g6]
   ·rw [hg,uP e] at k2 ⊢
    exact .inl ⟨⟨k,k1,k2,rfl⟩,fun c=>e (by simp at c;omega)⟩
 ·rw [hg] at hs
  by_cases e:k=i
  ·rw [e];exact hi
  ·rw [uP e] at hs
   exact h.live k (by rw [hlen] at hk;exact hk) hs
 ·show a∈V.ol.set j' (p.to V st)↔_
  rw [pC h.ls.once hj1 hnum,h.ol]
  constructor
  ·rintro (rfl|⟨⟨k,k1,rfl⟩,k2⟩)
   ·exact ⟨i,hi,by rw [hg,uQ rfl];exact hp⟩
   ·have e:k≠i:=fun e=>k2 (by rw [e])
    exact ⟨k,k1,by rw [hg,uP e];rfl⟩
  ·rintro ⟨k,k1,rfl⟩
   by_cases e:k=i
   ·subst e
    left
    rw [hg,uQ rfl]
    exact hp.symm
   ·rw [hg,uP e]
    exact .inr ⟨⟨k,k1,rfl⟩,fun c=>e (by simp [zO] at c;omega)⟩
 ·show xT (if st=12 then _ else if p.st=12 then xC (p.num,0) V.qt else V.qt) (S.os.set i o)
  rw [uP hst]
  split
  ·next e=>rw [h1];exact Ad h.turns hil o (by rw [g4];exact hst)
  ·next e=>exact Ha h.turns hil o (by rw [g4];exact hst) (by rw [← h4];exact e)
 ·show zS (if st=12 then _ else if p.st=12 then xC (-p.units,p.num) V.qz else V.qz) (S.os.set i o)
  rw [uP hst]
  split
  ·next e=>rw [h1,h3];exact Jn h.sizes hil o (by rw [g4];exact hst)
  ·next e=>exact Gs h.sizes hil o (by rw [g4];exact hst) (by rw [← h4];exact e)
 ·show (if st=13 then (if p.st=13 then V.held+-p.units else V.held)+p.units else if p.st=13 then V.held+-p.units else V.held)=qF (S.os.set i o) 13 0
  rw [xF hil,pG,pG,g4,g3,← h4,← h3,h.held]
  split<;>split<;>omega
 ·show (if st=14 then (if p.st=14 then V.sold+-p.units else V.sold)+p.units else if p.st=14 then V.sold+-p.units else V.sold)=qF (S.os.set i o) 14 0
  rw [xF hil,pG,pG,g4,g3,← h4,← h3,h.sold]
  split<;>split<;>omega
 ·show kZ (pI (pI V.lu p.cust p.st (-p.units)) p.cust st p.units) (xW (S.os.set i o))
  have:=Ns h.lu hil o hcu hun hc0
  rw [g4,g3,g2,← h4] at this
  exact this
 ·intro a ha
  rcases nF (show a∈S.os.set i o from ha) with rfl|ha
  ·exact hc0
  ·exact h.cust a ha
theorem relO.moveNew (h:relO V S (S.os.length+1) K) {p:POrd} (h1:p.num=(S.os.length:Int)+1) (h4:p.st=0) {st:Int} {o:Ord} (g2:o.cust=p.cust) (g3:o.units=p.units) (g4:o.state=st) (g5:o.cents=p.cents) (g6:o.untl S.C=S.now+yC S.C st) (hs:1<=yC S.C st) (hc0:p.cust≠0) (rm:Int) :
 relO { V.moved p st with ot:=zD (p.num,0) V.ol.length V.ot,ol:=V.ol++[p.to V st],orm:=rm } ({ S with os:=S.os++[o] }:Sal) (S.os.length+1) (fun k=>K k\/k=S.os.length):=by
 have hg:∀ k,k<S.os.length+1->({ S with os:=S.os++[o] }:Sal).os.getD k qD=if k=S.os.length then o else S.os.getD k qD:=fun k hk=>yI hk
 have hlen:({ S with os:=S.os++[o] }:Sal).os.length=S.os.length+1:=by show (S.os++[o]).length=_;simp
 have hp:p.to V st=zO S.C S.os.length o:=by
  unfold POrd.to zO
  rw [g2,g3,g4,g5,g6,h1,h.now,h.C]
 have hv:(V.now+yC V.C st)=S.now+yC S.C st:=by rw [h.now,h.C]
 have htn:V.tn<S.now+yC S.C st:=by have:=h.tn;omega
 have hfresh:∀ a∈V.ol,a.num≠(p.to V st).num:=fun a ha=>by
  obtain ⟨i,hk,rfl⟩:=(h.ol a).1 ha
  have:=h.kin i hk
  show (i:Int)+1≠p.num
  omega
 refine ⟨h.C,h.now,h.last,h.tn,rH (iY h.once),fun q=>?_,fun k hk=>?_,fun k hk hs=>?_,eW h.ls hfresh,fun a=>?_,?_,?_,?_,?_,?_,?_⟩
 ·show q∈vI V.tn (yL V.tl p.num) p.num (V.now+yC V.C st)↔_
  rw [hv,wJ h.once htn,h.tl,h1]
  constructor
  ·rintro (⟨⟨k,k1,k2,rfl⟩,k3⟩|rfl)
   ·have hk:=h.kin k k1
    have e:k≠S.os.length:=uO
    refine ⟨k,.inl k1,?_,?_⟩
    ·rw [hg k uO,uP e];exact k2
    ·rw [hg k uO,uP e]
   ·refine ⟨S.os.length,.inr rfl,?_,?_⟩
    ·rw [hg _ uO,uQ rfl];show V.tn<o.untl S.C;rw [g6];exact htn
    ·rw [hg _ uO,uQ rfl];show _=(o.untl S.C,_);rw [g6]
  ·rintro ⟨k,k1|rfl,k2,rfl⟩
   ·have hk:=h.kin k k1
    have e:k≠S.os.length:=uO
    rw [hg k uO,uP e] at k2 ⊢
    exact .inl ⟨⟨k,k1,k2,rfl⟩,fun c=>e (by simp at c;omega)⟩
   ·right
    rw [hg _ uO,uQ rfl]
    show (o.untl S.C,_)=_
    rw [g6]
 ·rw [hlen]
  rcases hk with hk|rfl
  ·have:=h.kin k hk;omega
  ·omega
 ·rw [hlen] at hk
  by_cases e:k=S.os.length
  ·exact .inr e
  ·rw [hg k hk,uP e] at hs
   exact .inl (h.live k uO hs)
 ·show a∈V.ol++[p.to V st]↔_
  rw [List.mem_append,h.ol]
  constructor
  ·rintro (⟨k,k1,rfl⟩|k1)
   ·have hk:=h.kin k k1
    exact ⟨k,.inl k1,by rw [hg k uO,uP uO]⟩
   ·have e:a=p.to V st:=by simpa using k1
    exact ⟨S.os.length,.inr rfl,by rw [hg _ uO,uQ rfl,e];exact hp⟩
  ·rintro ⟨k,k1|rfl,rfl⟩
   ·have hk:=h.kin k k1
    rw [hg k uO,uP uO]
    exact .inl ⟨k,k1,rfl⟩
   ·rw [hg _ uO,uQ rfl]
    exact .inr (by rw [hp];simp)
 ·show xT (if st=12 then zD (p.num,0) 0 (if p.st=12 then xC (p.num,0) V.qt else V.qt) else if p.st=12 then xC (p.num,0) V.qt else V.qt) (S.os++[o])
  rw [h4,uP (show ¬ (0:Int)=12 by decide)]
  split
  ·next e=>rw [h1];exact Cp h.turns o (by rw [g4];exact e)
  ·next e=>exact Ht h.turns o (by rw [g4];exact e)
 ·show zS (if st=12 then zD (-p.units,p.num) 0 (if p.st=12 then xC (-p.units,p.num) V.qz else V.qz) else if p.st=12 then xC (-p.units,p.num) V.qz else V.qz) (S.os++[o])
  rw [h4,uP (show ¬ (0:Int)=12 by decide)]
  split
  ·next e=>rw [h1,← g3];exact Ip h.sizes o (by rw [g4];exact e)
  ·next e=>exact Fd h.sizes o (by rw [g4];exact e)
 ·show (if st=13 then (if p.st=13 then V.held+-p.units else V.held)+p.units else if p.st=13 then V.held+-p.units else V.held)=qF (S.os++[o]) 13 0
  rw [jE,pG,g4,g3,h4,h.held,uP (show ¬ (0:Int)=13 by decide)]
  split<;>omega
 ·show (if st=14 then (if p.st=14 then V.sold+-p.units else V.sold)+p.units else if p.st=14 then V.sold+-p.units else V.sold)=qF (S.os++[o]) 14 0
  rw [jE,pG,g4,g3,h4,h.sold,uP (show ¬ (0:Int)=14 by decide)]
  split<;>omega
 ·show kZ (pI (pI V.lu p.cust p.st (-p.units)) p.cust st p.units) (xW (S.os++[o]))
  have h0:pI V.lu p.cust p.st (-p.units)=V.lu:=by rw [h4];unfold pI;rw [uP (by unfold ZW;omega)]
  rw [h0]
  have:=Ab h.lu o (by rw [g2];exact hc0)
  rw [g4,g3,g2] at this
  exact this
 ·intro a ha
  have ha':a∈S.os++[o]:=ha
  rcases List.mem_append.1 ha' with ha|ha
  ·exact h.cust a ha
  ·have e:a=o:=by simpa using ha
   rw [e,g2]
   exact hc0
theorem Jm {l:List Ent} (h:srt l):l.Nodup:=by
 unfold srt at h
 exact List.Pairwise.imp (R:=fun x y:Ent=>qR x.1 y.1=true) (S:=fun x y=>x≠y) (fun {a b} hab e=>zJ hab (by rw [e])) h
theorem Ap {Z:List Ent} {os:List Ord} (h:zS Z os):Z.length<=os.length:=by
 have h1:=yK Z ((List.range os.length).map (fun i:Nat=>((-(os.getD i qD).units,(i:Int)+1),(0:Int)))) (Jm h.1) (fun y hy=>by
  obtain ⟨i,hi,_,rfl⟩:=(h.2 y).1 hy
  exact List.mem_map.2 ⟨i,List.mem_range.2 hi,rfl⟩)
 simpa using h1
theorem Gi {Z:List Ent} {os:List Ord} (h:xT Z os):Z.length<=os.length:=by
 have h1:=yK Z ((List.range os.length).map (fun i:Nat=>(((i:Int)+1,(0:Int)),(0:Int)))) (Jm h.1) (fun y hy=>by
  obtain ⟨i,hi,_,rfl⟩:=(h.2 y).1 hy
  exact List.mem_map.2 ⟨i,List.mem_range.2 hi,rfl⟩)
 simpa using h1
theorem dU {S:Sal} (hI:salI S) (st c:Int):0<=qF S.os st c:=kH st c (fun o ho=>by have:=(hI.units o ho).1;omega)
theorem mP {S:Sal} (hI:salI S) {st c:Int} (hst:ZW st) (hc:c≠0\/st≠12):qF S.os st c<=4294967296:=by
 have hn:∀ o∈S.os,0<=o.units:=fun o ho=>by have:=(hI.units o ho).1;omega
 have h13:=dU hI 13 0
 have h14:=dU hI 14 0
 have h0:=hI.stock
 have h1:=hI.cfg
 rcases hst with rfl|rfl|rfl
 ·exact hI.cap c (hc.resolve_right vS)
 ·have:=cS hn 13 c;omega
 ·have:=cS hn 14 c;omega
structure boundsV (V:PV) (S:Sal):Prop where
 held:0<=V.held/\V.held<=4294967296
 sold:0<=V.sold/\V.sold<=4294967296
 stock:0<=V.C.stock/\V.C.stock<=4294967296
 lu:V.lu.length<=12884901888
 qt:V.qt.length<=4294967296
 qz:V.qz.length<=4294967296
 tl:V.tl.length<=4294967296
 ol:V.ol.length<=4294967296
 un:∀ st c,ZW st->c≠0->0<=xW S.os st c/\xW S.os st c<=4294967296
theorem relO.bounds (h:relO V S last K) (hI:salI S) (hl:S.os.length<=4294967296):boundsV V S:=by
 have h1:=Gi h.turns
 have h2:=Ap h.sizes
 have h3:=El h.lu
 have h4:=h.tlen
 have h5:=h.olen
 refine ⟨?_,?_,?_,uO,uO,uO,uO,uO,fun st c hst hc=>⟨dU hI st c,mP hI hst (.inl hc)⟩⟩
 ·rw [h.held];exact ⟨dU hI 13 0,mP hI (.inr (.inl rfl)) (.inr vO)⟩
 ·rw [h.sold];exact ⟨dU hI 14 0,mP hI (.inr (.inr rfl)) (.inr vO)⟩
 ·rw [h.C];exact ⟨hI.cfg.1,hI.cfg.2.1⟩
theorem Pv {L:List Ent} (hs:srt L) (c st d:Int) (hd:d≠0):(pI L c st d).length<=L.length+1:=by
 unfold pI
 split
 ·have:=Ux hs (c:=c) (st:=st) (d:=d) (fun _=>hd)
  split at this
  ·omega
  ·split at this<;>omega
 ·omega
structure relA (an:Int) (atl:List (Int × Int)) (att:List Ent) (al:List PAns) (keep:Int) (ansL:List Ans):Prop where
 once:xB atl
 ls:Listed PAns.t att al
 reqs:∀ j,j<ansL.length->an<(ansL.getD j zU).at'+keep->∃ a∈al,a.t=(ansL.getD j zU).token/\QH a.k a.t a.c a.u a.o=true/\(ansL.getD j zU).frame=strOfNums (qE a.k (qT a.k a.t a.c a.u a.o))/\(ansL.getD j zU).rep=⟨a.rk,a.ro,a.rc,a.ru⟩
 uniq:∀ i j,i<ansL.length->j<ansL.length->an<(ansL.getD i zU).at'+keep->an<(ansL.getD j zU).at'+keep->(ansL.getD i zU).token=(ansL.getD j zU).token->i=j
 al:∀ a∈al,∃ j,j<ansL.length/\an<(ansL.getD j zU).at'+keep/\a.t=(ansL.getD j zU).token
 tl:∀ p,p∈atl↔∃ j,j<ansL.length/\an<(ansL.getD j zU).at'+keep/\p=((ansL.getD j zU).at'+keep,(ansL.getD j zU).token)
end
end
theorem Ui (x l:Nat) (c st d:Int) (w:World) (h:st≠12/\st≠13/\st≠14) :
 Ca 153 #[pt x l,iv c,iv st,iv d] w fun e w'=>e=.returned (.tuple #[])/\Below w.heap.size w w':=by
 have q2:(st==12)=false:=by simpa using h.1
 have q3:(st==13)=false:=by simpa using h.2.1
 have q4:(st==14)=false:=by simpa using h.2.2
 go_enter Tryz.func153,Tryz.ntmps153
 go_wp2
 first|go_end0|refine uK (uR rfl _ _ _) rfl ?_
 exact ⟨rfl,uM _ _⟩
theorem Hv (x l:Nat) (t:Tr) (c:Int) (w:World) (h0:w.cell? (aq x (l+2))=some (.pointer t.addr)) (ht:t.at w) (hs:srt t.toL) :
 Ca 41 #[pt x l,iv c] w fun e w'=>e=.returned (.agg #[iv ((yO (c,13) t.toL).getD 0),iv ((yO (c,14) t.toL).getD 0),iv ((yO (c,12) t.toL).getD 0)])/\Below w.heap.size w w':=by
 have hxw:x<w.heap.size:=uC w _ h0
 have HG:Hid (∀ st:Int,(st=13\/st=14\/st=12)->∀ W,Below w.heap.size w W->Ca 62 #[pt x (l+2),.agg #[iv c,iv st]] W fun e w'=>(∃ kn,e=.returned (.tuple #[iv ((yO (c,st) t.toL).getD 0),.bool kn]))/\Below W.heap.size W w'):=fun st _ W hW=>by
  refine (xE x (l+2) t c st W ((hW.cell (p:=(aq x (l+2))) hxw).trans h0) (t.at_below ht hW) hs).mono ?_
  rintro e w' ⟨rfl,hb⟩
  exact ⟨⟨_,rfl⟩,hb⟩
 clear h0 ht hs
 go_enter Tryz.func41,Tryz.ntmps41
 go_wp2_with fail
 refine (HG.out 13 vO _ ((uM _ _).alloc (uA _) _)).mono ?_
 rintro e w1 ⟨⟨kn1,rfl⟩,b1⟩
 have n1:w1.heap[w.heap.size]?=some (.cells #[iv 0,iv 0,iv 0] 65):=(b1.block _ vS).trans (uF w _)
 have hb1:Below w.heap.size w w1:=uL ((uM _ _).alloc (uA _) _) (b1.mono vS)
 have z1:w.heap.size<w1.heap.size:=(blt n1)
 clear b1
 go_wp2_with fail
 refine (HG.out 14 vO _ hb1).mono ?_
 rintro e w2 ⟨⟨kn2,rfl⟩,b2⟩
 have n2:=(b2.block _ z1).trans n1
 have hb2:Below w.heap.size w w2:=uL hb1 (b2.mono uO)
 have z2:w.heap.size<w2.heap.size:=(blt n2)
 clear b2 n1
 go_wp2_with fail
 refine (HG.out 12 vO _ hb2).mono ?_
 rintro e w3 ⟨⟨kn3,rfl⟩,b3⟩
 have n3:=(b3.block _ z2).trans n2
 have hb3:Below w.heap.size w w3:=uL hb2 (b3.mono uO)
 have z3:w.heap.size<w3.heap.size:=(blt n3)
 clear b3 n2 HG
 obtain ⟨s0,s1,s2⟩:=jK n3
 have f0:=qA n3 0
 have f1:=qA n3 1
 have f2:=qA n3 2
 clear n3
 go_wp2
 refine uK (v:=.agg #[iv ((yO (c,13) t.toL).getD 0),iv ((yO (c,14) t.toL).getD 0),iv ((yO (c,12) t.toL).getD 0)]) (by simp [results,Tryz.results41,go_sem,s0,s1,s2]) rfl ⟨rfl,?_⟩
 exact bL
theorem zL {w w2:World} {B b:Nat} {v0 v1 v2 v3 v4 v5:Value} (h:Below B w w2) (hb:B<=b):Below B w ((((((w2.sc b 0 v0).sc b 1 v1).sc b 2 v2).sc b 3 v3).sc b 4 v4).sc b 5 v5) :=
 (((((h.setCell (p:=(aq b 0)) hb _).setCell (p:=(aq b 1)) hb _).setCell (p:=(aq b 2)) hb _).setCell (p:=(aq b 3)) hb _).setCell (p:=(aq b 4)) hb _).setCell (p:=(aq b 5)) hb _
theorem Wk (x p:Nat) (t:Tr) (num:Int) (w:World) (h0:w.cell? (aq x p)=some (.pointer t.addr)) (ht:t.at w) (hs:srt t.toL) (hn:yO (num,0) t.toL=none) :
 Ca 95 #[pt x p,iv num] w fun e w'=>e=.returned (.tuple #[.agg #[iv 0,iv 0,iv 0,iv 0,iv 0,iv 0],.bool false])/\Below w.heap.size w w':=by
 have hxw:x<w.heap.size:=uC w _ h0
 have HG:Hid (∀ W,Below w.heap.size w W->Ca 62 #[pt x p,.agg #[iv num,iv 0]] W fun e w'=>e=.returned (.tuple #[iv 0,.bool false])/\Below W.heap.size W w'):=fun W hW=>by
  have:=xE x p t num 0 W ((hW.cell (p:=(aq x p)) hxw).trans h0) (t.at_below ht hW) hs
  rw [hn] at this
  exact this
 clear h0 ht hs hn
 go_enter Tryz.func95,Tryz.ntmps95
 go_wp2_with fail
 refine (HG.out _ ((uM _ _).alloc (uA _) _)).mono ?_
 rintro e w1 ⟨rfl,b1⟩
 have n1:w1.heap[w.heap.size]?=some (.cells #[iv 0,iv 0,iv 0,iv 0,iv 0,iv 0] 142):=(b1.block _ vS).trans (uF w _)
 have hb1:Below w.heap.size w w1:=uL ((uM _ _).alloc (uA _) _) (b1.mono vS)
 have z1:w.heap.size<w1.heap.size:=(blt n1)
 obtain ⟨s0,s1,s2,s3,s4,s5⟩:=qB n1
 have f0:=qA n1 0
 have f1:=qA n1 1
 have f2:=qA n1 2
 have f3:=qA n1 3
 have f4:=qA n1 4
 have f5:=qA n1 5
 clear b1 n1
 go_wp2
 refine uK (v:=.tuple #[.agg #[iv 0,iv 0,iv 0,iv 0,iv 0,iv 0],.bool false]) (by simp [results,Tryz.results95,go_sem,s0,s1,s2,s3,s4,s5]) rfl ⟨rfl,?_⟩
 exact zL hb1 (uA _)
theorem Et (x p g n cap i:Nat) (t:Tr) (num c0 c1 c2 c3 c4 c5:Int) (w:World) (h0:w.cell? (aq x p)=some (.pointer t.addr)) (ht:t.at w) (hs:srt t.toL) (hn:yO (num,0) t.toL=some (i:Int)) (hl:w.cell? (aq x (p+2))=some (.slice (some (aq g 0)) n cap)) (hi:i<n)
 (e0:w.cell? (aq g (i * 6))=some (iv c0)) (e1:w.cell? (aq g (i * 6+1))=some (iv c1)) (e2:w.cell? (aq g (i * 6+2))=some (iv c2)) (e3:w.cell? (aq g (i * 6+3))=some (iv c3)) (e4:w.cell? (aq g (i * 6+4))=some (iv c4)) (e5:w.cell? (aq g (i * 6+5))=some (iv c5)) :
 Ca 95 #[pt x p,iv num] w fun e w'=>e=.returned (.tuple #[.agg #[iv c0,iv c1,iv c2,iv c3,iv c4,iv c5],.bool true])/\Below w.heap.size w w':=by
 have hxw:x<w.heap.size:=uC w _ h0
 have hgw:g<w.heap.size:=uC w _ e0
 have HG:Hid (∀ W,Below w.heap.size w W->Ca 62 #[pt x p,.agg #[iv num,iv 0]] W fun e w'=>e=.returned (.tuple #[iv i,.bool true])/\Below W.heap.size W w'):=fun W hW=>by
  have:=xE x p t num 0 W ((hW.cell (p:=(aq x p)) hxw).trans h0) (t.at_below ht hW) hs
  rw [hn] at this
  exact this
 clear h0 ht hs hn
 have b0:(0:Int)<=(i:Int):=uO
 have b1':(i:Int)<(n:Int):=uO
 have d0:decide ((i:Int)<0)=false:=by simp
 have d1:decide ((n:Int)<=(i:Int))=false:=by simp;omega
 go_enter Tryz.func95,Tryz.ntmps95
 go_wp2_with fail
 refine (HG.out _ ((uM _ _).alloc (uA _) _)).mono ?_
 rintro e w1 ⟨rfl,b1⟩
 have n1:w1.heap[w.heap.size]?=some (.cells #[iv 0,iv 0,iv 0,iv 0,iv 0,iv 0] 142):=(b1.block _ vS).trans (uF w _)
 have hb1:Below w.heap.size w w1:=uL ((uM _ _).alloc (uA _) _) (b1.mono vS)
 have z1:w.heap.size<w1.heap.size:=(blt n1)
 obtain ⟨s0,s1,s2,s3,s4,s5⟩:=qB n1
 have f0:=qA n1 0
 have f1:=qA n1 1
 have f2:=qA n1 2
 have f3:=qA n1 3
 have f4:=qA n1 4
 have f5:=qA n1 5
 replace hl:=(hb1.cell (p:=(aq x (p+2))) hxw).trans hl
 replace e0:=(hb1.cell (p:=(aq g (i * 6))) hgw).trans e0
 replace e1:=(hb1.cell (p:=(aq g (i * 6+1))) hgw).trans e1
 replace e2:=(hb1.cell (p:=(aq g (i * 6+2))) hgw).trans e2
 replace e3:=(hb1.cell (p:=(aq g (i * 6+3))) hgw).trans e3
 replace e4:=(hb1.cell (p:=(aq g (i * 6+4))) hgw).trans e4
 replace e5:=(hb1.cell (p:=(aq g (i * 6+5))) hgw).trans e5
 have hx1:x<w1.heap.size:=uO
 have hg1:g<w1.heap.size:=uO
 clear b1 n1
 go_wp2
 refine uK (v:=.tuple #[.agg #[iv c0,iv c1,iv c2,iv c3,iv c4,iv c5],.bool true]) (by simp [results,Tryz.results95,go_sem,s0,s1,s2,s3,s4,s5]) rfl ⟨rfl,?_⟩
 exact zL hb1 (uA _)
def wM (Cg:Array Value) (o:Nat) (c0 c1 c2 c3 c4 c5:Int):Array Value:=(((((Cg.setIfInBounds o (iv c0)).setIfInBounds (o+1) (iv c1)).setIfInBounds (o+2) (iv c2)).setIfInBounds (o+3) (iv c3)).setIfInBounds (o+4) (iv c4)).setIfInBounds (o+5) (iv c5)
theorem jI {own:Nat->Prop} {a b:World} (h:Same own a b) (g i:Nat) (v:Value) (hg:own g):Same own a (b.setCell (aq g i) v) :=
 ⟨h.os,h.tape,h.output,by have:=h.size;simpa [World.setCell] using this,fun k hk hn=>(uG _ (aq g i) _ _ (fun e=>hn (by rw [e];exact hg))).trans (h.block k hk hn)⟩
theorem So {w w1:World} {g o:Nat} {Cg:Array Value} {T:TypeId} {c0 c1 c2 c3 c4 c5:Int} (hg:w.heap[g]?=some (.cells Cg T (0,0))) (hb:Below w.heap.size w w1) :
 ((((((w1.setCell (aq g o) (iv c0)).setCell (aq g (o+1)) (iv c1)).setCell (aq g (o+2)) (iv c2)).setCell (aq g (o+3)) (iv c3)).setCell (aq g (o+4)) (iv c4)).setCell (aq g (o+5)) (iv c5)).heap[g]?=some (.cells (wM Cg o c0 c1 c2 c3 c4 c5) T (0,0)) ∧
 Same (fun b=>b=g) w ((((((w1.setCell (aq g o) (iv c0)).setCell (aq g (o+1)) (iv c1)).setCell (aq g (o+2)) (iv c2)).setCell (aq g (o+3)) (iv c3)).setCell (aq g (o+4)) (iv c4)).setCell (aq g (o+5)) (iv c5)):=by
 have hgw:g<w.heap.size:=(blt hg)
 have h1:=(hb.block g hgw).trans hg
 have h2:=uH (i:=o) h1 (iv c0)
 have h3:=uH (i:=o+1) h2 (iv c1)
 have h4:=uH (i:=o+2) h3 (iv c2)
 have h5:=uH (i:=o+3) h4 (iv c3)
 have h6:=uH (i:=o+4) h5 (iv c4)
 have h7:=uH (i:=o+5) h6 (iv c5)
 have j1:Same (fun b=>b=g) w w1:=Same.of_below hb
 have j2:=jI j1 g o (iv c0) rfl
 have j3:=jI j2 g (o+1) (iv c1) rfl
 have j4:=jI j3 g (o+2) (iv c2) rfl
 have j5:=jI j4 g (o+3) (iv c3) rfl
 have j6:=jI j5 g (o+4) (iv c4) rfl
 have j7:=jI j6 g (o+5) (iv c5) rfl
 exact ⟨h7,j7⟩
theorem Dl (x p g n cap i:Nat) (t:Tr) (Cg:Array Value) (Tg:TypeId) (num cust units st cents upto:Int) (v0 v1 v2 v3 v4 v5:Value) (w:World) (h0:w.cell? (aq x p)=some (.pointer t.addr)) (ht:t.at w) (hs:srt t.toL) (hn:yO (num,0) t.toL=some (i:Int)) (hl:w.cell? (aq x (p+2))=some (.slice (some (aq g 0)) n cap)) (hi:i<n) (hg:w.heap[g]?=some (.cells Cg Tg (0,0)))
 (e0:w.cell? (aq g (i * 6))=some v0) (e1:w.cell? (aq g (i * 6+1))=some v1) (e2:w.cell? (aq g (i * 6+2))=some v2) (e3:w.cell? (aq g (i * 6+3))=some v3) (e4:w.cell? (aq g (i * 6+4))=some v4) (e5:w.cell? (aq g (i * 6+5))=some v5) :
 Calls Tryz.prog 156 #[pt x p,.agg #[iv num,iv cust,iv units,iv st,iv cents,iv upto]] w fun e w'=>e=.returned (.tuple #[])/\w'.heap[g]?=some (.cells (wM Cg (i * 6) num cust units st cents upto) Tg (0,0))/\Same (fun b=>b=g) w w':=by
 have hxw:x<w.heap.size:=uC w _ h0
 have hgw:g<w.heap.size:=uC w _ e0
 have HG:Hid (∀ W,Below w.heap.size w W->Calls Tryz.prog 62 #[pt x p,.agg #[iv num,iv 0]] W fun e w'=>e=.returned (.tuple #[iv i,.bool true])/\Below W.heap.size W w'):=fun W hW=>by
  have:=xE x p t num 0 W ((hW.cell (p:=(aq x p)) hxw).trans h0) (t.at_below ht hW) hs
  rw [hn] at this
  exact this
 have HSIX:Hid (∀ w1,Below w.heap.size w w1->_):=fun w1 hb=>So (o:=i * 6) (c0:=num) (c1:=cust) (c2:=units) (c3:=st) (c4:=cents) (c5:=upto) hg hb
 replace hg:Hid _:=hg
 clear h0 ht hs hn
 have b0:(0:Int)<=(i:Int):=uO
 have b1':(i:Int)<(n:Int):=uO
 have d0:decide ((0:Int)<=(i:Int))=true:=by simp
 have d1:decide ((i:Int)<(n:Int))=true:=by simp;omega
 go_enter Tryz.func156,Tryz.ntmps156
 go_wp2_with fail
 have ob:Hid (((w.alloc (.cells #[iv num,iv cust,iv units,iv st,iv cents,iv upto] 142)).alloc (.cells #[iv num,iv 0] 136)).heap[w.heap.size]?=some (.cells #[iv num,iv cust,iv units,iv st,iv cents,iv upto] 142 (0,0))):=(uE _ _ _ vS).trans (uF w _)
 have kb:Hid (((w.alloc (.cells #[iv num,iv cust,iv units,iv st,iv cents,iv upto] 142)).alloc (.cells #[iv num,iv 0] 136)).heap[w.heap.size+1]?=some (.cells #[iv num,iv 0] 136 (0,0))):=by
  have h:=uF (w.alloc (.cells #[iv num,iv cust,iv units,iv st,iv cents,iv upto] 142)) (.cells #[iv num,iv 0] 136)
  rwa [show (w.alloc (.cells #[iv num,iv cust,iv units,iv st,iv cents,iv upto] 142)).heap.size=w.heap.size+1 by simp] at h
 have hbl:Hid (Below w.heap.size w ((w.alloc (.cells #[iv num,iv cust,iv units,iv st,iv cents,iv upto] 142)).alloc (.cells #[iv num,iv 0] 136))):=((uM _ _).alloc (uA _) _).alloc vS _
 generalize (w.alloc (.cells #[iv num,iv cust,iv units,iv st,iv cents,iv upto] 142)).alloc (.cells #[iv num,iv 0] 136)=W0 at ob kb hbl ⊢
 obtain ⟨y0,y1⟩:=qQ kb.out
 have hz:w.heap.size+1<W0.heap.size:=(blt kb.out)
 have hxW:x<W0.heap.size:=uO
 go_region_held3 (fun w'=>w'.cell? (aq (w.heap.size+1) 0)=some (iv num)/\w'.cell? (aq (w.heap.size+1) 1)=some (iv 0)) (simp [go_sem, *])
  (first
    | (go_at_call 62;refine (HG.out _ bL).mono ?_;rintro e w1 ⟨rfl,b⟩
       have hb1:Below W0.heap.size W0 w1:=by first|exact b|exact uL (show Below W0.heap.size W0 _ from bL) b
       have hbl1:Hid (Below w.heap.size w w1):=uL hbl.out (hb1.mono hbl.out.size)
       have ob1:Hid _:=(hb1.block w.heap.size uO).trans ob.out
       obtain ⟨q0,q1⟩:=qQ ((hb1.block (w.heap.size+1) hz).trans kb.out)
       have hz1:w.heap.size+1<w1.heap.size:=uB hz hb1.size
       clear b hb1))
 obtain ⟨s0,s1,s2,s3,s4,s5⟩:=qB ob1.out
 have hg1:=(hbl1.out.block g hgw).trans hg.out
 have f0:=qA hg1 (i * 6)
 have f1:=qA hg1 (i * 6+1)
 have f2:=qA hg1 (i * 6+2)
 have f3:=qA hg1 (i * 6+3)
 have f4:=qA hg1 (i * 6+4)
 have f5:=qA hg1 (i * 6+5)
 replace hl:=(hbl1.out.cell (p:=(aq x (p+2))) hxw).trans hl
 replace e0:=(hbl1.out.cell (p:=(aq g (i * 6))) hgw).trans e0
 replace e1:=(hbl1.out.cell (p:=(aq g (i * 6+1))) hgw).trans e1
 replace e2:=(hbl1.out.cell (p:=(aq g (i * 6+2))) hgw).trans e2
 replace e3:=(hbl1.out.cell (p:=(aq g (i * 6+3))) hgw).trans e3
 replace e4:=(hbl1.out.cell (p:=(aq g (i * 6+4))) hgw).trans e4
 replace e5:=(hbl1.out.cell (p:=(aq g (i * 6+5))) hgw).trans e5
 have hx1:x<w1.heap.size:=uO
 have hgz:g<w1.heap.size:=uO
 have hw1:w.heap.size<w1.heap.size:=uO
 clear y0 y1 q0 q1 HG hg1
 go_wp2_with fail
 go_region
 all_goals (first|go_end0|(go_wp2;go_end0)|(go_wp2;refine uK (uR rfl _ _ _) rfl ?_))
 all_goals (obtain ⟨a,b⟩:=HSIX.out w1 hbl1.out;generalize (((((w1.setCell (aq g (i * 6)) (iv num)).setCell (aq g (i * 6+1)) (iv cust)).setCell (aq g (i * 6+2)) (iv units)).setCell (aq g (i * 6+3)) (iv st)).setCell (aq g (i * 6+4)) (iv cents)).setCell (aq g (i * 6+5)) (iv upto)=W5 at a b ⊢;exact ⟨rfl,a,rX b⟩)
section
theorem jO {o o':Nat->Prop} {w w':World} (h:Same o w w') (hs:∀ k,o k->o' k):Same o' w w':=⟨h.os,h.tape,h.output,h.size,fun k hk hn=>h.block k hk (fun e=>hn (hs k e))⟩
section
variable {w w':World} {x:Nat} {own:Nat->Prop} {V:PV} {g:PG}
theorem PMem.stayX (h:PMem w x own V g) (hs:Same (fun b=>b=x) w w') {t:Tr} (ht:t.at w):t.at w':=h.stay (jO hs (fun _ e=>.inl e)) ht
theorem PMem.turnX (h:PMem w x own V g) (hs:Same (fun b=>b=x) w w') {V':PV} {g':PG}
 (blk:w'.heap[x]?=some (.cells (yS V' g') 105 (0,0)))
 (hC:V'.C=V.C) (hp:V'.pa=V.pa/\V'.pl=V.pl/\V'.pc=V.pc)
 (hw:V'.tw=V.tw/\g'.two=g.two/\V'.aw=V.aw/\g'.awo=g.awo) (hv:V'.tn=V.tn/\V'.tl=V.tl/\V'.an=V.an/\V'.atl=V.atl)
 (ot:g'.ot.at w'/\g'.ot.toL=V'.ot/\∀ k,g'.ot.has k->g.ot.has k\/w.heap.size<=k)
 (qt:g'.qt.at w'/\g'.qt.toL=V'.qt/\∀ k,g'.qt.has k->g.qt.has k\/w.heap.size<=k)
 (qz:g'.qz.at w'/\g'.qz.toL=V'.qz/\∀ k,g'.qz.has k->g.qz.has k\/w.heap.size<=k)
 (lu:g'.lu.at w'/\g'.lu.toL=V'.lu/\∀ k,g'.lu.has k->g.lu.has k\/w.heap.size<=k)
 (att:g'.att.at w'/\g'.att.toL=V'.att/\∀ k,g'.att.has k->g.att.has k\/w.heap.size<=k)
 (ho:V'.ol=V.ol/\g'.oo=g.oo/\g'.oc=g.oc) (ha:V'.al=V.al/\g'.ao=g.ao/\g'.ac=g.ac) :
 yN w w' x own V':=by
 obtain ⟨o1,o2,o3⟩:=ho
 obtain ⟨a1,a2,a3⟩:=ha
 refine h.turn (jO hs (fun _ e=>.inl e)) blk hC hp hw hv ot qt qz lu att ?_ ?_
 ·rw [o1,o2,o3]
  refine ⟨qG h.orow (fun k e=>hs.block k (uJ h.orow k e).2 (fun c=>qP h.orow h.blk vO (c▸e))),fun k e=>.inl e⟩
 ·rw [a1,a2,a3]
  refine ⟨qG h.arow (fun k e=>hs.block k (uJ h.arow k e).2 (fun c=>qP h.arow h.blk vO (c▸e))),fun k e=>.inl e⟩
end
section
variable {W:World} {x:Nat} {own:Nat->Prop} {V:PV}
theorem ZO (o:POrd) (h:QE W x own V) (hs1:srt V.qt) (hs2:srt V.qz) (hn1:yO (o.num,0) V.qt=none) (hn2:yO (-o.units,o.num) V.qz=none) (hz1:V.qt.length<=4611686018427387904) (hz2:V.qz.length<=4611686018427387904) (hu:0<=o.units/\o.units<=4294967296) :
 Ca 154 #[pt x 15,o.val] W fun e w'=>e=.returned (.tuple #[])/\yN W w' x own (V.qin o):=by
 obtain ⟨g,h⟩:=h
 refine (Ey x 15 (yS V g) 105 vO g.qt g.qz V.qt.length V.qz.length o.num o.cust o.units o.st o.cents o.upto W h.blk rfl rfl rfl rfl h.qt.1 h.qz.1 (by rw [h.qt.2];exact hs1) (by rw [h.qz.2];exact hs2) (by rw [h.qt.2];exact hn1) (by rw [h.qz.2];exact hn2) ⟨uO,uO⟩ ⟨uO,uO⟩ hu).mono ?_
 rintro e w' ⟨rfl,t1,t2,a1,a2,a3,a4,a5,a6,a7,a8⟩
 rw [h.qt.2] at a4
 rw [h.qz.2] at a5
 have e1:(V.qt.length:Int)+1=((zD (o.num,0) 0 V.qt).length:Int):=by rw [eB hn1];omega
 have e2:(V.qz.length:Int)+1=((zD (-o.units,o.num) 0 V.qz).length:Int):=by rw [eB hn2];omega
 rw [e1,e2] at a1
 exact ⟨rfl,h.turnX a6 (V':=V.qin o) (g':={ g with qt:=t1,qz:=t2 }) a1 rfl ⟨rfl,rfl,rfl⟩ ⟨rfl,rfl,rfl,rfl⟩ ⟨rfl,rfl,rfl,rfl⟩ ⟨h.stayX a6 h.ot.1,h.ot.2,fun _ e=>.inl e⟩ ⟨a2,a4,a7⟩ ⟨a3,a5,a8⟩ ⟨h.stayX a6 h.lu.1,h.lu.2,fun _ e=>.inl e⟩ ⟨h.stayX a6 h.att.1,h.att.2,fun _ e=>.inl e⟩ ⟨rfl,rfl,rfl⟩ ⟨rfl,rfl,rfl⟩⟩
theorem YU (o:POrd) (h:QE W x own V) (hs1:srt V.qt) (hs2:srt V.qz) {u1 u2:Int} (hn1:yO (o.num,0) V.qt=some u1) (hn2:yO (-o.units,o.num) V.qz=some u2) (hz1:V.qt.length<=4611686018427387904) (hz2:V.qz.length<=4611686018427387904) (hu:0<=o.units/\o.units<=4294967296) :
 Ca 152 #[pt x 15,o.val] W fun e w'=>e=.returned (.tuple #[])/\yN W w' x own (V.qout o):=by
 obtain ⟨g,h⟩:=h
 have l1:=bC hs1 hn1
 have l2:=bC hs2 hn2
 refine (Uq x 15 (yS V g) 105 vO g.qt g.qz V.qt.length V.qz.length o.num o.cust o.units o.st o.cents o.upto W h.blk rfl rfl rfl rfl h.qt.1 h.qz.1 (by rw [h.qt.2];exact hs1) (by rw [h.qz.2];exact hs2) u1 u2 (by rw [h.qt.2];exact hn1) (by rw [h.qz.2];exact hn2) ⟨uO,uO⟩ ⟨uO,uO⟩ hu).mono ?_
 rintro e w' ⟨rfl,t1,t2,a1,a2,a3,a4,a5,a6,a7,a8⟩
 rw [h.qt.2] at a4
 rw [h.qz.2] at a5
 have e1:(V.qt.length:Int) - 1=((xC (o.num,0) V.qt).length:Int):=uO
 have e2:(V.qz.length:Int) - 1=((xC (-o.units,o.num) V.qz).length:Int):=uO
 rw [e1,e2] at a1
 exact ⟨rfl,h.turnX a6 (V':=V.qout o) (g':={ g with qt:=t1,qz:=t2 }) a1 rfl ⟨rfl,rfl,rfl⟩ ⟨rfl,rfl,rfl,rfl⟩ ⟨rfl,rfl,rfl,rfl⟩ ⟨h.stayX a6 h.ot.1,h.ot.2,fun _ e=>.inl e⟩ ⟨a2,a4,a7⟩ ⟨a3,a5,a8⟩ ⟨h.stayX a6 h.lu.1,h.lu.2,fun _ e=>.inl e⟩ ⟨h.stayX a6 h.att.1,h.att.2,fun _ e=>.inl e⟩ ⟨rfl,rfl,rfl⟩ ⟨rfl,rfl,rfl⟩⟩
theorem tJ {L:List Ent} {f:Int->Int->Int} (h:kZ L f) {c st:Int} (hc:c≠0) (hst:ZW st):(yO (c,st) L).getD 0=f st c:=by
 rw [Di h hc hst]
 split
 ·next e=>simp [e]
 ·rfl
theorem Hp (c st d:Int) (f:Int->Int->Int) (h:QE W x own V) (hl:kZ V.lu f) (hc:c≠0) (hd:d≠0) (hdb:-4294967296<=d/\d<=4294967296) (hf:ZW st->-2305843009213693952<=f st c/\f st c<=2305843009213693952) (hz:V.lu.length<=4611686018427387904) (h13:-2305843009213693952<=V.held/\V.held<=2305843009213693952) (h14:-2305843009213693952<=V.sold/\V.sold<=2305843009213693952) :
 Ca 153 #[pt x 19,iv c,iv st,iv d] W fun e w'=>e=.returned (.tuple #[])/\yN W w' x own (V.led c st d):=by
 by_cases hst:ZW st
 ·have hg:=tJ hl hc hst
  have hfb:=hf hst
  obtain ⟨g,h⟩:=h
  have hs':srt g.lu.toL:=by rw [h.lu.2];exact hl.1
  have hb':-2305843009213693952<=(yO (c,st) g.lu.toL).getD 0/\(yO (c,st) g.lu.toL).getD 0<=2305843009213693952:=by rw [h.lu.2,hg];exact hfb
  have fin:∀ (w':World) (V':PV) (t:Tr),w'.heap[x]?=some (.cells (yS V' { g with lu:=t }) 105 (0,0))->t.at w'->t.toL=V'.lu->Same (fun b=>b=x) W w'->(∀ n,t.has n->g.lu.has n\/W.heap.size<=n)->V'={ V with held:=V'.held,sold:=V'.sold,lu:=V'.lu }->yN W w' x own V':=by
   intro w' V' t a1 a2 a3 a4 a5 e
   refine h.turnX a4 (V':=V') (g':={ g with lu:=t }) a1 ?_ ?_ ?_ ?_ ⟨h.stayX a4 h.ot.1,?_,fun _ e=>.inl e⟩ ⟨h.stayX a4 h.qt.1,?_,fun _ e=>.inl e⟩ ⟨h.stayX a4 h.qz.1,?_,fun _ e=>.inl e⟩ ⟨a2,a3,a5⟩ ⟨h.stayX a4 h.att.1,?_,fun _ e=>.inl e⟩ ?_ ?_
   ·rw [e]
   ·rw [e];exact ⟨rfl,rfl,rfl⟩
   ·rw [e];exact ⟨rfl,rfl,rfl,rfl⟩
   ·rw [e];exact ⟨rfl,rfl,rfl,rfl⟩
   ·rw [e];exact h.ot.2
   ·rw [e];exact h.qt.2
   ·rw [e];exact h.qz.2
   ·rw [e];exact h.att.2
   ·rw [e];exact ⟨rfl,rfl,rfl⟩
   ·rw [e];exact ⟨rfl,rfl,rfl⟩
  rcases hst with rfl|rfl|rfl
  ·refine (Ul x 19 (yS V g) 105 vO g.lu V.lu.length c d W h.blk rfl rfl h.lu.1 hs' (fun _=>hd) (by rw [h.lu.2]) uO ⟨uO,uO⟩ hb').mono ?_
   rintro e w' ⟨rfl,t,a1,a2,a3,a4,a5⟩
   rw [h.lu.2] at a1 a3
   exact ⟨rfl,fin w' (V.led c 12 d) t a1 a2 a3 a4 a5 rfl⟩
  ·refine (Vs x 19 (yS V g) 105 vO g.lu V.lu.length c d V.held rfl h13 W h.blk rfl rfl h.lu.1 hs' (fun _=>hd) (by rw [h.lu.2]) uO ⟨uO,uO⟩ hb').mono ?_
   rintro e w' ⟨rfl,t,a1,a2,a3,a4,a5⟩
   rw [h.lu.2] at a1 a3
   exact ⟨rfl,fin w' (V.led c 13 d) t a1 a2 a3 a4 a5 rfl⟩
  ·refine (Kt x 19 (yS V g) 105 vO g.lu V.lu.length c d V.sold rfl h14 W h.blk rfl rfl h.lu.1 hs' (fun _=>hd) (by rw [h.lu.2]) uO ⟨uO,uO⟩ hb').mono ?_
   rintro e w' ⟨rfl,t,a1,a2,a3,a4,a5⟩
   rw [h.lu.2] at a1 a3
   exact ⟨rfl,fin w' (V.led c 14 d) t a1 a2 a3 a4 a5 rfl⟩
 ·refine (Ui x 19 c st d W ⟨fun e=>hst (.inl e),fun e=>hst (.inr (.inl e)),fun e=>hst (.inr (.inr e))⟩).mono ?_
  rintro e w' ⟨rfl,hb⟩
  have e:V.led c st d=V:=by
   unfold PV.led pI
   rw [uP hst,uP (fun e=>hst (.inr (.inl e))),uP (fun e=>hst (.inr (.inr e)))]
  rw [e]
  exact ⟨rfl,bZ h hb⟩
theorem Yh (id:Int) (h:QE W x own V) (hz:V.tl.length<=4294967296) :
 Ca 81 #[pt V.tw 0,iv id] W fun e w'=>e=.returned (iv (gT V.tl id))/\yN W w' x own { V with tl:=yL V.tl id }:=by
 obtain ⟨g,h⟩:=h
 refine (timersW.unset id h.tw uO).mono ?_
 rintro e w' ⟨rfl,ha⟩
 exact ⟨rfl,h.turnT ha⟩
theorem Ig (id at':Int) (h:QE W x own V) (hz:V.tl.length<=4294967296) :
 Ca 79 #[pt V.tw 0,iv id,iv at'] W fun e w'=>e=.returned (iv (Xk V.tn V.tl id at'))/\yN W w' x own { V with tl:=vI V.tn V.tl id at' }:=by
 obtain ⟨g,h⟩:=h
 refine (timersW.set id at' h.tw uO).mono ?_
 rintro e w' ⟨rfl,ha⟩
 exact ⟨rfl,h.turnT ha⟩
theorem PMem.ocells {g:PG} (h:PMem W x own V g) {j:Nat} {o:POrd} (hj:V.ol[j]?=some o):∃ b Cb,g.oo=some (aq b 0)/\j<V.ol.length/\W.heap[b]?=some (.cells Cb 142)/\W.cell? (aq b (j * 6))=some (iv o.num)/\W.cell? (aq b (j * 6+1))=some (iv o.cust)/\W.cell? (aq b (j * 6+2))=some (iv o.units)/\W.cell? (aq b (j * 6+3))=some (iv o.st)/\W.cell? (aq b (j * 6+4))=some (iv o.cents)/\W.cell? (aq b (j * 6+5))=some (iv o.upto):=by
 have hl:=(List.getElem?_eq_some_iff.1 hj).1
 have hd:V.ol.getD j pord0=o:=by simp [List.getD,hj]
 have ho:=h.orow
 rcases ho.2 with ⟨_,h0⟩|⟨b,cap,cur,hv,_,hh,_⟩
 ·omega
 ·have hv':=hv
  simp only [Value.slice.injEq] at hv'
  obtain ⟨e1,_,e2⟩:=hv'
  rw [hv] at ho
  have c:∀ k,k<6->∀ u,o.vals[k]?=some u->W.cell? (aq b (j * 6+k))=some u:=fun k hk u hu=>by
   have:=ho.cells (g:=b) rfl _ _ ((Jk hl k hk).trans (by rw [hd];exact hu))
   rwa [Addr.add_lit,Nat.zero_add] at this
  exact ⟨b,cur,e1,hl,hh,c 0 uO _ rfl,c 1 uO _ rfl,c 2 uO _ rfl,c 3 uO _ rfl,c 4 uO _ rfl,c 5 uO _ rfl⟩
theorem wP {num:Int} {j:Nat} {o:POrd} (h:QE W x own V) (hs:srt V.ot) (hg:yO (num,0) V.ot=some (j:Int)) (hj:V.ol[j]?=some o) :
 Ca 95 #[pt x 11,iv num] W fun e w'=>e=.returned (.tuple #[o.val,.bool true])/\Below W.heap.size W w':=by
 obtain ⟨g,h⟩:=h
 obtain ⟨b,Cb,hb,hl,hC,c0,c1,c2,c3,c4,c5⟩:=h.ocells hj
 exact Et x 11 b V.ol.length g.oc j g.ot num o.num o.cust o.units o.st o.cents o.upto W (h.cell 11 _ rfl) h.ot.1 (by rw [h.ot.2];exact hs) (by rw [h.ot.2];exact hg) (by rw [← hb];exact h.cell 13 _ rfl) hl c0 c1 c2 c3 c4 c5
theorem Ax {num:Int} (h:QE W x own V) (hs:srt V.ot) (hg:yO (num,0) V.ot=none) :
 Ca 95 #[pt x 11,iv num] W fun e w'=>e=.returned (.tuple #[pord0.val,.bool false])/\Below W.heap.size W w':=by
 obtain ⟨g,h⟩:=h
 exact Wk x 11 g.ot num W (h.cell 11 _ rfl) h.ot.1 (by rw [h.ot.2];exact hs) (by rw [h.ot.2];exact hg)
end
end
section
def jP:List Value->Nat->List Value->List Value
 | xs,_,[]=>xs
 | xs,k,v :: vs=>jP (xs.set k v) (k+1) vs
theorem nW:∀ (vs xs:List Value) (k:Nat),(jP xs k vs).length=xs.length
 | [],_,_=>rfl
 | v :: vs,xs,k=>by rw [jP,nW vs];simp
theorem rM:∀ (vs A B:List Value) (k:Nat),jP (A++B) (A.length+k) vs=A++jP B k vs
 | [],_,_,_=>rfl
 | v :: vs,A,B,k=>by
   rw [jP,jP,List.set_append_right _ _ uO,show A.length+k - A.length=k by omega,show A.length+k+1=A.length+(k+1) by omega,rM vs]
theorem Qi:∀ (vs A B:List Value),A.length=vs.length->jP (A++B) 0 vs=vs++B:=by
 have key:∀ (vs P A B:List Value),A.length=vs.length->jP (P++(A++B)) P.length vs=P++(vs++B):=by
  intro vs
  induction vs with
  | nil =>
    intro P A B h
    have:A=[]:=List.length_eq_zero_iff.1 h
    subst this
    rfl
  | cons v vs ih =>
    intro P A B h
    cases A with
    | nil=>simp at h
    | cons a A =>
      have h':A.length=vs.length:=by simpa using h
      rw [jP]
      have e:(P++(a :: A++B)).set P.length v=(P++[v])++(A++B):=by
       rw [List.set_append_right _ _ uO]
       simp
      rw [e]
      have:=ih (P++[v]) A B h'
      simp only [List.length_append,List.length_cons,List.length_nil,Nat.zero_add] at this
      rw [this]
      simp
 intro vs A B h
 exact key vs [] A B h
theorem dQ (m:Nat):∀ (vs xs:List Value) (k:Nat),(jP xs k vs).take m=jP (xs.take m) k vs
 | [],_,_=>rfl
 | v :: vs,xs,k=>by rw [jP,jP,dQ m vs,List.take_set]
theorem nY {α:Type} {f:α->List Value} {s:Nat} (hf:∀ a,(f a).length=s):∀ (l:List α) (j:Nat) (o:α),j<l.length->jP (l.flatMap f) (j * s) (f o)=(l.set j o).flatMap f
 | [],_,_,h=>by simp at h
 | a :: l,0,o,_=>by
   rw [List.flatMap_cons,Nat.zero_mul,Qi _ _ _ ((hf a).trans (hf o).symm)]
   rfl
 | a :: l,j+1,o,h=>by
   have ih:=nY hf l j o (by simpa using h)
   have e:(j+1) * s=(f a).length+j * s:=by rw [hf,Nat.succ_mul];omega
   rw [List.flatMap_cons,e,rM,ih]
   rfl
theorem Ku (Cg:Array Value) (o:Nat) (p:POrd):(wM Cg o p.num p.cust p.units p.st p.cents p.upto).toList=jP Cg.toList o p.vals:=by
 unfold wM
 simp [jP,POrd.vals,Array.toList_setIfInBounds]
theorem aF (ol:List POrd):(kV ol).length=ol.length * 6:=by
 induction ol with
 | nil=>rfl
 | cons o ol ih=>simp only [kV,List.flatMap_cons,List.length_append] at ih ⊢;rw [ih];simp [POrd.vals];omega
theorem sW (ol:List POrd) (j:Nat) (o:POrd) (h:j<ol.length):jP (kV ol) (j * 6) o.vals=kV (ol.set j o):=nY (f:=POrd.vals) (s:=6) (fun _=>rfl) ol j o h
section
variable {W:World} {x:Nat} {own:Nat->Prop} {V:PV}
theorem Lz (o:POrd) {j:Nat} {o':POrd} (h:QE W x own V) (hs:srt V.ot) (hg:yO (o.num,0) V.ot=some (j:Int)) (hj:V.ol[j]?=some o') :
 Calls Tryz.prog 156 #[pt x 11,o.val] W fun e w'=>e=.returned (.tuple #[])/\yN W w' x own { V with ol:=V.ol.set j o }:=by
 obtain ⟨g,h⟩:=h
 obtain ⟨b,Cb,hb,hl,hC,c0,c1,c2,c3,c4,c5⟩:=h.ocells hj
 refine (Dl x 11 b V.ol.length g.oc j g.ot Cb 142 o.num o.cust o.units o.st o.cents o.upto _ _ _ _ _ _ W (h.cell 11 _ rfl) h.ot.1 (by rw [h.ot.2];exact hs) (by rw [h.ot.2];exact hg) (by rw [← hb];exact h.cell 13 _ rfl) hl hC c0 c1 c2 c3 c4 c5).mono ?_
 rintro e w' ⟨rfl,a1,a2⟩
 have hbo:Value.ownBlock (.slice g.oo V.ol.length g.oc)=some b:=by rw [hb];rfl
 have hs':Same (g.xs V x) W w':=jO a2 (fun k e=>.inr (.inl (by rw [hbo,show k=b from e])))
 have hbx:x≠b:=fun e=>qP h.orow h.blk vO (by rw [hbo,e])
 have hlen:(V.ol.set j o).length=V.ol.length:=by simp
 refine ⟨rfl,h.turn hs' (V':={ V with ol:=V.ol.set j o }) (g':=g) ?_ rfl ⟨rfl,rfl,rfl⟩ ⟨rfl,rfl,rfl,rfl⟩ ⟨rfl,rfl,rfl,rfl⟩ ⟨h.stay hs' h.ot.1,h.ot.2,fun _ e=>.inl e⟩ ⟨h.stay hs' h.qt.1,h.qt.2,fun _ e=>.inl e⟩ ⟨h.stay hs' h.qz.1,h.qz.2,fun _ e=>.inl e⟩ ⟨h.stay hs' h.lu.1,h.lu.2,fun _ e=>.inl e⟩ ⟨h.stay hs' h.att.1,h.att.2,fun _ e=>.inl e⟩ ?_ ?_⟩
 ·have:yS { V with ol:=V.ol.set j o } g=yS V g:=by unfold yS;simp only [hlen]
  rw [this]
  exact (a2.block x h.xw hbx).trans h.blk
 ·show w'.ownsRow 0 142 6 (.slice g.oo (V.ol.set j o).length g.oc) (V.ol.set j o).length (kV (V.ol.set j o))/\∀ k,Value.ownBlock (.slice g.oo (V.ol.set j o).length g.oc)=some k->_
  rw [hlen]
  refine ⟨⟨by rw [aF,hlen],.inr ?_⟩,fun k e=>.inl e⟩
  rcases h.orow.2 with ⟨_,h0⟩|⟨b',cap,cur,hv,q1,q2,q3,q4,q5,q6⟩
  ·omega
  ·simp only [Value.slice.injEq] at hv
   obtain ⟨e1,_,e2⟩:=hv
   have eb:b'=b:=by rw [hb] at e1;simp at e1;exact e1.symm
   subst eb
   rw [hC] at q2
   simp only [Option.some.injEq,Obj.cells.injEq,and_true] at q2
   subst q2
   refine ⟨b',cap,wM Cb (j * 6) o.num o.cust o.units o.st o.cents o.upto,by rw [hb,e2],q1,a1,q3,q4,by simp [wM];exact q5,?_⟩
   rw [Ku,dQ,q6,sW _ _ _ hl]
 ·refine ⟨qG h.arow (fun k e=>a2.block k (uJ h.arow k e).2 (fun c=>?_)),fun k e=>.inl e⟩
  exact qP h.arow hC vO (by rw [e,show k=b from c])
end
end
