import Derived.Test.YtfhncfghblkgeaaGreatL20
set_option maxRecDepth 100000
set_option maxHeartbeats 2000000
namespace Go.Proofs.YtfhncfghblkgeaaGreat
open Go.RowKit
section
theorem jci {o o':Nat->Prop} {w w':World} (h:Same o w w') (hs:∀ k,o k->o' k):Same o' w w':=⟨h.os,h.tape,h.output,h.size,fun k hk hn=>h.block k hk (fun e=>hn (hs k e))⟩
section
variable {w w':World} {x:Nat} {own:Nat->Prop} {V:PV} {g:PG}
theorem PMem.stayX (h:PMem w x own V g) (hs:Same (fun b=>b=x) w w') {t:Tr} (ht:t.at w):t.at w':=h.stay (jci hs (fun _ e=>.inl e)) ht
theorem PMem.turnX (h:PMem w x own V g) (hs:Same (fun b=>b=x) w w') {V':PV} {g':PG}
 (blk:w'.heap[x]?=some (.cells (jbe V' g') 117 (0,0)))
 (hC:V'.C=V.C) (hp:V'.pa=V.pa/\V'.pl=V.pl/\V'.pc=V.pc)
 (hw:V'.tw=V.tw/\g'.two=g.two/\V'.aw=V.aw/\g'.awo=g.awo) (hv:V'.tn=V.tn/\V'.tl=V.tl/\V'.an=V.an/\V'.atl=V.atl)
 (ot:g'.ot.at w'/\g'.ot.toL=V'.ot/\∀ k,g'.ot.has k->g.ot.has k\/w.heap.size<=k)
 (qt:g'.qt.at w'/\g'.qt.toL=V'.qt/\∀ k,g'.qt.has k->g.qt.has k\/w.heap.size<=k)
 (qz:g'.qz.at w'/\g'.qz.toL=V'.qz/\∀ k,g'.qz.has k->g.qz.has k\/w.heap.size<=k)
 (lu:g'.lu.at w'/\g'.lu.toL=V'.lu/\∀ k,g'.lu.has k->g.lu.has k\/w.heap.size<=k)
 (att:g'.att.at w'/\g'.att.toL=V'.att/\∀ k,g'.att.has k->g.att.has k\/w.heap.size<=k)
 (ho:V'.ol=V.ol/\g'.oo=g.oo/\g'.oc=g.oc) (ha:V'.al=V.al/\g'.ao=g.ao/\g'.ac=g.ac) :
 jb4 w w' x own V':=by
 obtain ⟨o1,o2,o3⟩:=ho
 obtain ⟨a1,a2,a3⟩:=ha
 refine h.turn (jci hs (fun _ e=>.inl e)) blk hC hp hw hv ot qt qz lu att ?_ ?_
 ·rw [o1,o2,o3]
  refine ⟨jad h.orow (fun k e=>hs.block k (World.ownsRow.lt h.orow k e).2 (fun c=>jb9 h.orow h.blk (by decide) (c▸e))),fun k e=>.inl e⟩
 ·rw [a1,a2,a3]
  refine ⟨jad h.arow (fun k e=>hs.block k (World.ownsRow.lt h.arow k e).2 (fun c=>jb9 h.arow h.blk (by decide) (c▸e))),fun k e=>.inl e⟩
end
section
variable {W:World} {x:Nat} {own:Nat->Prop} {V:PV}
theorem qgq (o:POrd) (h:psm W x own V) (hs1:srt V.qt) (hs2:srt V.qz) (hn1:jb5 (o.num,0) V.qt=none) (hn2:jb5 (-o.units,o.num) V.qz=none) (hz1:V.qt.length<=4611686018427387904) (hz2:V.qz.length<=4611686018427387904) (hu:0<=o.units/\o.units<=4294967296) :
 Calls Tryz.prog 172 #[pt x 15,o.val] W fun e w'=>e=.returned (.tuple #[])/\jb4 W w' x own (V.qin o):=by
 obtain ⟨g,h⟩:=h
 refine (qct x 15 (jbe V g) 117 (by decide) g.qt g.qz V.qt.length V.qz.length o.num o.cust o.units o.st o.cents o.upto W h.blk rfl rfl rfl rfl h.qt.1 h.qz.1 (by rw [h.qt.2];exact hs1) (by rw [h.qz.2];exact hs2) (by rw [h.qt.2];exact hn1) (by rw [h.qz.2];exact hn2) ⟨by omega,by omega⟩ ⟨by omega,by omega⟩ hu).mono ?_
 rintro e w' ⟨rfl,t1,t2,a1,a2,a3,a4,a5,a6,a7,a8⟩
 rw [h.qt.2] at a4
 rw [h.qz.2] at a5
 have e1:(V.qt.length:Int)+1=((jbl (o.num,0) 0 V.qt).length:Int):=by rw [jmx hn1];omega
 have e2:(V.qz.length:Int)+1=((jbl (-o.units,o.num) 0 V.qz).length:Int):=by rw [jmx hn2];omega
 rw [e1,e2] at a1
 exact ⟨rfl,h.turnX a6 (V':=V.qin o) (g':={ g with qt:=t1,qz:=t2 }) a1 rfl ⟨rfl,rfl,rfl⟩ ⟨rfl,rfl,rfl,rfl⟩ ⟨rfl,rfl,rfl,rfl⟩ ⟨h.stayX a6 h.ot.1,h.ot.2,fun _ e=>.inl e⟩ ⟨a2,a4,a7⟩ ⟨a3,a5,a8⟩ ⟨h.stayX a6 h.lu.1,h.lu.2,fun _ e=>.inl e⟩ ⟨h.stayX a6 h.att.1,h.att.2,fun _ e=>.inl e⟩ ⟨rfl,rfl,rfl⟩ ⟨rfl,rfl,rfl⟩⟩
theorem qfj (o:POrd) (h:psm W x own V) (hs1:srt V.qt) (hs2:srt V.qz) {u1 u2:Int} (hn1:jb5 (o.num,0) V.qt=some u1) (hn2:jb5 (-o.units,o.num) V.qz=some u2) (hz1:V.qt.length<=4611686018427387904) (hz2:V.qz.length<=4611686018427387904) (hu:0<=o.units/\o.units<=4294967296) :
 Calls Tryz.prog 170 #[pt x 15,o.val] W fun e w'=>e=.returned (.tuple #[])/\jb4 W w' x own (V.qout o):=by
 obtain ⟨g,h⟩:=h
 have l1:=jjn hs1 hn1
 have l2:=jjn hs2 hn2
 refine (jt0 x 15 (jbe V g) 117 (by decide) g.qt g.qz V.qt.length V.qz.length o.num o.cust o.units o.st o.cents o.upto W h.blk rfl rfl rfl rfl h.qt.1 h.qz.1 (by rw [h.qt.2];exact hs1) (by rw [h.qz.2];exact hs2) u1 u2 (by rw [h.qt.2];exact hn1) (by rw [h.qz.2];exact hn2) ⟨by omega,by omega⟩ ⟨by omega,by omega⟩ hu).mono ?_
 rintro e w' ⟨rfl,t1,t2,a1,a2,a3,a4,a5,a6,a7,a8⟩
 rw [h.qt.2] at a4
 rw [h.qz.2] at a5
 have e1:(V.qt.length:Int) - 1=((jd0 (o.num,0) V.qt).length:Int):=by omega
 have e2:(V.qz.length:Int) - 1=((jd0 (-o.units,o.num) V.qz).length:Int):=by omega
 rw [e1,e2] at a1
 exact ⟨rfl,h.turnX a6 (V':=V.qout o) (g':={ g with qt:=t1,qz:=t2 }) a1 rfl ⟨rfl,rfl,rfl⟩ ⟨rfl,rfl,rfl,rfl⟩ ⟨rfl,rfl,rfl,rfl⟩ ⟨h.stayX a6 h.ot.1,h.ot.2,fun _ e=>.inl e⟩ ⟨a2,a4,a7⟩ ⟨a3,a5,a8⟩ ⟨h.stayX a6 h.lu.1,h.lu.2,fun _ e=>.inl e⟩ ⟨h.stayX a6 h.att.1,h.att.2,fun _ e=>.inl e⟩ ⟨rfl,rfl,rfl⟩ ⟨rfl,rfl,rfl⟩⟩
theorem jip {L:List Ent} {f:Int->Int->Int} (h:je4 L f) {c st:Int} (hc:c≠0) (hst:isL st):(jb5 (c,st) L).getD 0=f st c:=by
 rw [ju7 h hc hst]
 split
 ·next e=>simp [e]
 ·rfl
theorem jv7 (c st d:Int) (f:Int->Int->Int) (h:psm W x own V) (hl:je4 V.lu f) (hc:c≠0) (hd:d≠0) (hdb:-4294967296<=d/\d<=4294967296) (hf:isL st->-2305843009213693952<=f st c/\f st c<=2305843009213693952) (hz:V.lu.length<=4611686018427387904) (h13:-2305843009213693952<=V.held/\V.held<=2305843009213693952) (h14:-2305843009213693952<=V.sold/\V.sold<=2305843009213693952) :
 Calls Tryz.prog 171 #[pt x 19,iv c,iv st,iv d] W fun e w'=>e=.returned (.tuple #[])/\jb4 W w' x own (V.led c st d):=by
 by_cases hst:isL st
 ·have hg:=jip hl hc hst
  have hfb:=hf hst
  obtain ⟨g,h⟩:=h
  have hs':srt g.lu.toL:=by rw [h.lu.2];exact hl.1
  have hb':-2305843009213693952<=(jb5 (c,st) g.lu.toL).getD 0/\(jb5 (c,st) g.lu.toL).getD 0<=2305843009213693952:=by rw [h.lu.2,hg];exact hfb
  have fin:∀ (w':World) (V':PV) (t:Tr),w'.heap[x]?=some (.cells (jbe V' { g with lu:=t }) 117 (0,0))->t.at w'->t.toL=V'.lu->Same (fun b=>b=x) W w'->(∀ n,t.has n->g.lu.has n\/W.heap.size<=n)->V'={ V with held:=V'.held,sold:=V'.sold,lu:=V'.lu }->jb4 W w' x own V':=by
   intro w' V' t a1 a2 a3 a4 a5 e
   refine h.turnX a4 (V':=V') (g':={ g with lu:=t }) a1 ?_ ?_ ?_ ?_ ⟨h.stayX a4 h.ot.1,?_,fun _ e=>.inl e⟩ ⟨h.stayX a4 h.qt.1,?_,fun _ e=>.inl e⟩ ⟨h.stayX a4 h.qz.1,?_,fun _ e=>.inl e⟩ ⟨a2,a3,a5⟩ ⟨h.stayX a4 h.att.1,?_,fun _ e=>.inl e⟩ ?_ ?_
   ·rw [e]
   ·rw [e];exact ⟨rfl,rfl,rfl⟩
   ·rw [e];exact ⟨rfl,rfl,rfl,rfl⟩
   ·rw [e];exact ⟨rfl,rfl,rfl,rfl⟩
   ·rw [e];exact h.ot.2
   ·rw [e];exact h.qt.2
   ·rw [e];exact h.qz.2
   ·rw [e];exact h.att.2
   ·rw [e];exact ⟨rfl,rfl,rfl⟩
   ·rw [e];exact ⟨rfl,rfl,rfl⟩
  rcases hst with rfl|rfl|rfl
  ·refine (jso x 19 (jbe V g) 117 (by decide) g.lu V.lu.length c d W h.blk rfl rfl h.lu.1 hs' (fun _=>hd) (by rw [h.lu.2]) (by omega) ⟨by omega,by omega⟩ hb').mono ?_
   rintro e w' ⟨rfl,t,a1,a2,a3,a4,a5⟩
   rw [h.lu.2] at a1 a3
   exact ⟨rfl,fin w' (V.led c 12 d) t a1 a2 a3 a4 a5 rfl⟩
  ·refine (js8 x 19 (jbe V g) 117 (by decide) g.lu V.lu.length c d V.held rfl h13 W h.blk rfl rfl h.lu.1 hs' (fun _=>hd) (by rw [h.lu.2]) (by omega) ⟨by omega,by omega⟩ hb').mono ?_
   rintro e w' ⟨rfl,t,a1,a2,a3,a4,a5⟩
   rw [h.lu.2] at a1 a3
   exact ⟨rfl,fin w' (V.led c 13 d) t a1 a2 a3 a4 a5 rfl⟩
  ·refine (jsh x 19 (jbe V g) 117 (by decide) g.lu V.lu.length c d V.sold rfl h14 W h.blk rfl rfl h.lu.1 hs' (fun _=>hd) (by rw [h.lu.2]) (by omega) ⟨by omega,by omega⟩ hb').mono ?_
   rintro e w' ⟨rfl,t,a1,a2,a3,a4,a5⟩
   rw [h.lu.2] at a1 a3
   exact ⟨rfl,fin w' (V.led c 14 d) t a1 a2 a3 a4 a5 rfl⟩
 ·refine (jsk x 19 c st d W ⟨fun e=>hst (.inl e),fun e=>hst (.inr (.inl e)),fun e=>hst (.inr (.inr e))⟩).mono ?_
  rintro e w' ⟨rfl,hb⟩
  have e:V.led c st d=V:=by
   unfold PV.led jnj
   rw [if_neg hst,if_neg (fun e=>hst (.inr (.inl e))),if_neg (fun e=>hst (.inr (.inr e)))]
  rw [e]
  exact ⟨rfl,jko h hb⟩
theorem jp6 (id:Int) (h:psm W x own V) (hz:V.tl.length<=4294967296) :
 Calls Tryz.prog 77 #[pt V.tw 0,iv id] W fun e w'=>e=.returned (iv (jqo V.tl id))/\jb4 W w' x own { V with tl:=jbs V.tl id }:=by
 obtain ⟨g,h⟩:=h
 refine (timersW.unset id h.tw (by omega)).mono ?_
 rintro e w' ⟨rfl,ha⟩
 exact ⟨rfl,h.turnT ha⟩
theorem qbf (id at':Int) (h:psm W x own V) (hz:V.tl.length<=4294967296) :
 Calls Tryz.prog 75 #[pt V.tw 0,iv id,iv at'] W fun e w'=>e=.returned (iv (qdg V.tn V.tl id at'))/\jb4 W w' x own { V with tl:=jg1 V.tn V.tl id at' }:=by
 obtain ⟨g,h⟩:=h
 refine (timersW.set id at' h.tw (by omega)).mono ?_
 rintro e w' ⟨rfl,ha⟩
 exact ⟨rfl,h.turnT ha⟩
theorem PMem.ocells {g:PG} (h:PMem W x own V g) {j:Nat} {o:POrd} (hj:V.ol[j]?=some o):∃ b Cb,g.oo=some (aq b 0)/\j<V.ol.length/\W.heap[b]?=some (.cells Cb 184 (0,0))/\W.cell? (aq b (j * 6))=some (iv o.num)/\W.cell? (aq b (j * 6+1))=some (iv o.cust)/\W.cell? (aq b (j * 6+2))=some (iv o.units)/\W.cell? (aq b (j * 6+3))=some (iv o.st)/\W.cell? (aq b (j * 6+4))=some (iv o.cents)/\W.cell? (aq b (j * 6+5))=some (iv o.upto):=by
 have hl:=(List.getElem?_eq_some_iff.1 hj).1
 have hd:V.ol.getD j pord0=o:=by simp [List.getD,hj]
 have ho:=h.orow
 rcases ho.2 with ⟨_,h0⟩|⟨b,cap,cur,hv,_,hh,_⟩
 ·omega
 ·have hv':=hv
  simp only [Value.slice.injEq] at hv'
  obtain ⟨e1,_,e2⟩:=hv'
  rw [hv] at ho
  have c:∀ k,k<6->∀ u,o.vals[k]?=some u->W.cell? (aq b (j * 6+k))=some u:=fun k hk u hu=>by
   have:=ho.cells (g:=b) rfl _ _ ((jrp hl k hk).trans (by rw [hd];exact hu))
   rwa [Addr.add_lit,Nat.zero_add] at this
  exact ⟨b,cur,e1,hl,hh,c 0 (by omega) _ rfl,c 1 (by omega) _ rfl,c 2 (by omega) _ rfl,c 3 (by omega) _ rfl,c 4 (by omega) _ rfl,c 5 (by omega) _ rfl⟩
theorem joa {num:Int} {j:Nat} {o:POrd} (h:psm W x own V) (hs:srt V.ot) (hg:jb5 (num,0) V.ot=some (j:Int)) (hj:V.ol[j]?=some o) :
 Calls Tryz.prog 131 #[pt x 11,iv num] W fun e w'=>e=.returned (.tuple #[o.val,.bool true])/\Below W.heap.size W w':=by
 obtain ⟨g,h⟩:=h
 obtain ⟨b,Cb,hb,hl,hC,c0,c1,c2,c3,c4,c5⟩:=h.ocells hj
 exact qb7 x 11 b V.ol.length g.oc j g.ot num o.num o.cust o.units o.st o.cents o.upto W (h.cell 11 _ rfl) h.ot.1 (by rw [h.ot.2];exact hs) (by rw [h.ot.2];exact hg) (by rw [← hb];exact h.cell 13 _ rfl) hl c0 c1 c2 c3 c4 c5
theorem jzt {num:Int} (h:psm W x own V) (hs:srt V.ot) (hg:jb5 (num,0) V.ot=none) :
 Calls Tryz.prog 131 #[pt x 11,iv num] W fun e w'=>e=.returned (.tuple #[pord0.val,.bool false])/\Below W.heap.size W w':=by
 obtain ⟨g,h⟩:=h
 exact qe6 x 11 g.ot num W (h.cell 11 _ rfl) h.ot.1 (by rw [h.ot.2];exact hs) (by rw [h.ot.2];exact hg)
end
end
section
def jcm:List Value->Nat->List Value->List Value
 | xs,_,[]=>xs
 | xs,k,v :: vs=>jcm (xs.set k v) (k+1) vs
theorem ji7:∀ (vs xs:List Value) (k:Nat),(jcm xs k vs).length=xs.length
 | [],_,_=>rfl
 | v :: vs,xs,k=>by rw [jcm,ji7 vs];simp
theorem jie:∀ (vs A B:List Value) (k:Nat),jcm (A++B) (A.length+k) vs=A++jcm B k vs
 | [],_,_,_=>rfl
 | v :: vs,A,B,k=>by
   rw [jcm,jcm,List.set_append_right _ _ (by omega),show A.length+k - A.length=k by omega,show A.length+k+1=A.length+(k+1) by omega,jie vs]
theorem jr9:∀ (vs A B:List Value),A.length=vs.length->jcm (A++B) 0 vs=vs++B:=by
 have key:∀ (vs P A B:List Value),A.length=vs.length->jcm (P++(A++B)) P.length vs=P++(vs++B):=by
  intro vs
  induction vs with
  | nil =>
    intro P A B h
    have:A=[]:=List.length_eq_zero_iff.1 h
    subst this
    rfl
  | cons v vs ih =>
    intro P A B h
    cases A with
    | nil=>simp at h
    | cons a A =>
      have h':A.length=vs.length:=by simpa using h
      rw [jcm]
      have e:(P++(a :: A++B)).set P.length v=(P++[v])++(A++B):=by
       rw [List.set_append_right _ _ (by omega)]
       simp
      rw [e]
      have:=ih (P++[v]) A B h'
      simp only [List.length_append,List.length_cons,List.length_nil,Nat.zero_add] at this
      rw [this]
      simp
 intro vs A B h
 exact key vs [] A B h
theorem jfn (m:Nat):∀ (vs xs:List Value) (k:Nat),(jcm xs k vs).take m=jcm (xs.take m) k vs
 | [],_,_=>rfl
 | v :: vs,xs,k=>by rw [jcm,jcm,jfn m vs,List.take_set]
theorem ji3 {α:Type} {f:α->List Value} {s:Nat} (hf:∀ a,(f a).length=s):∀ (l:List α) (j:Nat) (o:α),j<l.length->jcm (l.flatMap f) (j * s) (f o)=(l.set j o).flatMap f
 | [],_,_,h=>by simp at h
 | a :: l,0,o,_=>by
   rw [List.flatMap_cons,Nat.zero_mul,jr9 _ _ _ ((hf a).trans (hf o).symm)]
   rfl
 | a :: l,j+1,o,h=>by
   have ih:=ji3 hf l j o (by simpa using h)
   have e:(j+1) * s=(f a).length+j * s:=by rw [hf,Nat.succ_mul];omega
   rw [List.flatMap_cons,e,jie,ih]
   rfl
theorem jsp (Cg:Array Value) (o:Nat) (p:POrd):(jnk Cg o p.num p.cust p.units p.st p.cents p.upto).toList=jcm Cg.toList o p.vals:=by
 unfold jnk
 simp [jcm,POrd.vals,Array.toList_setIfInBounds]
theorem jjo (ol:List POrd):(jdv ol).length=ol.length * 6:=by
 induction ol with
 | nil=>rfl
 | cons o ol ih=>simp only [jdv,List.flatMap_cons,List.length_append] at ih ⊢;rw [ih];simp [POrd.vals];omega
theorem joc (ol:List POrd) (j:Nat) (o:POrd) (h:j<ol.length):jcm (jdv ol) (j * 6) o.vals=jdv (ol.set j o):=ji3 (f:=POrd.vals) (s:=6) (fun _=>rfl) ol j o h
section
variable {W:World} {x:Nat} {own:Nat->Prop} {V:PV}
theorem jyi (o:POrd) {j:Nat} {o':POrd} (h:psm W x own V) (hs:srt V.ot) (hg:jb5 (o.num,0) V.ot=some (j:Int)) (hj:V.ol[j]?=some o') :
 Calls Tryz.prog 174 #[pt x 11,o.val] W fun e w'=>e=.returned (.tuple #[])/\jb4 W w' x own { V with ol:=V.ol.set j o }:=by
 obtain ⟨g,h⟩:=h
 obtain ⟨b,Cb,hb,hl,hC,c0,c1,c2,c3,c4,c5⟩:=h.ocells hj
 refine (jvh x 11 b V.ol.length g.oc j g.ot Cb 184 o.num o.cust o.units o.st o.cents o.upto _ _ _ _ _ _ W (h.cell 11 _ rfl) h.ot.1 (by rw [h.ot.2];exact hs) (by rw [h.ot.2];exact hg) (by rw [← hb];exact h.cell 13 _ rfl) hl hC c0 c1 c2 c3 c4 c5).mono ?_
 rintro e w' ⟨rfl,a1,a2⟩
 have hbo:Value.ownBlock (.slice g.oo V.ol.length g.oc)=some b:=by rw [hb];rfl
 have hs':Same (g.xs V x) W w':=jci a2 (fun k e=>.inr (.inl (by rw [hbo,show k=b from e])))
 have hbx:x≠b:=fun e=>jb9 h.orow h.blk (by decide) (by rw [hbo,e])
 have hlen:(V.ol.set j o).length=V.ol.length:=by simp
 refine ⟨rfl,h.turn hs' (V':={ V with ol:=V.ol.set j o }) (g':=g) ?_ rfl ⟨rfl,rfl,rfl⟩ ⟨rfl,rfl,rfl,rfl⟩ ⟨rfl,rfl,rfl,rfl⟩ ⟨h.stay hs' h.ot.1,h.ot.2,fun _ e=>.inl e⟩ ⟨h.stay hs' h.qt.1,h.qt.2,fun _ e=>.inl e⟩ ⟨h.stay hs' h.qz.1,h.qz.2,fun _ e=>.inl e⟩ ⟨h.stay hs' h.lu.1,h.lu.2,fun _ e=>.inl e⟩ ⟨h.stay hs' h.att.1,h.att.2,fun _ e=>.inl e⟩ ?_ ?_⟩
 ·have:jbe { V with ol:=V.ol.set j o } g=jbe V g:=by unfold jbe;simp only [hlen]
  rw [this]
  exact (a2.block x h.xw hbx).trans h.blk
 ·show w'.ownsRow 0 184 6 (.slice g.oo (V.ol.set j o).length g.oc) (V.ol.set j o).length (jdv (V.ol.set j o))/\∀ k,Value.ownBlock (.slice g.oo (V.ol.set j o).length g.oc)=some k->_
  rw [hlen]
  refine ⟨⟨by rw [jjo,hlen],.inr ?_⟩,fun k e=>.inl e⟩
  rcases h.orow.2 with ⟨_,h0⟩|⟨b',cap,cur,hv,q1,q2,q3,q4,q5,q6⟩
  ·omega
  ·simp only [Value.slice.injEq] at hv
   obtain ⟨e1,_,e2⟩:=hv
   have eb:b'=b:=by rw [hb] at e1;simp at e1;exact e1.symm
   subst eb
   rw [hC] at q2
   simp only [Option.some.injEq,Obj.cells.injEq,and_true] at q2
   subst q2
   refine ⟨b',cap,jnk Cb (j * 6) o.num o.cust o.units o.st o.cents o.upto,by rw [hb,e2],q1,a1,q3,q4,by simp [jnk];exact q5,?_⟩
   rw [jsp,jfn,q6,joc _ _ _ hl]
 ·refine ⟨jad h.arow (fun k e=>a2.block k (World.ownsRow.lt h.arow k e).2 (fun c=>?_)),fun k e=>.inl e⟩
  exact jb9 h.arow hC (by decide) (by rw [e,show k=b from c])
end
end
theorem Tryz.infoPOrder:(Tryz.prog.info? 184).map (fun i=>(i.zero,i.size,i.bytes))=some (some (.agg #[iv 0,iv 0,iv 0,iv 0,iv 0,iv 0]),6,48):=by kernel_rfl
def jpr (w w':World) (B x p:Nat) (C:Array Value) (T:TypeId) (t:Tr) (s num:Int) (v:Value) (n:Nat) (E L:List Value):Prop :=
 ∃ (t':Tr) (g cap:Nat),w'.heap[x]?=some (.cells (((C.setIfInBounds (p+1) (iv (s+1))).setIfInBounds p (.pointer t'.addr)).setIfInBounds (p+2) (.slice (some (aq g 0)) (n+1) cap)) T (0,0))/\t'.at w'/\t'.toL=jbl (num,0) n t.toL/\w'.ownsRow B 184 6 (.slice (some (aq g 0)) (n+1) cap) (n+1) (E++L)/\Same (fun b=>b=x\/v.ownBlock=some b) w w'/\(∀ k,t'.has k->t.has k\/w.heap.size<=k)/\(v.ownBlock=some g\/w.heap.size<=g)
def jge (w w':World) (B x p:Nat) (C:Array Value) (T:TypeId) (t:Tr) (s num:Int) (v:Value) (n:Nat) (E L:List Value) (rm:Int):Prop :=
 ∃ (t':Tr) (g cap:Nat),w'.heap[x]?=some (.cells ((((C.setIfInBounds (p+1) (iv (s+1))).setIfInBounds p (.pointer t'.addr)).setIfInBounds (p+2) (.slice (some (aq g 0)) (n+1) cap)).setIfInBounds (p+3) (iv rm)) T (0,0))/\t'.at w'/\t'.toL=jbl (num,0) n t.toL/\w'.ownsRow B 184 6 (.slice (some (aq g 0)) (n+1) cap) (n+1) (E++L)/\Same (fun b=>b=x\/v.ownBlock=some b) w w'/\(∀ k,t'.has k->t.has k\/w.heap.size<=k)/\(v.ownBlock=some g\/w.heap.size<=g)
theorem qad {w w':World} {B x p n:Nat} {C:Array Value} {T:TypeId} (hT:T≠211) (hT2:T≠184) {t:Tr} {s num:Int} {v:Value} {E L:List Value} {rm rm':Int} (h2:C[p+2]?=some v) (h3:C[p+3]?=some (iv rm)) (hA:jpr w w' B x p C T t s num v n E L) :
 ∃ gg cp:Nat,w'.cell? (aq x (p+2))=some (.slice (some (aq gg 0)) (n+1) cp)/\w'.cell? (aq x (p+3))=some (iv rm)/\w'.frozen? (aq x (p+3))=false/\x<w'.heap.size/\(rm'=rm->jge w w' B x p C T t s num v n E L rm')/\jge w (w'.setCell (aq x (p+3)) (iv rm')) B x p C T t s num v n E L rm':=by
 obtain ⟨t',g,cap,a1,a2,a3,a4,a5,a6,a7⟩:=hA
 have z2:p+2<C.size:=(blt h2)
 have e2:((((C.setIfInBounds (p+1) (iv (s+1))).setIfInBounds p (.pointer t'.addr)).setIfInBounds (p+2) (.slice (some (aq g 0)) (n+1) cap)))[p+2]?=some (.slice (some (aq g 0)) (n+1) cap):=by
  rw [Array.getElem?_setIfInBounds,if_pos rfl,if_pos (by simpa using z2)]
 have e3:((((C.setIfInBounds (p+1) (iv (s+1))).setIfInBounds p (.pointer t'.addr)).setIfInBounds (p+2) (.slice (some (aq g 0)) (n+1) cap)))[p+3]?=some (iv rm):=by
  rw [Array.getElem?_setIfInBounds,if_neg (by omega),Array.getElem?_setIfInBounds,if_neg (by omega),Array.getElem?_setIfInBounds,if_neg (by omega)];exact h3
 refine ⟨g,cap,by rw [Joins.cell_of_block a1];exact e2,by rw [Joins.cell_of_block a1];exact e3,ja0 a1 _,(blt a1),fun e=>⟨t',g,cap,?_,a2,a3,a4,a5,a6,a7⟩,⟨t',g,cap,Joins.block_setCell a1 _,t'.at_set a2 a1 hT,a3,?_,jce a5 x _ _ (.inl rfl),a6,a7⟩⟩
 ·rw [e,jga e3];exact a1
 ·exact jad a4 (fun k hk=>Below.heap_setCell _ (aq x (p+3)) _ _ (fun e=>jb9 a4 a1 (fun e=>hT2 e.symm) (by rw [hk,show k=x from e])))
theorem jos {w w':World} {B x p n:Nat} {C:Array Value} {T:TypeId} {t:Tr} {s num:Int} {v:Value} {E L:List Value} {rm:Int} (h:jge w w' B x p C T t s num v n E L rm):jge w w'.drew B x p C T t s num v n E L rm:=by
 obtain ⟨t',g,cap,a1,a2,a3,a4,a5,a6,a7⟩:=h
 exact ⟨t',g,cap,a1,t'.at_keep a2 (fun _ _=>rfl),a3,a4.drew,jmp a5,a6,a7⟩
theorem qcc {w W w4 w5:World} {B x p n g cap:Nat} {C:Array Value} {T:TypeId} (hT:T≠211) (hT2:T≠184) {t:Tr} {s num:Int} {v:Value} {E L:List Value} {O:Obj} (hW:Below w.heap.size w W) (hA:jbk W w4 x p C T (s+1) t (jbl (num,0) n t.toL)) (hvn:∀ k,v.ownBlock=some k->∃ Co,w4.heap[k]?=some (.cells Co 184 (0,0)))
 (hown:w5.ownsRow B 184 6 (.slice (some (aq g 0)) (n+1) cap) (n+1) (E++L)) (hg:(w4.alloc O).grownBy w5 v.ownBlock) (hat:v.ownBlock=some g\/g=w4.heap.size+1) :
 jpr w (w5.setCell (aq x (p+2)) (.slice (some (aq g 0)) (n+1) cap)) B x p C T t s num v n E L:=by
 obtain ⟨t',a1,a2,a3,a4,a5⟩:=hA
 have zW:=hW.size
 have z4:=a4.size
 have hx4:x<w4.heap.size:=(blt a1)
 have k1:∀ k,k<w4.heap.size->v.ownBlock≠some k->w5.heap[k]?=w4.heap[k]?:=fun k hk hn=>(hg.block k (by simp;omega) (fun e=>hn e.symm)).trans (Below.heap_alloc w4 O k hk)
 have z5:w4.heap.size+1<=w5.heap.size:=by have:=hg.size;simpa using this
 have hvx:v.ownBlock≠some x:=fun e=>by
  obtain ⟨Co,hC⟩:=hvn x e
  rw [a1] at hC
  simp only [Option.some.injEq,Obj.cells.injEq] at hC
  exact hT2 hC.2.1
 have hx5:=(k1 x hx4 hvx).trans a1
 have ks:∀ k,k≠x->(w5.setCell (aq x (p+2)) (.slice (some (aq g 0)) (n+1) cap)).heap[k]?=w5.heap[k]?:=fun k hk=>Below.heap_setCell _ (aq x (p+2)) _ _ hk
 have hgx:g≠x:=by
  rintro rfl
  rcases hat with e|e
  ·exact hvx e
  ·omega
 refine ⟨t',g,cap,Joins.block_setCell hx5 _,t'.at_keep a2 (fun k hk=>?_),a3,jad hown (fun k hk=>ks k (fun e=>hgx (by simp [Value.ownBlock] at hk;exact hk.trans e))),⟨hg.os.trans (a4.os.trans hW.os),hg.tape.trans (a4.tape.trans hW.tape),hg.output.trans (a4.output.trans hW.output),by simp [World.setCell];omega,fun k hk hn=>?_⟩,fun k hk=>(a5 k hk).imp id (fun e=>by omega),hat.imp id (fun e=>by omega)⟩
 ·have hk4:=t'.at_lt a2 hk
  obtain ⟨C',hC⟩:=t'.at_type a2 hk
  have hkx:k≠x:=fun e=>by
   rw [e,a1] at hC
   simp only [Option.some.injEq,Obj.cells.injEq] at hC
   exact hT hC.2.1
  refine (ks k hkx).trans (k1 k hk4 (fun e=>?_))
  obtain ⟨Co,hCo⟩:=hvn k e
  rw [hCo] at hC
  simp only [Option.some.injEq,Obj.cells.injEq] at hC
  exact absurd hC.2.1 (by decide)
 ·rw [ks k (fun e=>hn (.inl e)),k1 k (by omega) (fun e=>hn (.inr e)),a4.block k (by omega) (fun e=>hn (.inl e))]
  exact hW.block k hk
theorem qd0 (B x p n oc:Nat) (oo:Option Addr) (C:Array Value) (T:TypeId) (hT:T≠211) (hT2:T≠184) (t:Tr) (s num cust units st cents upto:Int) (E:List Value) (w:World) (hx:w.heap[x]?=some (.cells C T (0,0))) (h0:C[p]?=some (.pointer t.addr)) (h1:C[p+1]?=some (iv s)) (h2:C[p+2]?=some (.slice oo n oc)) (rm rm':Int) (h3:C[p+3]?=some (iv rm)) (hrm:rm'=if rm<(n:Int)+1 then (n:Int)+1 else rm) (ht:t.at w) (hs:srt t.toL) (hn:jb5 (num,0) t.toL=none) (hsz:0<=s/\s<9223372036854775807) (hO:w.ownsRow B 184 6 (.slice oo n oc) n E) (hl:n * 48+48<=140737488351232) (hB:B<=w.heap.size) :
 Calls Tryz.prog 174 #[pt x p,.agg #[iv num,iv cust,iv units,iv st,iv cents,iv upto]] w fun e w'=>e=.returned (.tuple #[])/\jge w w' B x p C T t s num (.slice oo n oc) n E [iv num,iv cust,iv units,iv st,iv cents,iv upto] rm':=by
 have hxw:x<w.heap.size:=(blt hx)
 have HG:Hid (∀ W,Below w.heap.size w W->Calls Tryz.prog 95 #[pt x p,.agg #[iv num,iv 0]] W fun e w'=>e=.returned (.tuple #[iv 0,.bool false])/\Below W.heap.size W w'):=fun W hW=>by
  have:=jd3 x p t num 0 W ((hW.cell (p:=(aq x p)) hxw).trans (by rw [Joins.cell_of_block hx];exact h0)) (t.at_below ht hW) hs
  rw [hn] at this
  exact this
 have HP:Hid (∀ W,Below w.heap.size w W->Calls Tryz.prog 112 #[pt x p,.agg #[iv num,iv 0],iv n] W fun e w'=>e=.returned (.tuple #[])/\jbk W w' x p C T (s+1) t (jbl (num,0) n t.toL)):=fun W hW=>ji2 x p C T hT t s num 0 n W ((hW.block x hxw).trans hx) h0 h1 (t.at_below ht hW) hs hn hsz
 have kl:w.cell? (aq x (p+2))=some (.slice oo n oc):=by rw [Joins.cell_of_block hx];exact h2
 have hvx:Value.ownBlock (.slice oo n oc)≠some x:=jb9 hO hx (fun e=>hT2 e.symm)
 have HAPP:Hid (∀ W w4,Below w.heap.size w W->jbk W w4 x p C T (s+1) t (jbl (num,0) n t.toL)->w4.ownsRow B 184 6 (.slice oo n oc) n E/\B<=w4.heap.size/\w4.cell? (aq x (p+2))=some (.slice oo n oc)/\w4.frozen? (aq x (p+2))=false/\x<w4.heap.size/\(∀ w5 O,(w4.alloc O).drew.grownBy w5 (Value.ownBlock (.slice oo n oc))->w5.cell? (aq x (p+2))=some (.slice oo n oc)/\w5.frozen? (aq x (p+2))=false)/\∀ w5 g cp O,w5.ownsRow B 184 6 (.slice (some (aq g 0)) (n+1) cp) (n+1) (E++[iv num,iv cust,iv units,iv st,iv cents,iv upto])->(w4.alloc O).grownBy w5 (Value.ownBlock (.slice oo n oc))->(Value.ownBlock (.slice oo n oc)=some g\/g=w4.heap.size+1)->jpr w (w5.setCell (aq x (p+2)) (.slice (some (aq g 0)) (n+1) cp)) B x p C T t s num (.slice oo n oc) n E [iv num,iv cust,iv units,iv st,iv cents,iv upto]):=fun W w4 hW hA=>by
  have hA0:=hA
  obtain ⟨t',a1,a2,a3,a4,a5⟩:=hA
  have zW:=hW.size
  have z4:=a4.size
  have hOW:=jbg hO hW (Nat.le_refl _)
  have hO4:w4.ownsRow B 184 6 (.slice oo n oc) n E:=jad hOW (fun k hk=>a4.block k (World.ownsRow.lt hOW k hk).2 (fun e=>hvx (by rw [hk];exact congrArg some e)))
  have e2:((C.setIfInBounds (p+1) (iv (s+1))).setIfInBounds p (.pointer t'.addr))[p+2]?=some (.slice oo n oc):=by
   rw [Array.getElem?_setIfInBounds,if_neg (by omega),Array.getElem?_setIfInBounds,if_neg (by omega)];exact h2
  have hx4:x<w4.heap.size:=(blt a1)
  refine ⟨hO4,by omega,by rw [Joins.cell_of_block a1];exact e2,ja0 a1 _,hx4,fun w5 O hg=>?_,fun w5 g cp O q1 q2 q3=>qcc hT hT2 hW hA0 (fun k hk=>?_) q1 q2 q3⟩
  ·have hx5:w5.heap[x]?=_:=(hg.block x (by simp;omega) (fun e=>hvx e.symm)).trans ((Below.heap_alloc w4 O x hx4).trans a1)
   exact ⟨by rw [Joins.cell_of_block hx5];exact e2,ja0 hx5 _⟩
  ·rcases hO4.2 with ⟨hh,_⟩|⟨g',cp',cur,hh,_,hgg,_⟩
   ·rw [hh] at hk;simp [Value.ownBlock] at hk
   ·rw [hh] at hk
    have e:g'=k:=by simpa [Value.ownBlock] using hk
    rw [← e]
    exact ⟨_,hgg⟩
 have HROOM:Hid (∀ W6,jpr w W6 B x p C T t s num (.slice oo n oc) n E [iv num,iv cust,iv units,iv st,iv cents,iv upto]->∃ gg cp:Nat,W6.cell? (aq x (p+2))=some (.slice (some (aq gg 0)) (n+1) cp)/\W6.cell? (aq x (p+3))=some (iv rm)/\W6.frozen? (aq x (p+3))=false/\x<W6.heap.size/\(rm'=rm->jge w W6 B x p C T t s num (.slice oo n oc) n E [iv num,iv cust,iv units,iv st,iv cents,iv upto] rm')/\jge w (W6.setCell (aq x (p+3)) (iv rm')) B x p C T t s num (.slice oo n oc) n E [iv num,iv cust,iv units,iv st,iv cents,iv upto] rm'):=fun W6 hA=>qad hT hT2 h2 h3 hA
 obtain ⟨i0,j0,j1,j2,j3⟩:=info_parts Tryz.infoPOrder
 clear h3
 clear hx h0 h1 h2 ht hs hn hsz hO hvx
 go_enter Tryz.func174,Tryz.ntmps174
 go_wp2_with fail
 have ob:Hid (((w.alloc (.cells #[iv num,iv cust,iv units,iv st,iv cents,iv upto] 184)).alloc (.cells #[iv num,iv 0] 178)).heap[w.heap.size]?=some (.cells #[iv num,iv cust,iv units,iv st,iv cents,iv upto] 184 (0,0))):=(Below.heap_alloc _ _ _ (by simp)).trans (heap_alloc_new w _)
 have kb:Hid (((w.alloc (.cells #[iv num,iv cust,iv units,iv st,iv cents,iv upto] 184)).alloc (.cells #[iv num,iv 0] 178)).heap[w.heap.size+1]?=some (.cells #[iv num,iv 0] 178 (0,0))):=by
  have h:=heap_alloc_new (w.alloc (.cells #[iv num,iv cust,iv units,iv st,iv cents,iv upto] 184)) (.cells #[iv num,iv 0] 178)
  rwa [show (w.alloc (.cells #[iv num,iv cust,iv units,iv st,iv cents,iv upto] 184)).heap.size=w.heap.size+1 by simp] at h
 have hbl:Hid (Below w.heap.size w ((w.alloc (.cells #[iv num,iv cust,iv units,iv st,iv cents,iv upto] 184)).alloc (.cells #[iv num,iv 0] 178))):=((Below.refl _ _).alloc (Nat.le_refl _) _).alloc (by simp) _
 generalize (w.alloc (.cells #[iv num,iv cust,iv units,iv st,iv cents,iv upto] 184)).alloc (.cells #[iv num,iv 0] 178)=W0 at ob kb hbl ⊢
 obtain ⟨y0,y1⟩:=jaa kb.out
 have hz:w.heap.size+1<W0.heap.size:=(blt kb.out)
 have hxW:x<W0.heap.size:=by omega
 replace kl:Hid _:=kl
 go_region_held3 (fun w'=>w'.cell? (aq (w.heap.size+1) 0)=some (iv num)/\w'.cell? (aq (w.heap.size+1) 1)=some (iv 0)) (simp [go_sem, *])
  (first
    | (go_at_call 95;refine (HG.out _ bL).mono ?_;rintro e w1 ⟨rfl,b⟩
       have hb1:Below W0.heap.size W0 w1:=by first|exact b|exact Below.trans (show Below W0.heap.size W0 _ from bL) b
       have hbl1:Hid (Below w.heap.size w w1):=Below.trans hbl.out (hb1.mono hbl.out.size)
       have ob1:Hid _:=(hb1.block w.heap.size (by omega)).trans ob.out
       have kb1:Hid _:=(hb1.block (w.heap.size+1) hz).trans kb.out
       obtain ⟨q0,q1⟩:=jaa kb1.out
       have hz1:w.heap.size+1<w1.heap.size:=Nat.lt_of_lt_of_le hz hb1.size
       clear b hb1))
 have kl1:=(hbl1.out.cell (p:=(aq x (p+2))) hxw).trans kl.out
 have hx1:x<w1.heap.size:=by omega
 go_wp2_with fail
 go_region_held3 (fun w'=>w'.cell? (aq (w.heap.size+1) 0)=some (iv num)/\w'.cell? (aq (w.heap.size+1) 1)=some (iv 0)/\w'.cell? (aq x (p+2))=some (.slice oo n oc)) (simp [go_sem, *])
  (first
    | (go_at_call 112;refine (HP.out _ bL).mono ?_;rintro e w4 ⟨rfl,hq⟩
       obtain ⟨m1,m2,m3,m4,m5,m6,m7⟩:=HAPP.out _ w4 bL hq
       have hsm:=hq.choose_spec.2.2.2.1
       have ob4:Hid _:=(hsm.block w.heap.size (by first|omega|(simp;omega)) (show w.heap.size≠x by omega)).trans ob1.out
       obtain ⟨r0,r1⟩:=jaa ((hsm.block (w.heap.size+1) (by first|exact hz1|simpa using hz1) (show w.heap.size+1≠x by omega)).trans kb1.out)
       replace m1:Hid (w4.ownsRow B 184 6 (.slice oo n oc) n E):=m1
       replace m6:Hid _:=m6
       replace m7:Hid _:=m7
       clear hsm hq))
 obtain ⟨s0,s1,s2,s3,s4,s5⟩:=ja1 ob4.out
 have hz4:w.heap.size<w4.heap.size:=(blt ob4.out)
 have hnb:Hid ((w4.alloc (.cells #[iv num,iv cust,iv units,iv st,iv cents,iv upto] 184)).heap[w4.heap.size]?=some (.cells #[iv num,iv cust,iv units,iv st,iv cents,iv upto] 184 (0,0))):=heap_alloc_new _ _
 clear y0 y1 q0 q1 r0 r1 HG HP HAPP kl1
 go_wp2_with fail
 go_region_law ((refine step_append_lies _ (by rfl) _ _ _ (by rfl) B 184 i0 (.agg #[iv 0,iv 0,iv 0,iv 0,iv 0,iv 0]) 6 48 Tryz.underlying106 j0 j1 j2 j3 rfl (by omega) (.slice oo n oc) n E (by rfl) ((show w4.ownsRow B 184 6 (.slice oo n oc) n E from m1.out).alloc _).drew (aq w4.heap.size 0) 1 1 [iv num,iv cust,iv units,iv st,iv cents,iv upto] (by rfl) (by rfl) (World.news_of_block (cs:=#[iv num,iv cust,iv units,iv st,iv cents,iv upto]) (t:=184) (fr:=(0,0)) hnb.out) (by simp [Value.oneCell']) (by omega) (by unfold maxLen;omega) (by omega) (by simp;omega) (w4.heap.size+1) (by simp) ?_
                 intro gg cp w5 hown3 hgrow hat hlt
                 obtain ⟨g1,gf⟩:=m6.out w5 _ hgrow
                 replace hown3:Hid _:=hown3
                 replace hgrow:Hid _:=hgrow
                 replace hat:Hid _:=hat))
 all_goals
  have hA:=m7.out w5 gg cp _ hown3.out ⟨hgrow.out.os,hgrow.out.tape,hgrow.out.output,hgrow.out.size,hgrow.out.block⟩ hat.out
  obtain ⟨g6,c6,k2,k3,kf,kx,kn,ks⟩:=HROOM.out _ hA
  clear hA g1 gf
  generalize w5.setCell (aq x (p+2)) (.slice (some (aq gg 0)) (n+1) cp)=W6 at k2 k3 kf kx kn ks ⊢
  replace kn:Hid _:=kn
  replace ks:Hid _:=ks
 all_goals
  by_cases hr:rm<(n:Int)+1
  ·have dr:decide (rm<(n:Int)+1)=true:=by simpa using hr
   have er:rm'=(n:Int)+1:=by rw [hrm,if_pos hr]
   subst er
   clear hrm
   go_wp2_with fail
   go_region
   all_goals (first|go_end0|(go_wp2;go_end0)|(go_wp2;refine bodyPost_ret (results_none rfl _ _ _) rfl ?_))
   all_goals exact ⟨rfl,jos ks.out⟩
  ·have dr:decide (rm<(n:Int)+1)=false:=by simpa using hr
   have er:rm'=rm:=by rw [hrm,if_neg hr]
   clear hrm
   go_wp2_with fail
   go_region
   all_goals (first|go_end0|(go_wp2;go_end0)|(go_wp2;refine bodyPost_ret (results_none rfl _ _ _) rfl ?_))
   all_goals exact ⟨rfl,jos (kn.out er)⟩
section
theorem qfg (x:Nat) (st l wt kp:Int) (w:World) (h3:w.cell? (aq x 3)=some (iv l)) (h4:w.cell? (aq x 4)=some (iv wt)) (h5:w.cell? (aq x 5)=some (iv kp)) :
 Calls Tryz.prog 173 #[pt x 0,iv st] w fun e w'=>e=.returned (iv (if st=13 then l else if st=12 then wt else kp))/\Below w.heap.size w w':=by
 by_cases e1:st=13
 ·subst e1
  rw [if_pos rfl]
  go_enter Tryz.func173,Tryz.ntmps173
  go_wp2
  go_ret
  exact ⟨rfl,Below.refl _ _⟩
 ·rw [if_neg e1]
  have q1:(st==13)=false:=by simpa using e1
  by_cases e2:st=12
  ·subst e2
   rw [if_pos rfl]
   go_enter Tryz.func173,Tryz.ntmps173
   go_wp2
   go_ret
   exact ⟨rfl,Below.refl _ _⟩
  ·rw [if_neg e2]
   have q2:(st==12)=false:=by simpa using e2
   go_enter Tryz.func173,Tryz.ntmps173
   go_wp2
   go_ret
   exact ⟨rfl,Below.refl _ _⟩
theorem qg8 (x:Nat) (a b:Int) (w:World) (h0:w.cell? (aq x 0)=some (iv a)) (h1:w.cell? (aq x 20)=some (iv b)) (ha:0<=a/\a<=4611686018427387904) (hb:-2305843009213693952<=b/\b<=2305843009213693952) :
 Calls Tryz.prog 154 #[pt x 0] w fun e w'=>e=.returned (iv (a - b))/\Below w.heap.size w w':=by
 have hw:IntKind.i64.wrap (a - b)=a - b:=jab (by omega) (by omega)
 go_enter Tryz.func154,Tryz.ntmps154
 go_wp2_with fail
 go_quiet (fail)
 go_wp2
 go_ret
 exact ⟨rfl,bL⟩
theorem qfq (x:Nat) (a b c:Int) (w:World) (h0:w.cell? (aq x 0)=some (iv a)) (h1:w.cell? (aq x 20)=some (iv b)) (h2:w.cell? (aq x 19)=some (iv c)) (ha:0<=a/\a<=4611686018427387904) (hb:-1152921504606846976<=b/\b<=1152921504606846976) (hc:-1152921504606846976<=c/\c<=1152921504606846976) :
 Calls Tryz.prog 58 #[pt x 0] w fun e w'=>e=.returned (iv (a - b - c))/\Below w.heap.size w w':=by
 have hw:IntKind.i64.wrap (a - b)=a - b:=jab (by omega) (by omega)
 have hw2:IntKind.i64.wrap (a - b - c)=a - b - c:=jab (by omega) (by omega)
 go_enter Tryz.func58,Tryz.ntmps58
 go_wp2_with fail
 go_quiet (fail)
 go_wp2
 go_ret
 exact ⟨rfl,bL⟩
theorem qen (R:Nat) (ap:Option Addr) (lp cp:Nat) (ps:List (Int × Int)) (sold:Int) (w:World) (h7:w.cell? (aq R 7)=some (.slice ap lp cp)) (h20:w.cell? (aq R 20)=some (iv sold)) (ht:ju2 w ap lp ps) :
 Calls Tryz.prog 178 #[pt R 0] w fun e w'=>e=.returned (iv (jc7 ps sold ps.length))/\Below w.heap.size w w':=by
 have hRw:R<w.heap.size:=World.block_lt_of_cell? w _ h7
 obtain ⟨⟨t1,t2⟩,t5⟩:=ht
 subst t1
 have HT:Hid (0<ps.length->∃ b off,ap=some (aq b off)/\b<w.heap.size/\∀ i,i<ps.length->w.cell? (aq b (off+i * 2))=some (iv (ps.getD i (0,0)).1)/\w.cell? (aq b (off+i * 2+1))=some (iv (ps.getD i (0,0)).2)):=fun h=>t5 (List.length_pos_iff.1 h)
 have H7:Hid (w.cell? (aq R 7)=some (.slice ap ps.length cp)):=h7
 have H20:Hid (w.cell? (aq R 20)=some (iv sold)):=h20
 clear t5 h7 h20
 go_enter Tryz.func178,Tryz.ntmps178
 go_wp2_with fail
 go_loopw [3,4] (fun c i wr=>∃ k:Nat,k<=ps.length/\i=iv k/\c=iv (jc7 ps sold k)/\Below w.heap.size w wr) (fun _ i _=>ps.length - (intOf i).toNat)
 case atStart=>exact ⟨0,Nat.zero_le _,rfl,rfl,Below.refl _ _⟩
 case round =>
  obtain ⟨k,hk,rfl,rfl,hbel⟩:=hrel
  have c7:=(hbel.cell (p:=(aq R 7)) hRw).trans H7.out
  have c20:=(hbel.cell (p:=(aq R 20)) hRw).trans H20.out
  by_cases hlt:k<ps.length
  ·obtain ⟨b,off,rfl,hbw,hcell⟩:=HT.out (by omega)
   obtain ⟨k0,k1⟩:=hcell k hlt
   have d0:=(hbel.cell (p:=(aq b (off+k * 2))) hbw).trans k0
   have d1:=(hbel.cell (p:=(aq b (off+k * 2+1))) hbw).trans k1
   have HP:Hid (jc7 ps sold (k+1)=if (ps.getD k (0,0)).1<=sold then (ps.getD k (0,0)).2 else jc7 ps sold k):=rfl
   have b0:(0:Int)<=(k:Int):=by omega
   have b1':(k:Int)<(ps.length:Int):=by omega
   clear k0 k1 hcell HT
   generalize ps.getD k (0,0)=p at d0 d1 HP
   obtain ⟨p0,p1⟩:=p
   simp only at d0 d1 HP
   by_cases hle:p0<=sold
   ·have HP2:Hid (jc7 ps sold (k+1)=p1):=by rw [Hid,HP.out,if_pos hle]
    go_wp2_with fail
    go_quiet (fail)
    go_wp2
    exact ⟨⟨k+1,by omega,by go_num,by rw [HP2.out],bL⟩,by simp [intOf];omega⟩
   ·have HP2:Hid (jc7 ps sold (k+1)=jc7 ps sold k):=by rw [Hid,HP.out,if_neg hle]
    have hle':decide (p0<=sold)=false:=by simpa using hle
    go_wp2_with fail
    go_quiet (fail)
    go_wp2
    exact ⟨⟨k+1,by omega,by go_num,by rw [HP2.out],bL⟩,by simp [intOf];omega⟩
  ·have hke:k=ps.length:=by omega
   subst hke
   go_wp2
   go_ret
   exact ⟨rfl,hbel⟩
section
variable {W:World} {x:Nat} {own:Nat->Prop} {V:PV}
theorem ju0 (st:Int) (h:psm W x own V) :
 Calls Tryz.prog 173 #[pt x 0,iv st] W fun e w'=>e=.returned (iv (jau V.C st))/\Below W.heap.size W w':=by
 obtain ⟨g,h⟩:=h
 exact qfg x st V.C.lease V.C.wait V.C.keep W (h.cell 3 _ rfl) (h.cell 4 _ rfl) (h.cell 5 _ rfl)
theorem qfs (h:psm W x own V) (ha:0<=V.C.stock/\V.C.stock<=4294967296) (hb:0<=V.sold/\V.sold<=4294967296) :
 Calls Tryz.prog 154 #[pt x 0] W fun e w'=>e=.returned (iv (V.C.stock - V.sold))/\Below W.heap.size W w':=by
 obtain ⟨g,h⟩:=h
 exact qg8 x V.C.stock V.sold W (h.cell 0 _ rfl) (h.cell 20 _ rfl) ⟨ha.1,by omega⟩ ⟨by omega,by omega⟩
theorem qg6 (h:psm W x own V) (ha:0<=V.C.stock/\V.C.stock<=4294967296) (hb:0<=V.sold/\V.sold<=4294967296) (hc:0<=V.held/\V.held<=4294967296) :
 Calls Tryz.prog 58 #[pt x 0] W fun e w'=>e=.returned (iv (V.C.stock - V.sold - V.held))/\Below W.heap.size W w':=by
 obtain ⟨g,h⟩:=h
 exact qfq x V.C.stock V.sold V.held W (h.cell 0 _ rfl) (h.cell 20 _ rfl) (h.cell 19 _ rfl) ⟨ha.1,by omega⟩ ⟨by omega,by omega⟩ ⟨by omega,by omega⟩
theorem qe9 (h:psm W x own V) :
 Calls Tryz.prog 178 #[pt x 0] W fun e w'=>e=.returned (iv (jc7 V.C.prices V.sold V.C.prices.length))/\Below W.heap.size W w':=by
 obtain ⟨g,h⟩:=h
 exact qen x V.pa V.pl V.pc V.C.prices V.sold W (h.cell 7 _ rfl) (h.cell 20 _ rfl) h.tiers
theorem qae (o:POrd) (h:psm W x own V) (hs:srt V.ot) (hg:jb5 (o.num,0) V.ot=none) (hl:V.ot.length=V.ol.length) (hz:V.ol.length<=4294967296) :
 Calls Tryz.prog 174 #[pt x 11,o.val] W fun e w'=>e=.returned (.tuple #[])/\jb4 W w' x own { V with ot:=jbl (o.num,0) V.ol.length V.ot,ol:=V.ol++[o],orm:=if V.orm<(V.ol.length:Int)+1 then (V.ol.length:Int)+1 else V.orm }:=by
 obtain ⟨g,h⟩:=h
 refine (qd0 0 x 11 V.ol.length g.oc g.oo (jbe V g) 117 (by decide) (by decide) g.ot V.ot.length o.num o.cust o.units o.st o.cents o.upto (jdv V.ol) W h.blk rfl rfl rfl V.orm _ rfl rfl h.ot.1 (by rw [h.ot.2];exact hs) (by rw [h.ot.2];exact hg) ⟨by omega,by omega⟩ h.orow (by omega) (Nat.zero_le _)).mono ?_
 rintro e w' ⟨rfl,t',b,cap,a1,a2,a3,a4,a5,a6,a7⟩
 rw [h.ot.2] at a3
 have e1:(V.ot.length:Int)+1=((jbl (o.num,0) V.ol.length V.ot).length:Int):=by rw [jmx hg];omega
 have e2:(V.ol++[o]).length=V.ol.length+1:=by simp
 rw [e1] at a1
 have hs':Same (g.xs V x) W w':=jci a5 (fun k e=>e.elim .inl (fun e=>.inr (.inl e)))
 refine ⟨rfl,h.turn hs' (V':={ V with ot:=jbl (o.num,0) V.ol.length V.ot,ol:=V.ol++[o],orm:=if V.orm<(V.ol.length:Int)+1 then (V.ol.length:Int)+1 else V.orm }) (g':={ g with ot:=t',oo:=some (aq b 0),oc:=cap }) ?_ rfl ⟨rfl,rfl,rfl⟩ ⟨rfl,rfl,rfl,rfl⟩ ⟨rfl,rfl,rfl,rfl⟩ ⟨a2,a3,a6⟩ ⟨h.stay hs' h.qt.1,h.qt.2,fun _ e=>.inl e⟩ ⟨h.stay hs' h.qz.1,h.qz.2,fun _ e=>.inl e⟩ ⟨h.stay hs' h.lu.1,h.lu.2,fun _ e=>.inl e⟩ ⟨h.stay hs' h.att.1,h.att.2,fun _ e=>.inl e⟩ ?_ ?_⟩
 ·rw [a1]
  unfold jbe
  simp only [e2]
  rfl
 ·show w'.ownsRow 0 184 6 (.slice (some (aq b 0)) (V.ol++[o]).length cap) (V.ol++[o]).length (jdv (V.ol++[o]))/\∀ k,Value.ownBlock (.slice (some (aq b 0)) (V.ol++[o]).length cap)=some k->_
  rw [e2]
  refine ⟨?_,fun k e=>?_⟩
  ·have e3:jdv (V.ol++[o])=jdv V.ol++o.vals:=by simp [jdv]
   rw [e3]
   exact a4
  ·have e4:b=k:=by simpa [Value.ownBlock] using e
   rw [← e4]
   exact a7
 ·refine ⟨jad h.arow (fun k e=>a5.block k (World.ownsRow.lt h.arow k e).2 (fun c=>?_)),fun k e=>.inl e⟩
  rcases c with c|c
  ·exact jb9 h.arow h.blk (by decide) (by rw [e,show k=x from c])
  ·obtain ⟨Co,hCo⟩:=jh7 h.orow c
   exact jb9 h.arow hCo (by decide) e
end
end
end Go.Proofs.YtfhncfghblkgeaaGreat
