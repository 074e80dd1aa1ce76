import Derived.Test.YtfhncfghblkgeaaGreatL25
set_option maxRecDepth 100000
set_option maxHeartbeats 2000000
namespace Go.Proofs.YtfhncfghblkgeaaGreat
open Go.RowKit
section
def jap (P:World->(Nat->Prop)->Prop) (w w':World) (own:Nat->Prop):Prop:=∃ own',P w' own'/\Same own w w'/\∀ k,own' k->own k\/w.heap.size<=k
structure Keeps (P:World->(Nat->Prop)->Prop):Prop where
 lt:∀ {W o},P W o->∀ k,o k->k<W.heap.size
 keep:∀ {W W' o},P W o->W.heap.size<=W'.heap.size->(∀ k,o k->W'.heap[k]?=W.heap[k]?)->P W' o
def jba (P:World->(Nat->Prop)->Prop) (w:World) (own:Nat->Prop) (m:Nat) (W:World):Prop :=
 ∃ own',P W own'/\Same own w W/\(∀ k,own' k->own k\/w.heap.size+m<=k)/\w.heap.size+m<=W.heap.size
section
variable {P P':World->(Nat->Prop)->Prop} {w W W':World} {own:Nat->Prop} {m:Nat}
theorem jbi (K:Keeps P) (h:P w own) (hb:Below w.heap.size w W):jap P w W own:=⟨own,K.keep h hb.size (fun k e=>hb.block k (K.lt h k e)),Same.of_below hb,fun _ e=>.inl e⟩
theorem jk9 (hb:Below w.heap.size w W) (h:jap P W W' own):jap P w W' own:=by
 obtain ⟨o,a1,a2,a3⟩:=h
 have z:=hb.size
 exact ⟨o,a1,Same.trans (Same.of_below (own:=own) hb) a2 (fun _ _ e=>e.elim id id),fun k e=>(a3 k e).imp id (fun e=>by omega)⟩
theorem jb7 (h:jap P w W own) (hp:∀ W o,P W o->P' W o):jap P' w W own:=by
 obtain ⟨o,a1,a2,a3⟩:=h
 exact ⟨o,hp _ _ a1,a2,a3⟩
theorem jd4 (K:Keeps P) (h:P w own) (hb:Below w.heap.size w W) (hm:w.heap.size+m<=W.heap.size):jba P w own m W :=
 ⟨own,K.keep h hb.size (fun k e=>hb.block k (K.lt h k e)),Same.of_below hb,fun _ e=>.inl e,hm⟩
theorem jaj (K:Keeps P) (h:jba P w own m W) (hb:Below W.heap.size W W'):jba P w own m W':=by
 obtain ⟨o1,a1,a2,a3,a4⟩:=h
 have z:=hb.size
 exact ⟨o1,K.keep a1 hb.size (fun k e=>hb.block k (K.lt a1 k e)),Same.trans a2 (Same.of_below (own:=own) hb) (fun k _ e=>e.elim id id),a3,by omega⟩
theorem jd5 (K:Keeps P) (h:jba P w own m W) (hw:∀ k,own k->k<w.heap.size) {b i:Nat} (h1:w.heap.size<=b) (h2:b<w.heap.size+m) (v:Value):jba P w own m (W.setCell (aq b i) v):=by
 obtain ⟨o1,a1,a2,a3,a4⟩:=h
 have hk:∀ k,k≠b->(W.setCell (aq b i) v).heap[k]?=W.heap[k]?:=fun k e=>Below.heap_setCell _ (aq b i) _ _ e
 have hz:(W.setCell (aq b i) v).heap.size=W.heap.size:=by simp [World.setCell]
 refine ⟨o1,K.keep a1 (by omega) (fun k e=>hk k (fun c=>?_)),⟨a2.os,a2.tape,a2.output,by have:=a2.size;omega,fun k hk' hn=>(hk k (by omega)).trans (a2.block k hk' hn)⟩,a3,by omega⟩
 subst c
 rcases a3 k e with e|e
 ·have:=hw k e;omega
 ·omega
theorem jma (K:Keeps P) (h:jba P w own m W) (hw:∀ k,own k->k<w.heap.size) {b:Nat} (h1:w.heap.size<=b) (h2:b<w.heap.size+m) (v0 v1 v2 v3 v4 v5:Value):jba P w own m ((((((W.setCell (aq b 0) v0).setCell (aq b 1) v1).setCell (aq b 2) v2).setCell (aq b 3) v3).setCell (aq b 4) v4).setCell (aq b 5) v5) :=
 jd5 K (jd5 K (jd5 K (jd5 K (jd5 K (jd5 K h hw h1 h2 v0) hw h1 h2 v1) hw h1 h2 v2) hw h1 h2 v3) hw h1 h2 v4) hw h1 h2 v5
theorem jiz (K:Keeps P) (h:jba P w own m W) (hw:∀ k,own k->k<w.heap.size) {b:Nat} (h1:w.heap.size<=b) (h2:b<w.heap.size+m) (v0 v1 v2 v3:Value):jba P w own m ((((W.setCell (aq b 0) v0).setCell (aq b 1) v1).setCell (aq b 2) v2).setCell (aq b 3) v3) :=
 jd5 K (jd5 K (jd5 K (jd5 K h hw h1 h2 v0) hw h1 h2 v1) hw h1 h2 v2) hw h1 h2 v3
theorem jdu (h:jba P w own m W):jap P w W own:=by
 obtain ⟨o1,a1,a2,a3,a4⟩:=h
 exact ⟨o1,a1,a2,fun k e=>(a3 k e).imp id (fun e=>by omega)⟩
theorem jcl (hw:∀ k,own k->k<w.heap.size) {f:FuncId} {args:Array Value} {v:Value} (h:∀ W o,P W o->Calls Tryz.prog f args W fun e w'=>e=.returned v/\jap P' W w' o) (W:World) (hT:jba P w own m W) :
 Calls Tryz.prog f args W fun e w'=>e=.returned v/\jba P' w own m w'/\∀ b,w.heap.size<=b->b<w.heap.size+m->w'.heap[b]?=W.heap[b]?:=by
 obtain ⟨o1,a1,a2,a3,a4⟩:=hT
 refine (h W o1 a1).mono ?_
 rintro e w' ⟨rfl,o2,b1,b2,b3⟩
 have z1:=a2.size
 have z2:=b2.size
 refine ⟨rfl,⟨o2,b1,Same.trans a2 b2 (fun k hk e=>e.elim id (fun e=>(a3 k e).elim id (fun e=>by omega))),fun k e=>(b3 k e).elim (a3 k) (fun e=>.inr (by omega)),by omega⟩,fun b h1 h2=>b2.block b (by omega) (fun e=>?_)⟩
 rcases a3 b e with e|e
 ·have:=hw b e;omega
 ·omega
theorem jfs (K:Keeps P) (hw:∀ k,own k->k<w.heap.size) {f:FuncId} {args:Array Value} {v:Value} (h:∀ W o,P W o->Calls Tryz.prog f args W fun e w'=>e=.returned v/\Below W.heap.size W w') (W:World) (hT:jba P w own m W) :
 Calls Tryz.prog f args W fun e w'=>e=.returned v/\jba P w own m w'/\∀ b,w.heap.size<=b->b<w.heap.size+m->w'.heap[b]?=W.heap[b]?:=by
 refine jcl hw (fun W o hp=>(h W o hp).mono ?_) W hT
 rintro e w' ⟨rfl,hb⟩
 exact ⟨rfl,jbi K hp hb⟩
end
def qfp (w:World) (own:Nat->Prop) (m:Nat) (P P':World->(Nat->Prop)->Prop) (f:FuncId) (args:Array Value) (v:Value):Prop :=
 ∀ W,jba P w own m W->Calls Tryz.prog f args W fun e w'=>e=.returned v/\jba P' w own m w'/\∀ b,w.heap.size<=b->b<w.heap.size+m->w'.heap[b]?=W.heap[b]?
def psx (an:Int) (x:Nat) (S:Sal) (last:Nat) (w:World) (own:Nat->Prop):Prop:=∃ V,psm w x own V/\relO V S last S.knows/\relA V.an V.atl V.att V.al S.C.keep S.ansL/\V.an=an
theorem jbb (an:Int) (x:Nat) (S:Sal) (last:Nat):Keeps (psx an x S last):=⟨fun ⟨_,h,_⟩=>jfm h,fun ⟨V,h,hr⟩ hz hk=>⟨V,jfi h hz hk,hr⟩⟩
structure saleK (S:Sal):Prop where
 I:salI S
 len:S.os.length<=4294967296
 lease:1<=S.C.lease/\S.C.lease<=4294967296
 wait:1<=S.C.wait/\S.C.wait<=4294967296
 keep:1<=S.C.keep/\S.C.keep<=4294967296
theorem saleK.span {S:Sal} (h:saleK S) (st:Int):1<=jau S.C st/\jau S.C st<=4294967296:=by
 unfold jau
 split
 ·exact h.lease
 split
 ·exact h.wait
 ·exact h.keep
section
variable {w:World} {x:Nat} {own:Nat->Prop} {S:Sal} {last:Nat} {an:Int}
theorem jf4 {w':World} {V':PV} {S':Sal} {last':Nat} (h:jb4 w w' x own V') (h1:relO V' S' last' S'.knows) (h2:relA V'.an V'.atl V'.att V'.al S'.C.keep S'.ansL) (h3:V'.an=an):jap (psx an x S' last') w w' own:=by
 obtain ⟨o,a1,a2,a3⟩:=h
 exact ⟨o,⟨V',a1,h1,h2,h3⟩,a2,a3⟩
theorem jax {m f:Nat} {V V':PV} {args:Array Value} {v:Value} (hw:∀ k,own k->k<w.heap.size) (h:∀ W own',psm W x own' V->Calls Tryz.prog f args W fun e w'=>e=.returned v/\jb4 W w' x own' V'):jfa w own m x V V' f args v:=jqb hw h
theorem jjg {m f:Nat} {V:PV} {args:Array Value} {v:Value} (hw:∀ k,own k->k<w.heap.size) (h:∀ W own',psm W x own' V->Calls Tryz.prog f args W fun e w'=>e=.returned v/\Below W.heap.size W w'):jfa w own m x V V f args v:=jyn hw h
theorem qd8 (h:psx an x S last w own) (hK:saleK S) {i:Nat} (hi:S.knows i) (p:POrd) (h1:p.num=(i:Int)+1) (h2:p.cust=(S.os.getD i ja3).cust) (h3:p.units=(S.os.getD i ja3).units) (h4:p.st=(S.os.getD i ja3).state) (st:Int) (hst:st≠12) (o:Ord) (g2:o.cust=p.cust) (g3:o.units=p.units) (g4:o.state=st) (g5:o.cents=p.cents) (g6:o.untl S.C=S.now+jau S.C st) :
 Calls Tryz.prog 157 #[pt x 0,p.val,iv st] w fun e w'=>e=.returned (POrd.val { p with st:=st,upto:=S.now+jau S.C st })/\jap (psx an x (S.put i o) last) w w' own:=by
 obtain ⟨V,hm,hr,ha,han⟩:=h
 have hw:=jfm hm
 have hil:=hr.kin i hi
 obtain ⟨u1,u2⟩:=hK.I.units _ (jal hil)
 have hc0:p.cust≠0:=by rw [h2];exact hr.cust _ (jal hil)
 have hB:=hr.bounds hK.I hK.len
 have hsp:=hK.span st
 have hnow:=hK.I.now
 obtain ⟨j,hj1,hj2⟩:=hr.known hi
 rw [← h1] at hj2
 have hfin:=hr.move hi h1 h2 h3 h4 hst g2 g3 g4 g5 g6 hsp.1 hj2
 have hkn:(S.put i o).knows=S.knows:=qac hi (.inr (by rw [g6];omega))
 rw [← hkn] at hfin
 have hsv:jau V.C st=jau S.C st:=by rw [hr.C]
 have hun:1<=p.units/\p.units<=4294967296:=by rw [h3];exact ⟨u1,u2⟩
 have hf1:=hB.un p.st p.cust
 have L2:=jj7 hr.lu (st:=p.st) (-p.units) hc0
 have hz2:=qdy hr.lu.1 p.cust p.st (-p.units) (by omega)
 have hf2:∀ s,isL s->-2305843009213693952<=jyd (jdf S.os) p.cust p.st (-p.units) s p.cust/\jyd (jdf S.os) p.cust p.st (-p.units) s p.cust<=2305843009213693952:=fun s hs=>by
  have:=hB.un s p.cust hs hc0
  rw [jp1]
  split<;>omega
 have hu5:=jno V.tl p.num
 have b1:=hB.held
 have b2:=hB.sold
 have b3:=hB.lu
 have b4:=hB.tl
 have b5:=hB.qt
 have b6:=hB.qz
 have e0:V.now+jau S.C st=S.now+jau S.C st:=by rw [hr.now]
 by_cases h12:p.st=12
 ·have hq:(S.os.getD i ja3).state=12:=h4▸h12
  have t1:jb5 (p.num,0) V.qt=some 0:=(jgw hr.turns.1).2 ((hr.turns.2 _).2 ⟨i,hil,hq,by rw [h1]⟩)
  have t2:jb5 (-p.units,p.num) V.qz=some 0:=(jgw hr.sizes.1).2 ((hr.sizes.2 _).2 ⟨i,hil,hq,by rw [h1,h3]⟩)
  have hfin':{ V.moved p st with ol:=V.ol.set j (p.to V st) }={ ({ (((V.qout p).led p.cust 12 (-p.units)).led p.cust st p.units) with tl:=jg1 V.tn (jbs V.tl p.num) p.num (V.now+jau V.C st) }:PV) with ol:=V.ol.set j (p.to V st) }:=by
   simp only [PV.moved,PV.led,PV.qout,h12,if_neg hst,if_true,if_neg (show ¬ (12:Int)=13 by decide),if_neg (show ¬ (12:Int)=14 by decide)]
  rw [hfin'] at hfin
  have H:=qcq x V.tw own V (V.qout p) ((V.qout p).led p.cust 12 (-p.units)) (((V.qout p).led p.cust 12 (-p.units)).led p.cust st p.units) { (((V.qout p).led p.cust 12 (-p.units)).led p.cust st p.units) with tl:=jbs V.tl p.num } { (((V.qout p).led p.cust 12 (-p.units)).led p.cust st p.units) with tl:=jg1 V.tn (jbs V.tl p.num) p.num (V.now+jau S.C st) } { ({ (((V.qout p).led p.cust 12 (-p.units)).led p.cust st p.units) with tl:=jg1 V.tn (jbs V.tl p.num) p.num (V.now+jau S.C st) }:PV) with ol:=V.ol.set j { p with st:=st,upto:=V.now+jau S.C st } }
   p.num p.cust p.units p.cents p.upto st (jau S.C st) _ _ w hw hm ⟨by omega,hun.2⟩ ⟨by show 0<=V.now+_;rw [hr.now];omega,by show V.now+_<=_;rw [hr.now];omega⟩ (by simpa using hst) rfl rfl rfl
   (jax hw (fun W own' hp=>by rw [← h12];exact qfj p hp hr.turns.1 hr.sizes.1 t1 t2 (by omega) (by omega) ⟨by omega,hun.2⟩))
   (jax hw (fun W own' hp=>jv7 p.cust 12 (-p.units) (jdf S.os) hp hr.lu hc0 (by omega) ⟨by omega,by omega⟩ (fun hs=>by have:=hB.un 12 p.cust hs hc0;exact ⟨by omega,by omega⟩) (by show V.lu.length<=_;omega) ⟨by show _<=V.held;omega,by show V.held<=_;omega⟩ ⟨by show _<=V.sold;omega,by show V.sold<=_;omega⟩))
   (jax hw (fun W own' hp=>jv7 p.cust st p.units (jyd (jdf S.os) p.cust p.st (-p.units)) hp (by rw [h12] at L2 ⊢;exact L2) hc0 (by omega) ⟨by omega,by omega⟩ (hf2 st) (by show (jnj V.lu p.cust 12 (-p.units)).length<=_;rw [h12] at hz2;omega) ⟨by show _<=V.held;omega,by show V.held<=_;omega⟩ ⟨by show _<=V.sold;omega,by show V.sold<=_;omega⟩))
   (jjg hw (fun W own' hp=>by have h:=ju0 st hp;rwa [show jau (((V.qout p).led p.cust 12 (-p.units)).led p.cust st p.units).C st=jau S.C st from hsv] at h))
   (jax hw (fun W own' hp=>jp6 p.num hp (by show V.tl.length<=_;omega)))
   (jax hw (fun W own' hp=>qbf p.num (V.now+jau S.C st) hp (by show (jbs V.tl p.num).length<=_;omega)))
   (jax hw (fun W own' hp=>jyi { p with st:=st,upto:=V.now+jau S.C st } hp hr.ls.srt hj2 hj1))
  have ep:POrd.val p=.agg #[iv p.num,iv p.cust,iv p.units,iv 12,iv p.cents,iv p.upto]:=by rw [← h12];rfl
  rw [ep]
  refine H.mono ?_
  rintro e w' ⟨rfl,hq⟩
  refine ⟨?_,jf4 hq ?_ ha han⟩
  ·rw [show (PV.now (((V.qout p).led p.cust 12 (-p.units)).led p.cust st p.units))=S.now from hr.now];rfl
  ·rw [hsv] at hfin
   have:p.to V st={ p with st:=st,upto:=V.now+jau S.C st }:=by unfold POrd.to;rw [hsv]
   rw [this] at hfin
   exact hfin
 ·have hfin':{ V.moved p st with ol:=V.ol.set j (p.to V st) }={ ({ ((V.led p.cust p.st (-p.units)).led p.cust st p.units) with tl:=jg1 V.tn (jbs V.tl p.num) p.num (V.now+jau V.C st) }:PV) with ol:=V.ol.set j (p.to V st) }:=by
   simp only [PV.moved,PV.led,if_neg hst,if_neg h12]
  rw [hfin'] at hfin
  have H:=jx7 x V.tw own V (V.led p.cust p.st (-p.units)) ((V.led p.cust p.st (-p.units)).led p.cust st p.units) { ((V.led p.cust p.st (-p.units)).led p.cust st p.units) with tl:=jbs V.tl p.num } { ((V.led p.cust p.st (-p.units)).led p.cust st p.units) with tl:=jg1 V.tn (jbs V.tl p.num) p.num (V.now+jau S.C st) } { ({ ((V.led p.cust p.st (-p.units)).led p.cust st p.units) with tl:=jg1 V.tn (jbs V.tl p.num) p.num (V.now+jau S.C st) }:PV) with ol:=V.ol.set j { p with st:=st,upto:=V.now+jau S.C st } }
   p.num p.cust p.units p.st p.cents p.upto st (jau S.C st) _ _ w hw hm ⟨by omega,hun.2⟩ ⟨by show 0<=V.now+_;rw [hr.now];omega,by show V.now+_<=_;rw [hr.now];omega⟩ (by simpa using h12) (by simpa using hst) rfl rfl rfl
   (jax hw (fun W own' hp=>jv7 p.cust p.st (-p.units) (jdf S.os) hp hr.lu hc0 (by omega) ⟨by omega,by omega⟩ (fun hs=>by have:=hB.un p.st p.cust hs hc0;exact ⟨by omega,by omega⟩) (by show V.lu.length<=_;omega) ⟨by show _<=V.held;omega,by show V.held<=_;omega⟩ ⟨by show _<=V.sold;omega,by show V.sold<=_;omega⟩))
   (jax hw (fun W own' hp=>jv7 p.cust st p.units (jyd (jdf S.os) p.cust p.st (-p.units)) hp L2 hc0 (by omega) ⟨by omega,by omega⟩ (hf2 st) (by show (jnj V.lu p.cust p.st (-p.units)).length<=_;omega) (by show -2305843009213693952<=(if p.st=13 then V.held+-p.units else V.held)/\(if p.st=13 then V.held+-p.units else V.held)<=2305843009213693952;split<;>exact ⟨by omega,by omega⟩) (by show -2305843009213693952<=(if p.st=14 then V.sold+-p.units else V.sold)/\(if p.st=14 then V.sold+-p.units else V.sold)<=2305843009213693952;split<;>exact ⟨by omega,by omega⟩)))
   (jjg hw (fun W own' hp=>by have h:=ju0 st hp;rwa [show jau ((V.led p.cust p.st (-p.units)).led p.cust st p.units).C st=jau S.C st from hsv] at h))
   (jax hw (fun W own' hp=>jp6 p.num hp (by show V.tl.length<=_;omega)))
   (jax hw (fun W own' hp=>qbf p.num (V.now+jau S.C st) hp (by show (jbs V.tl p.num).length<=_;omega)))
   (jax hw (fun W own' hp=>jyi { p with st:=st,upto:=V.now+jau S.C st } hp hr.ls.srt hj2 hj1))
  refine H.mono ?_
  rintro e w' ⟨rfl,hq⟩
  refine ⟨?_,jf4 hq ?_ ha han⟩
  ·rw [show (PV.now ((V.led p.cust p.st (-p.units)).led p.cust st p.units))=S.now from hr.now];rfl
  ·rw [hsv] at hfin
   have:p.to V st={ p with st:=st,upto:=V.now+jau S.C st }:=by unfold POrd.to;rw [hsv]
   rw [this] at hfin
   exact hfin
theorem jqc (h:psx an x S (S.os.length+1) w own) (hK:saleK S) (p:POrd) (h1:p.num=(S.os.length:Int)+1) (h4:p.st=0) (hc0:p.cust≠0) (hun:1<=p.units/\p.units<=4294967296) (st:Int) (hst:st=12\/st=13) (o:Ord) (g2:o.cust=p.cust) (g3:o.units=p.units) (g4:o.state=st) (g5:o.cents=p.cents) (g6:o.untl S.C=S.now+jau S.C st) :
 Calls Tryz.prog 157 #[pt x 0,p.val,iv st] w fun e w'=>e=.returned (POrd.val { p with st:=st,upto:=S.now+jau S.C st })/\jap (psx an x (S.more o) (S.os.length+1)) w w' own:=by
 obtain ⟨V,hm,hr,ha,han⟩:=h
 have hw:=jfm hm
 have hB:=hr.bounds hK.I hK.len
 have hsp:=hK.span st
 have hnow:=hK.I.now
 have hfr:∀ i,S.knows i->p.num≠(i:Int)+1:=fun i hi=>by have:=hi.1;omega
 have hg:=hr.strange hfr
 have hfin:=hr.moveNew h1 h4 g2 g3 g4 g5 g6 hsp.1 hc0 (if V.orm<(V.ol.length:Int)+1 then (V.ol.length:Int)+1 else V.orm)
 have hkn:(S.more o).knows=fun k=>S.knows k\/k=S.os.length:=jvx (by rw [Ord.alive,g4];exact hst)
 rw [← hkn] at hfin
 have hsv:jau V.C st=jau S.C st:=by rw [hr.C]
 have L1:jnj V.lu p.cust 0 (-p.units)=V.lu:=by unfold jnj;rw [if_neg (by unfold isL;omega)]
 have l1:V.led p.cust 0 (-p.units)=V:=by
  unfold PV.led
  rw [L1,if_neg (by decide),if_neg (by decide)]
 have b1:=hB.held
 have b2:=hB.sold
 have b3:=hB.lu
 have b4:=hB.tl
 have b5:=hB.qt
 have b6:=hB.qz
 have hu5:=jno V.tl p.num
 have hol:=jfw hr.ls
 have hq1:jb5 (p.num,0) V.qt=none:=jeg.2 (fun e he c=>by
  obtain ⟨i,hi,_,rfl⟩:=(hr.turns.2 e).1 he
  have:(i:Int)+1=p.num:=by simpa using c
  omega)
 have hq2:jb5 (-p.units,p.num) V.qz=none:=jeg.2 (fun e he c=>by
  obtain ⟨i,hi,_,rfl⟩:=(hr.sizes.2 e).1 he
  simp only [Prod.mk.injEq] at c
  have:=c.2
  omega)
 have hbu:∀ W own',psm W x own' V->Calls Tryz.prog 171 #[pt x 19,iv p.cust,iv 0,iv (-p.units)] W fun e w'=>e=.returned (.tuple #[])/\jb4 W w' x own' V:=fun W own' hp=>by
  have:=jv7 p.cust 0 (-p.units) (jdf S.os) hp hr.lu hc0 (by omega) ⟨by omega,by omega⟩ (fun hs=>by unfold isL at hs;omega) (by omega) ⟨by omega,by omega⟩ ⟨by omega,by omega⟩
  rwa [l1] at this
 have hadd:∀ W own',psm W x own' V->Calls Tryz.prog 171 #[pt x 19,iv p.cust,iv st,iv p.units] W fun e w'=>e=.returned (.tuple #[])/\jb4 W w' x own' (V.led p.cust st p.units):=fun W own' hp =>
  jv7 p.cust st p.units (jdf S.os) hp hr.lu hc0 (by omega) ⟨by omega,by omega⟩ (fun hs=>by have:=hB.un st p.cust hs hc0;exact ⟨by omega,by omega⟩) (by omega) ⟨by omega,by omega⟩ ⟨by omega,by omega⟩
 rcases hst with rfl|rfl
 ·have hfin':{ V.moved p 12 with ot:=jbl (p.num,0) V.ol.length V.ot,ol:=V.ol++[p.to V 12],orm:=if V.orm<(V.ol.length:Int)+1 then (V.ol.length:Int)+1 else V.orm }={ ({ ((V.led p.cust 12 p.units).qin { p with st:=12 }) with tl:=jg1 V.tn (jbs V.tl p.num) p.num (V.now+jau V.C 12) }:PV) with ot:=jbl (p.num,0) V.ol.length V.ot,ol:=V.ol++[p.to V 12],orm:=if V.orm<(V.ol.length:Int)+1 then (V.ol.length:Int)+1 else V.orm }:=by
   simp only [PV.moved,PV.led,PV.qin,h4,L1,if_true,if_neg (show ¬ (0:Int)=12 by decide),if_neg (show ¬ (0:Int)=13 by decide),if_neg (show ¬ (0:Int)=14 by decide),if_neg (show ¬ (12:Int)=13 by decide),if_neg (show ¬ (12:Int)=14 by decide)]
  rw [hfin'] at hfin
  have H:=qeh x V.tw own V V (V.led p.cust 12 p.units) ((V.led p.cust 12 p.units).qin { p with st:=12 }) { ((V.led p.cust 12 p.units).qin { p with st:=12 }) with tl:=jbs V.tl p.num } { ((V.led p.cust 12 p.units).qin { p with st:=12 }) with tl:=jg1 V.tn (jbs V.tl p.num) p.num (V.now+jau S.C 12) } { ({ ((V.led p.cust 12 p.units).qin { p with st:=12 }) with tl:=jg1 V.tn (jbs V.tl p.num) p.num (V.now+jau S.C 12) }:PV) with ot:=jbl (p.num,0) V.ol.length V.ot,ol:=V.ol++[{ p with st:=12,upto:=V.now+jau S.C 12 }],orm:=if V.orm<(V.ol.length:Int)+1 then (V.ol.length:Int)+1 else V.orm }
   p.num p.cust p.units 0 p.cents p.upto (jau S.C 12) _ _ w hw hm ⟨by omega,hun.2⟩ ⟨by show 0<=V.now+_;rw [hr.now];omega,by show V.now+_<=_;rw [hr.now];omega⟩ (by decide) rfl rfl rfl
   (jax hw hbu) (jax hw hadd)
   (jax hw (fun W own' hp=>qgq { p with st:=12 } hp hr.turns.1 hr.sizes.1 hq1 hq2 (by show V.qt.length<=_;omega) (by show V.qz.length<=_;omega) ⟨by show 0<=p.units;omega,hun.2⟩))
   (jjg hw (fun W own' hp=>by have h:=ju0 12 hp;rwa [show jau ((V.led p.cust 12 p.units).qin { p with st:=12 }).C 12=jau S.C 12 from hsv] at h))
   (jax hw (fun W own' hp=>jp6 p.num hp (by show V.tl.length<=_;omega)))
   (jax hw (fun W own' hp=>qbf p.num (V.now+jau S.C 12) hp (by show (jbs V.tl p.num).length<=_;omega)))
   (jax hw (fun W own' hp=>qae { p with st:=12,upto:=V.now+jau S.C 12 } hp hr.ls.srt hg hol (by show V.ol.length<=_;have:=hB.ol;omega)))
  have ep:POrd.val p=.agg #[iv p.num,iv p.cust,iv p.units,iv 0,iv p.cents,iv p.upto]:=by rw [← h4];rfl
  rw [ep]
  refine H.mono ?_
  rintro e w' ⟨rfl,hq⟩
  refine ⟨?_,jf4 hq ?_ ha han⟩
  ·rw [show (PV.now ((V.led p.cust 12 p.units).qin { p with st:=12 }))=S.now from hr.now];rfl
  ·rw [hsv] at hfin
   have:p.to V 12={ p with st:=12,upto:=V.now+jau S.C 12 }:=by unfold POrd.to;rw [hsv]
   rw [this] at hfin
   exact hfin
 ·have hfin':{ V.moved p 13 with ot:=jbl (p.num,0) V.ol.length V.ot,ol:=V.ol++[p.to V 13],orm:=if V.orm<(V.ol.length:Int)+1 then (V.ol.length:Int)+1 else V.orm }={ ({ (V.led p.cust 13 p.units) with tl:=jg1 V.tn (jbs V.tl p.num) p.num (V.now+jau V.C 13) }:PV) with ot:=jbl (p.num,0) V.ol.length V.ot,ol:=V.ol++[p.to V 13],orm:=if V.orm<(V.ol.length:Int)+1 then (V.ol.length:Int)+1 else V.orm }:=by
   simp only [PV.moved,PV.led,h4,L1,if_true,if_neg (show ¬ (0:Int)=12 by decide),if_neg (show ¬ (0:Int)=13 by decide),if_neg (show ¬ (0:Int)=14 by decide),if_neg (show ¬ (13:Int)=12 by decide),if_neg (show ¬ (13:Int)=14 by decide)]
  rw [hfin'] at hfin
  have H:=jx7 x V.tw own V V (V.led p.cust 13 p.units) { (V.led p.cust 13 p.units) with tl:=jbs V.tl p.num } { (V.led p.cust 13 p.units) with tl:=jg1 V.tn (jbs V.tl p.num) p.num (V.now+jau S.C 13) } { ({ (V.led p.cust 13 p.units) with tl:=jg1 V.tn (jbs V.tl p.num) p.num (V.now+jau S.C 13) }:PV) with ot:=jbl (p.num,0) V.ol.length V.ot,ol:=V.ol++[{ p with st:=13,upto:=V.now+jau S.C 13 }],orm:=if V.orm<(V.ol.length:Int)+1 then (V.ol.length:Int)+1 else V.orm }
   p.num p.cust p.units 0 p.cents p.upto 13 (jau S.C 13) _ _ w hw hm ⟨by omega,hun.2⟩ ⟨by show 0<=V.now+_;rw [hr.now];omega,by show V.now+_<=_;rw [hr.now];omega⟩ (by decide) (by decide) rfl rfl rfl
   (jax hw hbu) (jax hw hadd)
   (jjg hw (fun W own' hp=>by have h:=ju0 13 hp;rwa [show jau (V.led p.cust 13 p.units).C 13=jau S.C 13 from hsv] at h))
   (jax hw (fun W own' hp=>jp6 p.num hp (by show V.tl.length<=_;omega)))
   (jax hw (fun W own' hp=>qbf p.num (V.now+jau S.C 13) hp (by show (jbs V.tl p.num).length<=_;omega)))
   (jax hw (fun W own' hp=>qae { p with st:=13,upto:=V.now+jau S.C 13 } hp hr.ls.srt hg hol (by show V.ol.length<=_;have:=hB.ol;omega)))
  have ep:POrd.val p=.agg #[iv p.num,iv p.cust,iv p.units,iv 0,iv p.cents,iv p.upto]:=by rw [← h4];rfl
  rw [ep]
  refine H.mono ?_
  rintro e w' ⟨rfl,hq⟩
  refine ⟨?_,jf4 hq ?_ ha han⟩
  ·rw [show (PV.now (V.led p.cust 13 p.units))=S.now from hr.now];rfl
  ·rw [hsv] at hfin
   have:p.to V 13={ p with st:=13,upto:=V.now+jau S.C 13 }:=by unfold POrd.to;rw [hsv]
   rw [this] at hfin
   exact hfin
end
end
section
theorem jox {p:Nat->Prop} (h:∃ n,p n):∃ n,p n/\∀ m,p m->n<=m:=by
 obtain ⟨n,hn⟩:=h
 induction n using Nat.strongRecOn with
 | _ n ih =>
   by_cases hx:∃ m,m<n/\p m
   ·obtain ⟨m,h1,h2⟩:=hx
    exact ih m h1 h2
   ·exact ⟨n,hn,fun m hm=>Nat.le_of_not_lt (fun c=>hx ⟨m,c,hm⟩)⟩
open Classical in
noncomputable def fuel (p:Nat->Prop):Nat:=if h:∃ n,p n then Classical.choose (jox h) else 0
theorem jt4 {p:Nat->Prop} (h:∃ n,p n):p (fuel p):=by
 unfold fuel
 rw [dif_pos h]
 exact (Classical.choose_spec (jox h)).1
theorem jsn {p:Nat->Prop} {n:Nat} (h:p n):fuel p<=n:=by
 unfold fuel
 rw [dif_pos ⟨n,h⟩]
 exact (Classical.choose_spec (jox ⟨n,h⟩)).2 n h
theorem qda (x:Nat) (own:Nat->Prop) (P P':World->(Nat->Prop)->Prop) (KP:Keeps P) (KP':Keeps P') (num cust units st cents up c up':Int) (w:World) (hw:∀ k,own k->k<w.heap.size) (h:P w own)
 (HP:Hid (qfp w own 2 P P 178 #[pt x 0] (iv c)))
 (HM:Hid (qfp w own 2 P P' 157 #[pt x 0,.agg #[iv num,iv cust,iv units,iv st,iv c,iv up],iv 13] (.agg #[iv num,iv cust,iv units,iv 13,iv c,iv up']))) :
 Calls Tryz.prog 162 #[pt x 0,.agg #[iv num,iv cust,iv units,iv st,iv cents,iv up]] w fun e w'=>e=.returned (.agg #[iv num,iv cust,iv units,iv 13,iv c,iv up'])/\jap P' w w' own:=by
 go_enter Tryz.func162,Tryz.ntmps162
 have hT0:Hid (jba P w own 2 ((w.alloc (.cells #[iv num,iv cust,iv units,iv st,iv cents,iv up] 184)).alloc (.cells #[iv 0,iv 0,iv 0,iv 0,iv 0,iv 0] 184))):=jd4 KP h (((Below.refl _ _).alloc (Nat.le_refl _) _).alloc (by simp) _) (by simp)
 have ob0:Hid (((w.alloc (.cells #[iv num,iv cust,iv units,iv st,iv cents,iv up] 184)).alloc (.cells #[iv 0,iv 0,iv 0,iv 0,iv 0,iv 0] 184)).heap[w.heap.size]?=some (.cells #[iv num,iv cust,iv units,iv st,iv cents,iv up] 184 (0,0))):=(Below.heap_alloc _ _ _ (by simp)).trans (heap_alloc_new w _)
 have rb0:Hid (((w.alloc (.cells #[iv num,iv cust,iv units,iv st,iv cents,iv up] 184)).alloc (.cells #[iv 0,iv 0,iv 0,iv 0,iv 0,iv 0] 184)).heap[w.heap.size+1]?=some (.cells #[iv 0,iv 0,iv 0,iv 0,iv 0,iv 0] 184 (0,0))):=by
  have h:=heap_alloc_new (w.alloc (.cells #[iv num,iv cust,iv units,iv st,iv cents,iv up] 184)) (.cells #[iv 0,iv 0,iv 0,iv 0,iv 0,iv 0] 184)
  rwa [show (w.alloc (.cells #[iv num,iv cust,iv units,iv st,iv cents,iv up] 184)).heap.size=w.heap.size+1 by simp] at h
 clear h
 go_wp2_with fail
 generalize (w.alloc (.cells #[iv num,iv cust,iv units,iv st,iv cents,iv up] 184)).alloc (.cells #[iv 0,iv 0,iv 0,iv 0,iv 0,iv 0] 184)=W0 at hT0 ob0 rb0 ⊢
 refine (HP.out _ hT0.out).mono ?_
 rintro e W1 ⟨rfl,hT1,hk⟩
 have ob1:Hid (W1.heap[w.heap.size]?=some (.cells #[iv num,iv cust,iv units,iv st,iv cents,iv up] 184 (0,0))):=(hk _ (Nat.le_refl _) (by omega)).trans ob0.out
 have rb1:Hid (W1.heap[w.heap.size+1]?=some (.cells #[iv 0,iv 0,iv 0,iv 0,iv 0,iv 0] 184 (0,0))):=(hk _ (by omega) (by omega)).trans rb0.out
 clear hk hT0 ob0 rb0
 obtain ⟨s0,s1,s2,s3,s4,s5⟩:=ja1 ob1.out
 have f4:=ja0 ob1.out 4
 have hT2:Hid (jba P w own 2 (W1.setCell (aq w.heap.size 4) (iv c))):=jd5 KP hT1 hw (Nat.le_refl _) (by omega) _
 have rb2:Hid ((W1.setCell (aq w.heap.size 4) (iv c)).heap[w.heap.size+1]?=some (.cells #[iv 0,iv 0,iv 0,iv 0,iv 0,iv 0] 184 (0,0))):=(Below.heap_setCell _ (aq w.heap.size 4) _ _ (by show w.heap.size+1≠w.heap.size;omega)).trans rb1.out
 have lw1:w.heap.size<W1.heap.size:=(blt ob1.out)
 have lv1:w.heap.size+1<W1.heap.size:=(blt rb1.out)
 clear ob1 rb1 hT1
 go_wp2_with fail
 refine (HM.out _ hT2.out).mono ?_
 rintro e W2 ⟨rfl,hT3,hk⟩
 have rb3:Hid (W2.heap[w.heap.size+1]?=some (.cells #[iv 0,iv 0,iv 0,iv 0,iv 0,iv 0] 184 (0,0))):=(hk _ (by omega) (by omega)).trans rb2.out
 have lv2:w.heap.size+1<W2.heap.size:=(blt rb3.out)
 have HE:Hid (∀ v0 v1 v2 v3 v4 v5,jap P' w ((((((W2.setCell (aq (w.heap.size+1) 0) v0).setCell (aq (w.heap.size+1) 1) v1).setCell (aq (w.heap.size+1) 2) v2).setCell (aq (w.heap.size+1) 3) v3).setCell (aq (w.heap.size+1) 4) v4).setCell (aq (w.heap.size+1) 5) v5) own):=fun v0 v1 v2 v3 v4 v5=>jdu (jma KP' hT3 hw (by omega) (by omega) v0 v1 v2 v3 v4 v5)
 have g0:=ja0 rb3.out 0
 have g1:=ja0 rb3.out 1
 have g2:=ja0 rb3.out 2
 have g3:=ja0 rb3.out 3
 have g4:=ja0 rb3.out 4
 have g5:=ja0 rb3.out 5
 obtain ⟨r0,r1,r2,r3,r4,r5⟩:=ja1 rb3.out
 clear hk hT2 rb2 hT3 s0 s1 s2 s3 s4 s5 f4
 go_wp2
 refine bodyPost_ret (v:=.agg #[iv num,iv cust,iv units,iv 13,iv c,iv up']) (by simp [results,Tryz.results162,go_sem,r0,r1,r2,r3,r4,r5]) rfl ⟨rfl,?_⟩
 exact HE.out _ _ _ _ _ _
theorem jyg (x:Nat) (n:Int) (w:World)
 (HF:Hid (∀ W,Below w.heap.size w W->Calls Tryz.prog 177 #[pt x 15] W fun e w'=>e=.returned (.tuple #[iv n,.bool false])/\Below W.heap.size W w')) :
 Calls Tryz.prog 161 #[pt x 0] w fun e w'=>e=.returned (.tuple #[.agg #[iv 0,iv 0,iv 0,iv 0,iv 0,iv 0],.bool false])/\Below w.heap.size w w':=by
 go_enter Tryz.func161,Tryz.ntmps161
 go_wp2_with fail
 refine (HF.out _ ((Below.refl _ _).alloc (Nat.le_refl _) _)).mono ?_
 rintro e w1 ⟨rfl,b1⟩
 have n1:w1.heap[w.heap.size]?=some (.cells #[iv 0,iv 0,iv 0,iv 0,iv 0,iv 0] 184 (0,0)):=(b1.block _ (by simp)).trans (heap_alloc_new w _)
 have hb1:Below w.heap.size w w1:=Below.trans ((Below.refl _ _).alloc (Nat.le_refl _) _) (b1.mono (by simp))
 have z1:w.heap.size<w1.heap.size:=(blt n1)
 obtain ⟨s0,s1,s2,s3,s4,s5⟩:=ja1 n1
 have f0:=ja0 n1 0
 have f1:=ja0 n1 1
 have f2:=ja0 n1 2
 have f3:=ja0 n1 3
 have f4:=ja0 n1 4
 have f5:=ja0 n1 5
 clear b1 n1
 go_wp2
 refine bodyPost_ret (v:=.tuple #[.agg #[iv 0,iv 0,iv 0,iv 0,iv 0,iv 0],.bool false]) (by simp [results,Tryz.results161,go_sem,s0,s1,s2,s3,s4,s5]) rfl ⟨rfl,?_⟩
 exact jbu hb1 (Nat.le_refl _)
theorem jvv (x:Nat) (n num cust units st cents up:Int) (w:World)
 (HF:Hid (∀ W,Below w.heap.size w W->Calls Tryz.prog 177 #[pt x 15] W fun e w'=>e=.returned (.tuple #[iv n,.bool true])/\Below W.heap.size W w'))
 (HG:Hid (∀ W,Below w.heap.size w W->Calls Tryz.prog 131 #[pt x 11,iv n] W fun e w'=>e=.returned (.tuple #[.agg #[iv num,iv cust,iv units,iv st,iv cents,iv up],.bool true])/\Below W.heap.size W w')) :
 Calls Tryz.prog 161 #[pt x 0] w fun e w'=>e=.returned (.tuple #[.agg #[iv num,iv cust,iv units,iv st,iv cents,iv up],.bool true])/\Below w.heap.size w w':=by
 go_enter Tryz.func161,Tryz.ntmps161
 go_wp2_with fail
 refine (HF.out _ ((Below.refl _ _).alloc (Nat.le_refl _) _)).mono ?_
 rintro e w1 ⟨rfl,b1⟩
 have n1:w1.heap[w.heap.size]?=some (.cells #[iv 0,iv 0,iv 0,iv 0,iv 0,iv 0] 184 (0,0)):=(b1.block _ (by simp)).trans (heap_alloc_new w _)
 have hb1:Below w.heap.size w w1:=Below.trans ((Below.refl _ _).alloc (Nat.le_refl _) _) (b1.mono (by simp))
 have z1:w.heap.size<w1.heap.size:=(blt n1)
 clear b1
 go_wp2_with fail
 refine (HG.out _ hb1).mono ?_
 rintro e w2 ⟨rfl,b2⟩
 have n2:=(b2.block _ z1).trans n1
 have hb2:Below w.heap.size w w2:=Below.trans hb1 (b2.mono hb1.size)
 have z2:w.heap.size<w2.heap.size:=(blt n2)
 obtain ⟨s0,s1,s2,s3,s4,s5⟩:=ja1 n2
 have f0:=ja0 n2 0
 have f1:=ja0 n2 1
 have f2:=ja0 n2 2
 have f3:=ja0 n2 3
 have f4:=ja0 n2 4
 have f5:=ja0 n2 5
 clear b2 n2 n1 HF HG
 go_wp2
 refine bodyPost_ret (v:=.tuple #[.agg #[iv num,iv cust,iv units,iv st,iv cents,iv up],.bool true]) (by simp [results,Tryz.results161,go_sem,s0,s1,s2,s3,s4,s5]) rfl ⟨rfl,?_⟩
 exact jbu hb2 (Nat.le_refl _)
theorem jxl (x:Nat) (n:Int) (w:World)
 (HF:Hid (∀ W,Below w.heap.size w W->Calls Tryz.prog 186 #[pt x 15] W fun e w'=>e=.returned (.tuple #[iv n,.bool false])/\Below W.heap.size W w')) :
 Calls Tryz.prog 175 #[pt x 0] w fun e w'=>e=.returned (.tuple #[.agg #[iv 0,iv 0,iv 0,iv 0,iv 0,iv 0],.bool false])/\Below w.heap.size w w':=by
 go_enter Tryz.func175,Tryz.ntmps175
 go_wp2_with fail
 refine (HF.out _ ((Below.refl _ _).alloc (Nat.le_refl _) _)).mono ?_
 rintro e w1 ⟨rfl,b1⟩
 have n1:w1.heap[w.heap.size]?=some (.cells #[iv 0,iv 0,iv 0,iv 0,iv 0,iv 0] 184 (0,0)):=(b1.block _ (by simp)).trans (heap_alloc_new w _)
 have hb1:Below w.heap.size w w1:=Below.trans ((Below.refl _ _).alloc (Nat.le_refl _) _) (b1.mono (by simp))
 have z1:w.heap.size<w1.heap.size:=(blt n1)
 obtain ⟨s0,s1,s2,s3,s4,s5⟩:=ja1 n1
 have f0:=ja0 n1 0
 have f1:=ja0 n1 1
 have f2:=ja0 n1 2
 have f3:=ja0 n1 3
 have f4:=ja0 n1 4
 have f5:=ja0 n1 5
 clear b1 n1
 go_wp2
 refine bodyPost_ret (v:=.tuple #[.agg #[iv 0,iv 0,iv 0,iv 0,iv 0,iv 0],.bool false]) (by simp [results,Tryz.results175,go_sem,s0,s1,s2,s3,s4,s5]) rfl ⟨rfl,?_⟩
 exact jbu hb1 (Nat.le_refl _)
theorem jv5 (x:Nat) (n num cust units st cents up:Int) (w:World)
 (HF:Hid (∀ W,Below w.heap.size w W->Calls Tryz.prog 186 #[pt x 15] W fun e w'=>e=.returned (.tuple #[iv n,.bool true])/\Below W.heap.size W w'))
 (HG:Hid (∀ W,Below w.heap.size w W->Calls Tryz.prog 131 #[pt x 11,iv n] W fun e w'=>e=.returned (.tuple #[.agg #[iv num,iv cust,iv units,iv st,iv cents,iv up],.bool true])/\Below W.heap.size W w')) :
 Calls Tryz.prog 175 #[pt x 0] w fun e w'=>e=.returned (.tuple #[.agg #[iv num,iv cust,iv units,iv st,iv cents,iv up],.bool true])/\Below w.heap.size w w':=by
 go_enter Tryz.func175,Tryz.ntmps175
 go_wp2_with fail
 refine (HF.out _ ((Below.refl _ _).alloc (Nat.le_refl _) _)).mono ?_
 rintro e w1 ⟨rfl,b1⟩
 have n1:w1.heap[w.heap.size]?=some (.cells #[iv 0,iv 0,iv 0,iv 0,iv 0,iv 0] 184 (0,0)):=(b1.block _ (by simp)).trans (heap_alloc_new w _)
 have hb1:Below w.heap.size w w1:=Below.trans ((Below.refl _ _).alloc (Nat.le_refl _) _) (b1.mono (by simp))
 have z1:w.heap.size<w1.heap.size:=(blt n1)
 clear b1
 go_wp2_with fail
 refine (HG.out _ hb1).mono ?_
 rintro e w2 ⟨rfl,b2⟩
 have n2:=(b2.block _ z1).trans n1
 have hb2:Below w.heap.size w w2:=Below.trans hb1 (b2.mono hb1.size)
 have z2:w.heap.size<w2.heap.size:=(blt n2)
 obtain ⟨s0,s1,s2,s3,s4,s5⟩:=ja1 n2
 have f0:=ja0 n2 0
 have f1:=ja0 n2 1
 have f2:=ja0 n2 2
 have f3:=ja0 n2 3
 have f4:=ja0 n2 4
 have f5:=ja0 n2 5
 clear b2 n2 n1 HF HG
 go_wp2
 refine bodyPost_ret (v:=.tuple #[.agg #[iv num,iv cust,iv units,iv st,iv cents,iv up],.bool true]) (by simp [results,Tryz.results175,go_sem,s0,s1,s2,s3,s4,s5]) rfl ⟨rfl,?_⟩
 exact jbu hb2 (Nat.le_refl _)
end
def POrd.cells (p:POrd):Array Value:=#[iv p.num,iv p.cust,iv p.units,iv p.st,iv p.cents,iv p.upto]
def jfx {σ:Type} (P:σ->World->(Nat->Prop)->Prop) (Inv:σ->Prop) (fst:σ->Option POrd) (fin:σ->σ) (μ:σ->Nat) (s:σ) (w1:World) (own:Nat->Prop) (v:Value) (wr:World) (n:Nat):Prop :=
 ∃ s',Inv s'/\μ s'=n/\fin s'=fin s/\jba (P s') w1 own 1 wr/\v=.bool (fst s').isSome/\wr.heap[w1.heap.size]?=some (.cells ((fst s').getD pord0).cells 184 (0,0))
theorem jgi {W:World} {b:Nat} {c0 c1 c2 c3 c4 c5:Value} {T:TypeId} (h:W.heap[b]?=some (.cells #[c0,c1,c2,c3,c4,c5] T (0,0))) (v0 v1 v2 v3 v4 v5:Value):((((((W.setCell (aq b 0) v0).setCell (aq b 1) v1).setCell (aq b 2) v2).setCell (aq b 3) v3).setCell (aq b 4) v4).setCell (aq b 5) v5).heap[b]?=some (.cells #[v0,v1,v2,v3,v4,v5] T (0,0)):=by
 have h2:=Joins.block_setCell (i:=0) h v0
 have h3:=Joins.block_setCell (i:=1) h2 v1
 have h4:=Joins.block_setCell (i:=2) h3 v2
 have h5:=Joins.block_setCell (i:=3) h4 v3
 have h6:=Joins.block_setCell (i:=4) h5 v4
 exact Joins.block_setCell (i:=5) h6 v5
theorem jq3 {σ:Type} (x:Nat) (P:σ->World->(Nat->Prop)->Prop) (KP:∀ s,Keeps (P s)) (Inv:σ->Prop) (fst:σ->Option POrd) (fr:σ->Int) (nx fin:σ->σ) (μ:σ->Nat) (rv:σ->Value) (cd:σ->POrd->Prop) (hcd:Hid (∀ s p,cd s p↔p.units<=fr s))
 (hF:Hid (∀ s,Inv s->∀ W o,P s W o->Calls Tryz.prog 161 #[pt x 0] W fun e w'=>e=.returned (.tuple #[((fst s).getD pord0).val,.bool (fst s).isSome])/\Below W.heap.size W w'))
 (hL:Hid (∀ s,Inv s->∀ W o,P s W o->Calls Tryz.prog 58 #[pt x 0] W fun e w'=>e=.returned (iv (fr s))/\Below W.heap.size W w'))
 (hO:Hid (∀ s p,Inv s->fst s=some p->cd s p->∀ W o,P s W o->Calls Tryz.prog 162 #[pt x 0,p.val] W fun e w'=>e=.returned (rv s)/\jap (P (nx s)) W w' o))
 (hN:Hid (∀ s p,Inv s->fst s=some p->cd s p->Inv (nx s)/\μ (nx s)<μ s/\fin (nx s)=fin s))
 (hE:Hid (∀ s,Inv s->(∀ p,fst s=some p->¬ cd s p)->fin s=s)) (s:σ) (w:World) (own:Nat->Prop) (hi:Inv s) (h:P s w own) :
 Calls Tryz.prog 137 #[pt x 0] w fun e w'=>e=.returned (.tuple #[])/\jap (P (fin s)) w w' own:=by
 have hw:=(KP s).lt h
 go_enter Tryz.func137,Tryz.ntmps137
 go_wp2_with fail
 refine (hF.out s hi w own h).mono ?_
 rintro e w1 ⟨rfl,b1⟩
 have h1:P s w1 own:=(KP s).keep h b1.size (fun k e=>b1.block k (hw k e))
 have hw1:Hid (∀ k,own k->k<w1.heap.size):=fun k e=>Nat.lt_of_lt_of_le (hw k e) b1.size
 have HFRONT:Hid (∀ s' w',jap (P s') w1 w' own->jap (P s') w w' own):=fun s' w' ha=>jk9 b1 ha
 have HI0:Hid (jfx P Inv fst fin μ s w1 own (.bool (fst s).isSome) (w1.alloc (.cells ((fst s).getD pord0).cells 184)) (μ s)):=⟨s,hi,rfl,rfl,jd4 (KP s) h1 ((Below.refl _ _).alloc (Nat.le_refl _) _) (by simp),rfl,heap_alloc_new w1 _⟩
 clear h h1 hi hw b1
 unfold POrd.val
 unfold POrd.cells at HI0
 generalize (fst s).getD pord0=p0 at HI0 ⊢
 generalize (fst s).isSome=b0 at HI0 ⊢
 go_wp2_with fail
 go_loopw [3] (fun v wr=>∃ n,jfx P Inv fst fin μ s w1 own v wr n) (fun v wr=>fuel (jfx P Inv fst fin μ s w1 own v wr))
 case atStart=>exact ⟨_,HI0.out⟩
 case round =>
  have hfu:=jt4 hrel
  obtain ⟨s',i1,i2,i3,hT,rfl,ob⟩:=hfu
  replace hT:Hid _:=hT
  replace i1:Hid _:=i1
  have ob:Hid _:=ob
  have HM:Hid (∀ v' w' m,jfx P Inv fst fin μ s w1 own v' w' m->m<μ s'->(∃ n,jfx P Inv fst fin μ s w1 own v' w' n)/\fuel (jfx P Inv fst fin μ s w1 own v' w')<fuel (jfx P Inv fst fin μ s w1 own (.bool (fst s').isSome) wr)):=fun v' w' m h1 h2=>⟨⟨m,h1⟩,by rw [← i2];exact Nat.lt_of_le_of_lt (jsn h1) h2⟩
  clear hrel i2
  have HX:Hid (∀ w',jba (P s') w1 own 1 w'->(∀ p,fst s'=some p->¬ cd s' p)->jap (P (fin s)) w w' own):=fun w' h1 h2=>by
   rw [← i3,hE.out s' i1.out h2]
   exact HFRONT.out _ _ (jdu h1)
  cases hf:fst s' with
  | none =>
    have HX':Hid (∀ w',jba (P s') w1 own 1 w'->jap (P (fin s)) w w' own):=fun w' h1=>HX.out w' h1 (fun p e=>by rw [hf] at e;cases e)
    rw [hf] at HM
    clear HX ob HI0
    simp only [Option.isSome_none]
    go_wp2_with fail
    go_quiet (fail)
    go_wp2
    first|go_end0|refine bodyPost_ret (results_none rfl _ _ _) rfl ?_
    exact ⟨rfl,HX'.out _ (jaj (KP s') hT.out bL)⟩
  | some p =>
    rw [hf] at HM ob
    simp only [Option.getD_some,POrd.cells,Option.isSome_some] at ob HM ⊢
    obtain ⟨s0,s1,s2,s3,s4,s5⟩:=ja1 ob.out
    have lw:w1.heap.size<wr.heap.size:=(blt ob.out)
    have HLs:Hid (∀ W,jba (P s') w1 own 1 W->Calls Tryz.prog 58 #[pt x 0] W fun e w'=>e=.returned (iv (fr s'))/\jba (P s') w1 own 1 w'/\∀ b,w1.heap.size<=b->b<w1.heap.size+1->w'.heap[b]?=W.heap[b]?):=fun W hW=>jfs (KP s') hw1.out (hL.out s' i1.out) W hW
    by_cases hle:cd s' p
    ·have HOs:Hid (∀ W,jba (P s') w1 own 1 W->Calls Tryz.prog 162 #[pt x 0,p.val] W fun e w'=>e=.returned (rv s')/\jba (P (nx s')) w1 own 1 w'/\∀ b,w1.heap.size<=b->b<w1.heap.size+1->w'.heap[b]?=W.heap[b]?):=fun W hW=>jcl hw1.out (hO.out s' p i1.out hf hle) W hW
     obtain ⟨n1,n2,n3⟩:=hN.out s' p i1.out hf hle
     have HFs:Hid (∀ W,jba (P (nx s')) w1 own 1 W->Calls Tryz.prog 161 #[pt x 0] W fun e w'=>e=.returned (.tuple #[((fst (nx s')).getD pord0).val,.bool (fst (nx s')).isSome])/\jba (P (nx s')) w1 own 1 w'/\∀ b,w1.heap.size<=b->b<w1.heap.size+1->w'.heap[b]?=W.heap[b]?):=fun W hW=>jfs (KP (nx s')) hw1.out (hF.out (nx s') n1) W hW
     have HR:Hid (∀ W',jba (P (nx s')) w1 own 1 W'->W'.heap[w1.heap.size]?=some (.cells ((fst (nx s')).getD pord0).cells 184 (0,0))->(∃ n,jfx P Inv fst fin μ s w1 own (.bool (fst (nx s')).isSome) W' n)/\fuel (jfx P Inv fst fin μ s w1 own (.bool (fst (nx s')).isSome) W')<fuel (jfx P Inv fst fin μ s w1 own (.bool true) wr)):=fun W' h1 h2=>HM.out _ W' _ ⟨nx s',n1,rfl,n3.trans i3,h1,rfl,h2⟩ n2
     clear HM HX hO hN hE hF hL n1 n2 n3 i3 HFRONT HI0
     unfold POrd.val at HOs HFs
     unfold POrd.cells at HR
     have hle2:=(hcd.out s' p).1 hle
     clear hcd hle
     have dl:decide (p.units<=fr s')=true:=by simpa using hle2
     generalize (fst (nx s')).getD pord0=p1 at HFs HR
     generalize (fst (nx s')).isSome=b1 at HFs HR
     generalize fr s'=fs at HLs hle2 dl
     generalize hP':P s'=Pa at hT HLs HOs
     have KPa:Keeps Pa:=hP'▸KP s'
     generalize hPn:P (nx s')=Pb at HOs HFs HR
     have KPb:Keeps Pb:=hPn▸KP (nx s')
     clear hP' hPn i1 hf
     generalize rv s'=rr at HOs
     go_wp2_with fail
     go_region_held3 (fun w'=>w'.cell? (aq w1.heap.size 2)=some (iv p.units)) (simp [go_sem, *])
      (first
        | (go_at_call 58;refine (HLs.out _ (jaj KPa hT.out bL)).mono ?_;rintro e W1 ⟨rfl,hT1,hk⟩
           have ob1:Hid _:=(hk _ (Nat.le_refl _) (by omega)).trans ob.out
           obtain ⟨s0',s1',s2',s3',s4',s5'⟩:=ja1 ob1.out
           have lw1:w1.heap.size<W1.heap.size:=(blt ob1.out)
           replace hT1:Hid _:=hT1
           clear hk))
     clear s0 s1 s2 s3 s4 s5 hT ob lw
     go_wp2_with fail
     refine (HOs.out _ hT1.out).mono ?_
     rintro e W2 ⟨rfl,hT2,hk⟩
     have ob2:Hid _:=(hk _ (Nat.le_refl _) (by omega)).trans ob1.out
     clear s0' s1' s2' s3' s4' s5' hT1 ob1 lw1 hk
     go_wp2_with fail
     refine (HFs.out _ hT2).mono ?_
     rintro e W3 ⟨rfl,hT3,hk⟩
     have ob3:=(hk _ (Nat.le_refl _) (by omega)).trans ob2.out
     have HS6:=jgi ob3 (iv p1.num) (iv p1.cust) (iv p1.units) (iv p1.st) (iv p1.cents) (iv p1.upto)
     have hT4:Hid _:=jma KPb hT3 hw1.out (Nat.le_refl _) (by omega) (iv p1.num) (iv p1.cust) (iv p1.units) (iv p1.st) (iv p1.cents) (iv p1.upto)
     obtain ⟨s0,s1,s2,s3,s4,s5⟩:=ja1 ob3
     have f0:=ja0 ob3 0
     have f1:=ja0 ob3 1
     have f2:=ja0 ob3 2
     have f3:=ja0 ob3 3
     have f4:=ja0 ob3 4
     have f5:=ja0 ob3 5
     have lw3:w1.heap.size<W3.heap.size:=(blt ob3)
     replace ob3:Hid _:=ob3
     replace HS6:Hid _:=HS6
     clear hT2 ob2 hk hT3
     go_wp2
     exact HR.out _ hT4.out HS6.out
    ·have HX':Hid (∀ w',jba (P s') w1 own 1 w'->jap (P (fin s)) w w' own):=fun w' h1=>HX.out w' h1 (fun p' e=>by rw [hf] at e;simp only [Option.some.injEq] at e;rw [← e];exact hle)
     clear HM HX hO hN hE hF hL HFRONT HI0
     have hle2:=fun c=>hle ((hcd.out s' p).2 c)
     clear hcd hle
     have dl:decide (p.units<=fr s')=false:=by simpa using hle2
     generalize fr s'=fs at HLs hle2 dl
     generalize hP':P s'=Pa at hT HLs HX'
     have KPa:Keeps Pa:=hP'▸KP s'
     clear hP' i1 hf
     go_wp2_with fail
     go_region_held3 (fun w'=>w'.cell? (aq w1.heap.size 2)=some (iv p.units)) (simp [go_sem, *])
      (first
        | (go_at_call 58;refine (HLs.out _ (jaj KPa hT.out bL)).mono ?_;rintro e W1 ⟨rfl,hT1,hk⟩
           have ob1:Hid _:=(hk _ (Nat.le_refl _) (by omega)).trans ob.out
           obtain ⟨s0',s1',s2',s3',s4',s5'⟩:=ja1 ob1.out
           have lw1:w1.heap.size<W1.heap.size:=(blt ob1.out)
           replace hT1:Hid _:=hT1
           clear hk))
     clear s0 s1 s2 s3 s4 s5 hT ob lw
     go_wp2
     first|go_end0|refine bodyPost_ret (results_none rfl _ _ _) rfl ?_
     exact ⟨rfl,HX'.out _ (jaj KPa hT1.out bL)⟩
theorem jwa {σ:Type} (x:Nat) (P:σ->World->(Nat->Prop)->Prop) (KP:∀ s,Keeps (P s)) (Inv:σ->Prop) (fst:σ->Option POrd) (fr:σ->Int) (nx fin:σ->σ) (μ:σ->Nat) (rv:σ->Value) (cd:σ->POrd->Prop) (hcd:Hid (∀ s p,cd s p↔fr s<p.units))
 (hF:Hid (∀ s,Inv s->∀ W o,P s W o->Calls Tryz.prog 175 #[pt x 0] W fun e w'=>e=.returned (.tuple #[((fst s).getD pord0).val,.bool (fst s).isSome])/\Below W.heap.size W w'))
 (hL:Hid (∀ s,Inv s->∀ W o,P s W o->Calls Tryz.prog 154 #[pt x 0] W fun e w'=>e=.returned (iv (fr s))/\Below W.heap.size W w'))
 (hO:Hid (∀ s p,Inv s->fst s=some p->cd s p->∀ W o,P s W o->Calls Tryz.prog 157 #[pt x 0,p.val,iv 18] W fun e w'=>e=.returned (rv s)/\jap (P (nx s)) W w' o))
 (hN:Hid (∀ s p,Inv s->fst s=some p->cd s p->Inv (nx s)/\μ (nx s)<μ s/\fin (nx s)=fin s))
 (hE:Hid (∀ s,Inv s->(∀ p,fst s=some p->¬ cd s p)->fin s=s)) (s:σ) (w:World) (own:Nat->Prop) (hi:Inv s) (h:P s w own) :
 Calls Tryz.prog 158 #[pt x 0] w fun e w'=>e=.returned (.tuple #[])/\jap (P (fin s)) w w' own:=by
 have hw:=(KP s).lt h
 go_enter Tryz.func158,Tryz.ntmps158
 go_wp2_with fail
 refine (hF.out s hi w own h).mono ?_
 rintro e w1 ⟨rfl,b1⟩
 have h1:P s w1 own:=(KP s).keep h b1.size (fun k e=>b1.block k (hw k e))
 have hw1:Hid (∀ k,own k->k<w1.heap.size):=fun k e=>Nat.lt_of_lt_of_le (hw k e) b1.size
 have HFRONT:Hid (∀ s' w',jap (P s') w1 w' own->jap (P s') w w' own):=fun s' w' ha=>jk9 b1 ha
 have HI0:Hid (jfx P Inv fst fin μ s w1 own (.bool (fst s).isSome) (w1.alloc (.cells ((fst s).getD pord0).cells 184)) (μ s)):=⟨s,hi,rfl,rfl,jd4 (KP s) h1 ((Below.refl _ _).alloc (Nat.le_refl _) _) (by simp),rfl,heap_alloc_new w1 _⟩
 clear h h1 hi hw b1
 unfold POrd.val
 unfold POrd.cells at HI0
 generalize (fst s).getD pord0=p0 at HI0 ⊢
 generalize (fst s).isSome=b0 at HI0 ⊢
 go_wp2_with fail
 go_loopw [3] (fun v wr=>∃ n,jfx P Inv fst fin μ s w1 own v wr n) (fun v wr=>fuel (jfx P Inv fst fin μ s w1 own v wr))
 case atStart=>exact ⟨_,HI0.out⟩
 case round =>
  have hfu:=jt4 hrel
  obtain ⟨s',i1,i2,i3,hT,rfl,ob⟩:=hfu
  replace hT:Hid _:=hT
  replace i1:Hid _:=i1
  have ob:Hid _:=ob
  have HM:Hid (∀ v' w' m,jfx P Inv fst fin μ s w1 own v' w' m->m<μ s'->(∃ n,jfx P Inv fst fin μ s w1 own v' w' n)/\fuel (jfx P Inv fst fin μ s w1 own v' w')<fuel (jfx P Inv fst fin μ s w1 own (.bool (fst s').isSome) wr)):=fun v' w' m h1 h2=>⟨⟨m,h1⟩,by rw [← i2];exact Nat.lt_of_le_of_lt (jsn h1) h2⟩
  clear hrel i2
  have HX:Hid (∀ w',jba (P s') w1 own 1 w'->(∀ p,fst s'=some p->¬ cd s' p)->jap (P (fin s)) w w' own):=fun w' h1 h2=>by
   rw [← i3,hE.out s' i1.out h2]
   exact HFRONT.out _ _ (jdu h1)
  cases hf:fst s' with
  | none =>
    have HX':Hid (∀ w',jba (P s') w1 own 1 w'->jap (P (fin s)) w w' own):=fun w' h1=>HX.out w' h1 (fun p e=>by rw [hf] at e;cases e)
    rw [hf] at HM
    clear HX ob HI0
    simp only [Option.isSome_none]
    go_wp2_with fail
    go_quiet (fail)
    go_wp2
    first|go_end0|refine bodyPost_ret (results_none rfl _ _ _) rfl ?_
    exact ⟨rfl,HX'.out _ (jaj (KP s') hT.out bL)⟩
  | some p =>
    rw [hf] at HM ob
    simp only [Option.getD_some,POrd.cells,Option.isSome_some] at ob HM ⊢
    obtain ⟨s0,s1,s2,s3,s4,s5⟩:=ja1 ob.out
    have lw:w1.heap.size<wr.heap.size:=(blt ob.out)
    have HLs:Hid (∀ W,jba (P s') w1 own 1 W->Calls Tryz.prog 154 #[pt x 0] W fun e w'=>e=.returned (iv (fr s'))/\jba (P s') w1 own 1 w'/\∀ b,w1.heap.size<=b->b<w1.heap.size+1->w'.heap[b]?=W.heap[b]?):=fun W hW=>jfs (KP s') hw1.out (hL.out s' i1.out) W hW
    by_cases hle:cd s' p
    ·have HOs:Hid (∀ W,jba (P s') w1 own 1 W->Calls Tryz.prog 157 #[pt x 0,p.val,iv 18] W fun e w'=>e=.returned (rv s')/\jba (P (nx s')) w1 own 1 w'/\∀ b,w1.heap.size<=b->b<w1.heap.size+1->w'.heap[b]?=W.heap[b]?):=fun W hW=>jcl hw1.out (hO.out s' p i1.out hf hle) W hW
     obtain ⟨n1,n2,n3⟩:=hN.out s' p i1.out hf hle
     have HFs:Hid (∀ W,jba (P (nx s')) w1 own 1 W->Calls Tryz.prog 175 #[pt x 0] W fun e w'=>e=.returned (.tuple #[((fst (nx s')).getD pord0).val,.bool (fst (nx s')).isSome])/\jba (P (nx s')) w1 own 1 w'/\∀ b,w1.heap.size<=b->b<w1.heap.size+1->w'.heap[b]?=W.heap[b]?):=fun W hW=>jfs (KP (nx s')) hw1.out (hF.out (nx s') n1) W hW
     have HR:Hid (∀ W',jba (P (nx s')) w1 own 1 W'->W'.heap[w1.heap.size]?=some (.cells ((fst (nx s')).getD pord0).cells 184 (0,0))->(∃ n,jfx P Inv fst fin μ s w1 own (.bool (fst (nx s')).isSome) W' n)/\fuel (jfx P Inv fst fin μ s w1 own (.bool (fst (nx s')).isSome) W')<fuel (jfx P Inv fst fin μ s w1 own (.bool true) wr)):=fun W' h1 h2=>HM.out _ W' _ ⟨nx s',n1,rfl,n3.trans i3,h1,rfl,h2⟩ n2
     clear HM HX hO hN hE hF hL n1 n2 n3 i3 HFRONT HI0
     unfold POrd.val at HOs HFs
     unfold POrd.cells at HR
     have hle2:=(hcd.out s' p).1 hle
     clear hcd hle
     have dl:decide (fr s'<p.units)=true:=by simpa using hle2
     generalize (fst (nx s')).getD pord0=p1 at HFs HR
     generalize (fst (nx s')).isSome=b1 at HFs HR
     generalize fr s'=fs at HLs hle2 dl
     generalize hP':P s'=Pa at hT HLs HOs
     have KPa:Keeps Pa:=hP'▸KP s'
     generalize hPn:P (nx s')=Pb at HOs HFs HR
     have KPb:Keeps Pb:=hPn▸KP (nx s')
     clear hP' hPn i1 hf
     generalize rv s'=rr at HOs
     go_wp2_with fail
     go_region_held3 (fun w'=>w'.cell? (aq w1.heap.size 2)=some (iv p.units)) (simp [go_sem, *])
      (first
        | (go_at_call 154;refine (HLs.out _ (jaj KPa hT.out bL)).mono ?_;rintro e W1 ⟨rfl,hT1,hk⟩
           have ob1:Hid _:=(hk _ (Nat.le_refl _) (by omega)).trans ob.out
           obtain ⟨s0',s1',s2',s3',s4',s5'⟩:=ja1 ob1.out
           have lw1:w1.heap.size<W1.heap.size:=(blt ob1.out)
           replace hT1:Hid _:=hT1
           clear hk))
     clear s0 s1 s2 s3 s4 s5 hT ob lw
     go_wp2_with fail
     refine (HOs.out _ hT1.out).mono ?_
     rintro e W2 ⟨rfl,hT2,hk⟩
     have ob2:Hid _:=(hk _ (Nat.le_refl _) (by omega)).trans ob1.out
     clear s0' s1' s2' s3' s4' s5' hT1 ob1 lw1 hk
     go_wp2_with fail
     refine (HFs.out _ hT2).mono ?_
     rintro e W3 ⟨rfl,hT3,hk⟩
     have ob3:=(hk _ (Nat.le_refl _) (by omega)).trans ob2.out
     have HS6:=jgi ob3 (iv p1.num) (iv p1.cust) (iv p1.units) (iv p1.st) (iv p1.cents) (iv p1.upto)
     have hT4:Hid _:=jma KPb hT3 hw1.out (Nat.le_refl _) (by omega) (iv p1.num) (iv p1.cust) (iv p1.units) (iv p1.st) (iv p1.cents) (iv p1.upto)
     obtain ⟨s0,s1,s2,s3,s4,s5⟩:=ja1 ob3
     have f0:=ja0 ob3 0
     have f1:=ja0 ob3 1
     have f2:=ja0 ob3 2
     have f3:=ja0 ob3 3
     have f4:=ja0 ob3 4
     have f5:=ja0 ob3 5
     have lw3:w1.heap.size<W3.heap.size:=(blt ob3)
     replace ob3:Hid _:=ob3
     replace HS6:Hid _:=HS6
     clear hT2 ob2 hk hT3
     go_wp2
     exact HR.out _ hT4.out HS6.out
    ·have HX':Hid (∀ w',jba (P s') w1 own 1 w'->jap (P (fin s)) w w' own):=fun w' h1=>HX.out w' h1 (fun p' e=>by rw [hf] at e;simp only [Option.some.injEq] at e;rw [← e];exact hle)
     clear HM HX hO hN hE hF hL HFRONT HI0
     have hle2:=fun c=>hle ((hcd.out s' p).2 c)
     clear hcd hle
     have dl:decide (fr s'<p.units)=false:=by simpa using hle2
     generalize fr s'=fs at HLs hle2 dl
     generalize hP':P s'=Pa at hT HLs HX'
     have KPa:Keeps Pa:=hP'▸KP s'
     clear hP' i1 hf
     go_wp2_with fail
     go_region_held3 (fun w'=>w'.cell? (aq w1.heap.size 2)=some (iv p.units)) (simp [go_sem, *])
      (first
        | (go_at_call 154;refine (HLs.out _ (jaj KPa hT.out bL)).mono ?_;rintro e W1 ⟨rfl,hT1,hk⟩
           have ob1:Hid _:=(hk _ (Nat.le_refl _) (by omega)).trans ob.out
           obtain ⟨s0',s1',s2',s3',s4',s5'⟩:=ja1 ob1.out
           have lw1:w1.heap.size<W1.heap.size:=(blt ob1.out)
           replace hT1:Hid _:=hT1
           clear hk))
     clear s0 s1 s2 s3 s4 s5 hT ob lw
     go_wp2
     first|go_end0|refine bodyPost_ret (results_none rfl _ _ _) rfl ?_
     exact ⟨rfl,HX'.out _ (jaj KPa hT1.out bL)⟩
section
section
variable {w:World} {x:Nat} {own:Nat->Prop} {S:Sal} {last:Nat} {an:Int}
theorem saleK.put {S:Sal} (h:saleK S) {i:Nat} {o:Ord} (hI:salI (S.put i o)):saleK (S.put i o):=⟨hI,by show (S.os.set i o).length<=_;simpa using h.len,h.lease,h.wait,h.keep⟩
theorem qaa (h:psx an x S last w own) (hK:saleK S) :
 Calls Tryz.prog 58 #[pt x 0] w fun e w'=>e=.returned (iv S.free)/\Below w.heap.size w w':=by
 obtain ⟨V,hm,hr,_⟩:=h
 have hB:=hr.bounds hK.I hK.len
 have:=qg6 hm hB.stock hB.sold hB.held
 rw [hr.C,hr.sold,hr.held] at this
 exact this
theorem qd9 (h:psx an x S last w own) (hK:saleK S) :
 Calls Tryz.prog 154 #[pt x 0] w fun e w'=>e=.returned (iv S.left)/\Below w.heap.size w w':=by
 obtain ⟨V,hm,hr,_⟩:=h
 have hB:=hr.bounds hK.I hK.len
 have:=qfs hm hB.stock hB.sold
 rw [hr.C,hr.sold] at this
 exact this
theorem jz9 (h:psx an x S last w own) :
 Calls Tryz.prog 178 #[pt x 0] w fun e w'=>e=.returned (iv S.price)/\Below w.heap.size w w':=by
 obtain ⟨V,hm,hr,_⟩:=h
 have:=qe9 hm
 rw [hr.C,hr.sold] at this
 exact this
theorem jyw (h:psx an x S last w own) {i:Nat} (hi:S.knows i) :
 Calls Tryz.prog 131 #[pt x 11,iv ((i:Int)+1)] w fun e w'=>e=.returned (.tuple #[(jbw S.C i (S.os.getD i ja3)).val,.bool true])/\Below w.heap.size w w':=by
 obtain ⟨V,hm,hr,_⟩:=h
 obtain ⟨j,h1,h2⟩:=hr.known hi
 exact joa hm hr.ls.srt h2 h1
theorem joj (h:psx an x S last w own) {num:Int} (hi:∀ i,S.knows i->num≠(i:Int)+1) :
 Calls Tryz.prog 131 #[pt x 11,iv num] w fun e w'=>e=.returned (.tuple #[pord0.val,.bool false])/\Below w.heap.size w w':=by
 obtain ⟨V,hm,hr,_⟩:=h
 exact jzt hm hr.ls.srt (hr.strange hi)
theorem jnt (S:Sal) {i:Nat} (hi:i<S.os.length) (hs:(S.os.getD i ja3).state≠14):(S.put i { S.os.getD i ja3 with state:=13 }).price=S.price:=by
 unfold Sal.price
 show jc7 S.C.prices (ja4 (S.os.set i _) 14 0) _=_
 rw [jcc hi,jnd,jnd,if_neg hs,if_neg (show ¬ (13:Int)=14 by decide)]
 rw [show ja4 S.os 14 0 - 0+0=ja4 S.os 14 0 by omega]
 rfl
theorem qfu (h:psx an x S last w own) (hK:saleK S) {i:Nat} (hi:S.knows i) (hs:(S.os.getD i ja3).state=12) :
 Calls Tryz.prog 162 #[pt x 0,(jbw S.C i (S.os.getD i ja3)).val] w fun e w'=>e=.returned (POrd.val ⟨(i:Int)+1,(S.os.getD i ja3).cust,(S.os.getD i ja3).units,13,S.price,S.now+S.C.lease⟩)/\jap (psx an x (S.holds i) last) w w' own:=by
 have hw:=(jbb an x S last).lt h
 refine qda x own (psx an x S last) (psx an x (S.holds i) last) (jbb _ _ _ _) (jbb _ _ _ _) _ _ _ _ _ _ S.price (S.now+S.C.lease) w hw h (fun W hW=>jfs (jbb _ _ _ _) hw (fun W o hp=>jz9 hp) W hW) (fun W hW=>jcl hw (fun W o hp=>?_) W hW)
 have e:S.holds i=S.put i { S.os.getD i ja3 with state:=13,cents:=S.price,upto:=S.now+S.C.lease }:=by
  unfold Sal.holds
  rw [jnt S hi.1 (by rw [hs];decide)]
 rw [e]
 exact qd8 hp hK hi ⟨(i:Int)+1,(S.os.getD i ja3).cust,(S.os.getD i ja3).units,(S.os.getD i ja3).state,S.price,(S.os.getD i ja3).untl S.C⟩ rfl rfl rfl rfl 13 (by decide) _ rfl rfl rfl rfl (by unfold Ord.untl jau;rw [if_pos (.inr rfl),if_pos rfl])
def Sal.firstW (S:Sal):Option POrd:=match ja5 S.os with
 | []=>none
 | q :: _=>some (jbw S.C q (S.os.getD q ja3))
theorem qe3 (h:psx an x S last w own) :
 Calls Tryz.prog 161 #[pt x 0] w fun e w'=>e=.returned (.tuple #[(S.firstW.getD pord0).val,.bool S.firstW.isSome])/\Below w.heap.size w w':=by
 have K:=jbb an x S last
 have hb:∀ W,Below w.heap.size w W->psx an x S last W own:=fun W hW=>K.keep h hW.size (fun k e=>hW.block k (K.lt h k e))
 cases hq:ja5 S.os with
 | nil =>
   have e:S.firstW=none:=by unfold Sal.firstW;rw [hq]
   rw [e]
   refine jyg x 0 w (fun W hW=>?_)
   obtain ⟨V,⟨g,hm⟩,hr,_⟩:=hb W hW
   have:=jnv x 15 g.qt W (hm.cell 15 _ rfl) hm.qt.1
   rw [jfg,hm.qt.2,(jmj hr.turns).2 hq] at this
   exact this
 | cons q qs =>
   have e:S.firstW=some (jbw S.C q (S.os.getD q ja3)):=by unfold Sal.firstW;rw [hq]
   obtain ⟨_,h1,h2⟩:=jbh hq ja3 (by decide)
   have hk:S.knows q:=⟨h1,.inl (.inl h2)⟩
   rw [e]
   refine jvv x ((q:Int)+1) _ _ _ _ _ _ w (fun W hW=>?_) (fun W hW=>jyw (hb W hW) hk)
   obtain ⟨V,⟨g,hm⟩,hr,_⟩:=hb W hW
   have:=jnv x 15 g.qt W (hm.cell 15 _ rfl) hm.qt.1
   have hn:V.qt≠[]:=fun c=>by
    have:=(jmj hr.turns).1 c
    rw [hq] at this
    cases this
   rw [jfg,hm.qt.2,jrz hr.turns hq,decide_eq_true hn] at this
   exact this
theorem jgx (h:psx an x S last w own) (hK:saleK S) :
 Calls Tryz.prog 137 #[pt x 0] w fun e w'=>e=.returned (.tuple #[])/\jap (psx an x S.promote last) w w' own:=by
 have hsome:∀ (S:Sal) p,S.firstW=some p->∃ q qs,ja5 S.os=q :: qs/\p=jbw S.C q (S.os.getD q ja3)/\q<S.os.length/\(S.os.getD q ja3).state=12:=by
  intro S p e
  unfold Sal.firstW at e
  cases hq:ja5 S.os with
  | nil=>rw [hq] at e;cases e
  | cons q qs =>
    rw [hq] at e
    simp only [Option.some.injEq] at e
    obtain ⟨_,h1,h2⟩:=jbh hq ja3 (by decide)
    exact ⟨q,qs,rfl,e.symm,h1,h2⟩
 refine jq3 x (fun S=>psx an x S last) (fun S=>jbb an x S last) saleK Sal.firstW Sal.free (fun S=>S.holds ((ja5 S.os).headD 0)) Sal.promote (fun S=>(ja5 S.os).length) (fun S=>POrd.val ⟨((((ja5 S.os).headD 0:Nat):Int))+1,(S.os.getD ((ja5 S.os).headD 0) ja3).cust,(S.os.getD ((ja5 S.os).headD 0) ja3).units,13,S.price,S.now+S.C.lease⟩) (fun S p=>p.units<=S.free) (fun _ _=>Iff.rfl) (fun S _ W o hp=>qe3 hp) (fun S hK W o hp=>qaa hp hK) (fun S p hK e hle W o hp=>?_) (fun S p hK e hle=>?_) (fun S hK hle=>?_) S w own hK h
 ·obtain ⟨q,qs,hq,rfl,h1,h2⟩:=hsome S p e
  simp only [hq,List.headD_cons]
  exact qfu hp hK ⟨h1,.inl (.inl h2)⟩ h2
 ·obtain ⟨q,qs,hq,rfl,h1,h2⟩:=hsome S p e
  have hf:¬ S.free<(S.os.getD q ja3).units:=by
   have:(S.os.getD q ja3).units<=S.free:=hle
   omega
  simp only [hq,List.headD_cons]
  have hpr:0<=S.price/\S.price<=1073741824:=jeu hK.I.prices _ _ (Nat.le_refl _)
  have ho:=hK.I.ords _ (jal h1)
  refine ⟨hK.put (jqx hK.I h1 h2 hf _ rfl rfl rfl ⟨?_,ho.2⟩),?_,(jvo hq hf).symm⟩
  ·rw [jnt S h1 (by rw [h2];decide)];exact hpr
  ·rw [jg6 hq];simp
 ·cases hq:ja5 S.os with
  | nil=>exact jmd hq
  | cons q qs =>
    refine jkn hq ?_
    have:=hle (jbw S.C q (S.os.getD q ja3)) (by unfold Sal.firstW;rw [hq])
    have:¬ (S.os.getD q ja3).units<=S.free:=this
    omega
theorem jkt {Z Z':List Ent} {os:List Ord} (h:jbz Z os) (h':jbz Z' os):Z=Z':=jtu h.1 h'.1 (fun e=>(h.2 e).trans (h'.2 e).symm)
def qf3:List Ent->Option Nat
 | []=>none
 | e :: _=>some (e.1.2 - 1).toNat
open Classical in
noncomputable def Sal.greatI (S:Sal):Option Nat:=if h:∃ Z,jbz Z S.os then qf3 (Classical.choose h) else none
noncomputable def Sal.greatW (S:Sal):Option POrd:=S.greatI.map (fun q=>jbw S.C q (S.os.getD q ja3))
theorem jr6 {Z:List Ent} (h:jbz Z S.os):S.greatI=qf3 Z:=by
 unfold Sal.greatI
 have hx:∃ Z,jbz Z S.os:=⟨Z,h⟩
 rw [dif_pos hx,jkt (Classical.choose_spec hx) h]
theorem jjm {Z:List Ent} (h:jbz Z S.os):(ja5 S.os=[]/\Z=[]/\S.greatI=none)\/∃ i,S.greatI=some i/\Z≠[]/\i<S.os.length/\(S.os.getD i ja3).state=12/\Z.headD ((0,0),0)=((-(S.os.getD i ja3).units,(i:Int)+1),0)/\∀ j,j<S.os.length->(S.os.getD j ja3).state=12->(S.os.getD j ja3).units<=(S.os.getD i ja3).units:=by
 by_cases hz:Z=[]
 ·exact .inl ⟨(jmo h).1 hz,hz,by rw [jr6 h,hz];rfl⟩
 ·obtain ⟨i,a,b,c,d⟩:=jqn h hz
  refine .inr ⟨i,?_,hz,a,b,c,d⟩
  rw [jr6 h]
  cases Z with
  | nil=>exact absurd rfl hz
  | cons e l =>
    have c':e=((-(S.os.getD i ja3).units,(i:Int)+1),0):=c
    rw [c']
    simp [qf3]
theorem qf8 (h:psx an x S last w own) :
 Calls Tryz.prog 175 #[pt x 0] w fun e w'=>e=.returned (.tuple #[(S.greatW.getD pord0).val,.bool S.greatW.isSome])/\Below w.heap.size w w':=by
 have K:=jbb an x S last
 have hb:∀ W,Below w.heap.size w W->psx an x S last W own:=fun W hW=>K.keep h hW.size (fun k e=>hW.block k (K.lt h k e))
 obtain ⟨V0,_,hr0,_⟩:=h
 rcases jjm hr0.sizes with ⟨hq,hz,hg⟩|⟨i,hg,hz,h1,h2,h3,_⟩
 ·have e:S.greatW=none:=by unfold Sal.greatW;rw [hg];rfl
  rw [e]
  refine jxl x 0 w (fun W hW=>?_)
  obtain ⟨V,⟨g,hm⟩,hr,_⟩:=hb W hW
  have:=jin x 15 g.qz W (hm.cell 17 _ rfl) hm.qz.1
  rw [jfg,hm.qz.2,(jmo hr.sizes).2 hq] at this
  exact this
 ·have e:S.greatW=some (jbw S.C i (S.os.getD i ja3)):=by unfold Sal.greatW;rw [hg];rfl
  have hk:S.knows i:=⟨h1,.inl (.inl h2)⟩
  rw [e]
  refine jv5 x ((i:Int)+1) _ _ _ _ _ _ w (fun W hW=>?_) (fun W hW=>jyw (hb W hW) hk)
  obtain ⟨V,⟨g,hm⟩,hr,_⟩:=hb W hW
  have:=jin x 15 g.qz W (hm.cell 17 _ rfl) hm.qz.1
  have hv:V.qz=V0.qz:=jkt hr.sizes hr0.sizes
  rw [jfg,hm.qz.2,hv,h3,decide_eq_true hz] at this
  exact this
theorem jq2 (h:psx an x S last w own) (hK:saleK S) {i:Nat} (hi:S.knows i) (st:Int) (hst:st≠12/\st≠13) :
 Calls Tryz.prog 157 #[pt x 0,(jbw S.C i (S.os.getD i ja3)).val,iv st] w fun e w'=>e=.returned (POrd.val ⟨(i:Int)+1,(S.os.getD i ja3).cust,(S.os.getD i ja3).units,st,(S.os.getD i ja3).cents,S.now+S.C.keep⟩)/\jap (psx an x (S.ends i st) last) w w' own:=by
 have hsp:jau S.C st=S.C.keep:=by unfold jau;rw [if_neg hst.2,if_neg hst.1]
 have:=qd8 h hK hi (jbw S.C i (S.os.getD i ja3)) rfl rfl rfl rfl st hst.1 { S.os.getD i ja3 with state:=st,ended:=S.now } rfl rfl rfl rfl (by rw [hsp];exact jjl (fun c=>c.elim hst.1 hst.2))
 rw [hsp] at this
 exact this
theorem saleK.ends {S:Sal} (h:saleK S) {i:Nat} (hi:i<S.os.length) (st:Int) (hst:st=14\/(st≠12/\st≠13/\st≠14)) (h14:st=14->(S.os.getD i ja3).state=13):saleK (S.ends i st):=h.put (jim h.I hi st hst h14)
theorem qf9 (h:psx an x S last w own) (hK:saleK S) :
 Calls Tryz.prog 158 #[pt x 0] w fun e w'=>e=.returned (.tuple #[])/\jap (psx an x S.drained last) w w' own:=by
 obtain ⟨V0,_,hr0,_⟩:=id h
 have hz0:∃ Z,jbz Z S.os:=⟨_,hr0.sizes⟩
 clear hr0
 have hsome:∀ (S:Sal) p,(∃ Z,jbz Z S.os)->S.greatW=some p->∃ q,S.greatI=some q/\p=jbw S.C q (S.os.getD q ja3)/\q<S.os.length/\(S.os.getD q ja3).state=12/\∀ j,j<S.os.length->(S.os.getD j ja3).state=12->(S.os.getD j ja3).units<=(S.os.getD q ja3).units:=by
  rintro S p ⟨Z,hZ⟩ e
  rcases jjm hZ with ⟨_,_,hg⟩|⟨i,hg,_,h1,h2,_,h4⟩
  ·unfold Sal.greatW at e;rw [hg] at e;cases e
  ·unfold Sal.greatW at e
   rw [hg] at e
   simp only [Option.map_some,Option.some.injEq] at e
   exact ⟨i,hg,e.symm,h1,h2,h4⟩
 refine jwa x (fun S=>psx an x S last) (fun S=>jbb an x S last) (fun S=>saleK S/\∃ Z,jbz Z S.os) Sal.greatW Sal.left (fun S=>S.ends (S.greatI.getD 0) 18) Sal.drained (fun S=>(ja5 S.os).length) (fun S=>POrd.val ⟨((S.greatI.getD 0:Nat):Int)+1,(S.os.getD (S.greatI.getD 0) ja3).cust,(S.os.getD (S.greatI.getD 0) ja3).units,18,(S.os.getD (S.greatI.getD 0) ja3).cents,S.now+S.C.keep⟩) (fun S p=>S.left<p.units) (fun _ _=>Iff.rfl) (fun S _ W o hp=>qf8 hp) (fun S hK W o hp=>qd9 hp hK.1) (fun S p hK e hle W o hp=>?_) (fun S p hK e hle=>?_) (fun S hK hle=>?_) S w own ⟨hK,hz0⟩ h
 ·obtain ⟨q,hg,rfl,h1,h2,_⟩:=hsome S p hK.2 e
  simp only [hg,Option.getD_some]
  exact jq2 hp hK.1 ⟨h1,.inl (.inl h2)⟩ 18 (by decide)
 ·obtain ⟨q,hg,rfl,h1,h2,_⟩:=hsome S p hK.2 e
  have hlt:S.left<(S.os.getD q ja3).units:=hle
  simp only [hg,Option.getD_some]
  obtain ⟨Z,hZ⟩:=hK.2
  refine ⟨⟨hK.1.ends h1 18 (.inr (by decide)) (fun c=>absurd c (by decide)),_,jqv hZ h1 _ (show (18:Int)≠12 by decide)⟩,?_,jki h1 h2 hlt⟩
  show (ja5 (S.os.set q _)).length<_
  rw [jj2 _ h1 (show (18:Int)≠12 by decide)]
  refine List.length_filter_lt_length_iff_exists.2 ⟨q,(jb6 S.os _ q).2 ⟨h1,h2⟩,by simp⟩
 ·obtain ⟨Z,hZ⟩:=hK.2
  refine jkv (fun o ho hs=>?_)
  obtain ⟨j,hj,rfl⟩:=jdh ho
  rcases jjm hZ with ⟨hq,_,_⟩|⟨i,hg,_,h1,h2,_,h4⟩
  ·have:=(jb6 S.os _ j).2 ⟨hj,hs⟩
   have hq':jam S.os S.os.length=[]:=hq
   rw [hq'] at this
   cases this
  ·have:=h4 j hj hs
   have h5:=hle (jbw S.C i (S.os.getD i ja3)) (by unfold Sal.greatW;rw [hg];rfl)
   have h6:¬ S.left<(S.os.getD i ja3).units:=h5
   omega
end
end
end Go.Proofs.YtfhncfghblkgeaaGreat
