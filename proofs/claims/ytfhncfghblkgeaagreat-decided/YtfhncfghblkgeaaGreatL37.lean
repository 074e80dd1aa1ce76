import Derived.Test.YtfhncfghblkgeaaGreatL30
import Derived.Test.YtfhncfghblkgeaaGreatL32
import Derived.Test.YtfhncfghblkgeaaGreatL34
import Derived.Test.YtfhncfghblkgeaaGreatL35
import Derived.Test.YtfhncfghblkgeaaGreatL36
set_option maxRecDepth 100000
set_option maxHeartbeats 2000000
namespace Go.Proofs.YtfhncfghblkgeaaGreat
open Go.RowKit
section
def pv (x:Nat) (V:PV) (W:World) (o:Nat->Prop):Prop:=psm W x o V
theorem jmn (x:Nat) (V:PV):Keeps (pv x V):=⟨fun h=>jfm h,fun h hz hk=>jfi h hz hk⟩
def pvb (x i:Nat) (V:PV) (W:World) (o:Nat->Prop):Prop:=psm W x o V/\∃ a n c,W.cell? (aq x i)=some (.slice (some a) n c)
theorem qd4 {W:World} {x:Nat} {own:Nat->Prop} {V:PV} (h:psm W x own V):own x:=by
 obtain ⟨g,h⟩:=h
 exact h.ownx
theorem qgi (x i:Nat) (V:PV):Keeps (pvb x i V):=⟨fun h=>jfm h.1,fun h hz hk=>⟨jfi h.1 hz hk,by
 obtain ⟨hp,a,n,c,e⟩:=h
 exact ⟨a,n,c,(World.cell?_of_block (a:=(aq x i)) (hk x (qd4 hp))).trans e⟩⟩⟩
theorem jjx {b:Nat} {T:TypeId}:∀ (vs:List Value) (o:Nat) (W:World) (C:Array Value),W.heap[b]?=some (.cells C T (0,0))->∃ C':Array Value,(jiy W b o vs).heap[b]?=some (.cells C' T (0,0))/\C'.toList=jcm C.toList o vs
 | [],_,_,C,h=>⟨C,h,rfl⟩
 | v :: vs,o,W,C,h=>by
   obtain ⟨C',h1,h2⟩:=jjx vs (o+1) (W.setCell (aq b o) v) (C.setIfInBounds o v) (Joins.block_setCell h v)
   exact ⟨C',h1,by rw [h2,Array.toList_setIfInBounds];rfl⟩
theorem ji4 {b:Nat}:∀ (vs:List Value) (o:Nat) (W:World),Same (fun k=>k=b) W (jiy W b o vs)
 | [],_,W=>Same.of_below (Below.refl _ _)
 | v :: vs,o,W=>Same.trans (jce (own:=fun k=>k=b) (Same.of_below (Below.refl _ _)) b o v rfl) (ji4 vs (o+1) _) (fun k _ e=>by rcases e with e|e<;>exact e)
theorem jgt {α:Type} {f:α->List Value} {s:Nat} (hf:∀ a,(f a).length=s):∀ (l:List α) (m:Nat),(l.flatMap f).take (m * s)=(l.take m).flatMap f
 | [],m=>by simp
 | a :: l,0=>by simp
 | a :: l,m+1=>by
   rw [List.flatMap_cons,List.take_succ_cons,List.flatMap_cons,← jgt hf l m,List.take_append,hf,List.take_of_length_le (by rw [hf,Nat.succ_mul];omega),show (m+1) * s - s=m * s by rw [Nat.succ_mul];omega]
theorem jnw (a:Option Addr) (n m c:Nat):Value.ownBlock (.slice a n c)=Value.ownBlock (.slice a m c):=by cases a<;>rfl
section
variable {W:World} {x:Nat} {own:Nat->Prop} {V:PV} {g:PG}
theorem PMem.ostore {b j:Nat} {Cb:Array Value} (h:PMem W x own V g) (hb:g.oo=some (aq b 0)) (hl:j<V.ol.length) (hC:W.heap[b]?=some (.cells Cb 184 (0,0))) (o:POrd):jb4 W (jiy W b (j * 6) o.vals) x own { V with ol:=V.ol.set j o }:=by
 obtain ⟨C',a1,ac⟩:=jjx o.vals (j * 6) W Cb hC
 have a2:=ji4 (b:=b) o.vals (j * 6) W
 generalize jiy W b (j * 6) o.vals=w' at a1 a2 ⊢
 have hbo:Value.ownBlock (.slice g.oo V.ol.length g.oc)=some b:=by rw [hb];rfl
 have hs':Same (g.xs V x) W w':=jci a2 (fun k e=>.inr (.inl (by rw [hbo,show k=b from e])))
 have hbx:x≠b:=fun e=>jb9 h.orow h.blk (by decide) (by rw [hbo,e])
 have hlen:(V.ol.set j o).length=V.ol.length:=by simp
 refine h.turn hs' (V':={ V with ol:=V.ol.set j o }) (g':=g) ?_ rfl ⟨rfl,rfl,rfl⟩ ⟨rfl,rfl,rfl,rfl⟩ ⟨rfl,rfl,rfl,rfl⟩ ⟨h.stay hs' h.ot.1,h.ot.2,fun _ e=>.inl e⟩ ⟨h.stay hs' h.qt.1,h.qt.2,fun _ e=>.inl e⟩ ⟨h.stay hs' h.qz.1,h.qz.2,fun _ e=>.inl e⟩ ⟨h.stay hs' h.lu.1,h.lu.2,fun _ e=>.inl e⟩ ⟨h.stay hs' h.att.1,h.att.2,fun _ e=>.inl e⟩ ?_ ?_
 ·have:jbe { V with ol:=V.ol.set j o } g=jbe V g:=by unfold jbe;simp only [hlen]
  rw [this]
  exact (a2.block x h.xw hbx).trans h.blk
 ·show w'.ownsRow 0 184 6 (.slice g.oo (V.ol.set j o).length g.oc) (V.ol.set j o).length (jdv (V.ol.set j o))/\∀ k,Value.ownBlock (.slice g.oo (V.ol.set j o).length g.oc)=some k->_
  rw [hlen]
  refine ⟨⟨by rw [jjo,hlen],.inr ?_⟩,fun k e=>.inl e⟩
  rcases h.orow.2 with ⟨_,h0⟩|⟨b',cap,cur,hv,q1,q2,q3,q4,q5,q6⟩
  ·omega
  ·simp only [Value.slice.injEq] at hv
   obtain ⟨e1,_,e2⟩:=hv
   have eb:b'=b:=by rw [hb] at e1;simp at e1;exact e1.symm
   subst eb
   rw [hC] at q2
   simp only [Option.some.injEq,Obj.cells.injEq,and_true] at q2
   subst q2
   refine ⟨b',cap,C',by rw [hb,e2],q1,a1,q3,q4,?_,?_⟩
   ·have:=congrArg List.length ac
    rw [ji7,Array.length_toList,Array.length_toList] at this
    rw [this];exact q5
   ·rw [ac,jfn,q6,joc _ _ _ hl]
 ·refine ⟨jad h.arow (fun k e=>a2.block k (World.ownsRow.lt h.arow k e).2 (fun c=>?_)),fun k e=>.inl e⟩
  exact jb9 h.arow hC (by decide) (by rw [e,show k=b from c])
theorem PMem.ocut {m:Nat} (h:PMem W x own V g) (hn:V.ol.length=m+1):jb4 W (W.setCell (aq x 13) (.slice g.oo m g.oc)) x own { V with ol:=V.ol.take m }:=by
 have hlen:(V.ol.take m).length=m:=by simp;omega
 have hs0:Same (fun k=>k=x) W (W.setCell (aq x 13) (.slice g.oo m g.oc)):=jce (Same.of_below (Below.refl _ _)) x _ _ rfl
 have hs':Same (g.xs V x) W (W.setCell (aq x 13) (.slice g.oo m g.oc)):=jci hs0 (fun k e=>.inl e)
 refine h.turn hs' (V':={ V with ol:=V.ol.take m }) (g':=g) ?_ rfl ⟨rfl,rfl,rfl⟩ ⟨rfl,rfl,rfl,rfl⟩ ⟨rfl,rfl,rfl,rfl⟩ ⟨h.stay hs' h.ot.1,h.ot.2,fun _ e=>.inl e⟩ ⟨h.stay hs' h.qt.1,h.qt.2,fun _ e=>.inl e⟩ ⟨h.stay hs' h.qz.1,h.qz.2,fun _ e=>.inl e⟩ ⟨h.stay hs' h.lu.1,h.lu.2,fun _ e=>.inl e⟩ ⟨h.stay hs' h.att.1,h.att.2,fun _ e=>.inl e⟩ ?_ ?_
 ·rw [Joins.block_setCell h.blk]
  unfold jbe
  simp only [hlen]
  rfl
 ·show (W.setCell (aq x 13) (.slice g.oo m g.oc)).ownsRow 0 184 6 (.slice g.oo (V.ol.take m).length g.oc) (V.ol.take m).length (jdv (V.ol.take m))/\∀ k,Value.ownBlock (.slice g.oo (V.ol.take m).length g.oc)=some k->_
  rw [hlen]
  refine ⟨⟨by rw [jjo,hlen],.inr ?_⟩,fun k e=>.inl ((jnw _ _ _ _).trans e)⟩
  rcases h.orow.2 with ⟨_,h0⟩|⟨b,cap,cur,hv,q1,q2,q3,q4,q5,q6⟩
  ·omega
  ·simp only [Value.slice.injEq] at hv
   obtain ⟨e1,_,e2⟩:=hv
   have hbx:b≠x:=fun e=>jb9 h.orow h.blk (by decide) (by rw [e1,← e];rfl)
   refine ⟨b,cap,cur,by rw [e1,e2],q1,(Below.heap_setCell _ (aq x 13) _ _ hbx).trans q2,by omega,q4,q5,?_⟩
   rw [show m * 6=min (m * 6) (V.ol.length * 6) by rw [hn];omega,← List.take_take,q6]
   exact jgt (f:=POrd.vals) (s:=6) (fun _=>rfl) V.ol m
 ·refine ⟨jad h.arow (fun k e=>Below.heap_setCell _ (aq x 13) _ _ (fun c=>jb9 h.arow h.blk (by decide) (by rw [e,show k=x from c]))),fun k e=>.inl e⟩
theorem qa3 (h:pvb x 13 V W own) (hz:V.ol.length<=4294967296) :
 Calls Tryz.prog 176 #[pt x 11] W fun e w'=>e=.returned (.tuple #[])/\jap (fun W o=>∃ rm,psm W x o { V with orm:=rm }) W w' own:=by
 obtain ⟨⟨g,h⟩,a,na,ca,ha⟩:=h
 rw [h.cell 13 (.slice g.oo V.ol.length g.oc) rfl] at ha
 simp only [Option.some.injEq,Value.slice.injEq] at ha
 rcases h.orow.2 with ⟨hv,_⟩|⟨b,cap,cur,hv,_⟩
 ·simp only [Value.slice.injEq] at hv
  rw [hv.1] at ha
  cases ha.1
 ·simp only [Value.slice.injEq] at hv
  have hb:=hv.1
  have h1:∀ u∈jdv V.ol,u.oneCell'=true:=by
   intro u hu
   obtain ⟨o,_,hu⟩:=List.mem_flatMap.1 hu
   simp only [POrd.vals,List.mem_cons,List.not_mem_nil,or_false] at hu
   rcases hu with rfl|rfl|rfl|rfl|rfl|rfl<;>rfl
  refine (jxa x 11 b V.ol.length g.oc (jbe V g) 117 V.orm (jdv V.ol) W h.blk (by rw [← hb];rfl) rfl (by rw [← hb];exact h.orow) h1 (by omega)).mono ?_
  rintro e w' ⟨rfl,b',c',rm,a1,a2,a3,a4⟩
  have hs':Same (g.xs V x) W w':=jci a3 (fun k e=>.inl e)
  have:jb4 W w' x own { V with orm:=rm }:=by
   refine h.turn hs' (V':={ V with orm:=rm }) (g':={ g with oo:=some (aq b' 0),oc:=c' }) a1 rfl ⟨rfl,rfl,rfl⟩ ⟨rfl,rfl,rfl,rfl⟩ ⟨rfl,rfl,rfl,rfl⟩ ⟨h.stay hs' h.ot.1,h.ot.2,fun _ e=>.inl e⟩ ⟨h.stay hs' h.qt.1,h.qt.2,fun _ e=>.inl e⟩ ⟨h.stay hs' h.qz.1,h.qz.2,fun _ e=>.inl e⟩ ⟨h.stay hs' h.lu.1,h.lu.2,fun _ e=>.inl e⟩ ⟨h.stay hs' h.att.1,h.att.2,fun _ e=>.inl e⟩ ?_ ?_
   ·refine ⟨a2,fun k e=>?_⟩
    have e4:b'=k:=by simpa [Value.ownBlock] using e
    rw [← e4]
    exact a4.imp (fun e=>by rw [hb,e];rfl) id
   ·refine ⟨jad h.arow (fun k e=>a3.block k (World.ownsRow.lt h.arow k e).2 (fun c=>jb9 h.arow h.blk (by decide) (by rw [e,show k=x from c]))),fun k e=>.inl e⟩
  obtain ⟨o2,b1,b2,b3⟩:=this
  exact ⟨rfl,o2,⟨rm,b1⟩,b2,b3⟩
theorem qbj {k1 u v:Int} (h:psm W x own V) (hs:srt V.ot) (hn:jb5 (k1,0) V.ot=some u) :
 Calls Tryz.prog 112 #[pt x 11,.agg #[iv k1,iv 0],iv v] W fun e w'=>e=.returned (.tuple #[])/\jb4 W w' x own { V with ot:=jbl (k1,0) v V.ot }:=by
 obtain ⟨g,h⟩:=h
 refine (jsz x 11 (jbe V g) 117 (by decide) g.ot V.ot.length k1 0 v u W h.blk rfl rfl h.ot.1 (by rw [h.ot.2];exact hs) (by rw [h.ot.2];exact hn)).mono ?_
 rintro e w' ⟨rfl,t',a1,a2,a3,a4,a5⟩
 rw [h.ot.2] at a3
 have e1:(V.ot.length:Int)=((jbl (k1,0) v V.ot).length:Int):=by rw [jfe hs hn]
 rw [e1] at a1
 exact ⟨rfl,h.turnX a4 (V':={ V with ot:=jbl (k1,0) v V.ot }) (g':={ g with ot:=t' }) a1 rfl ⟨rfl,rfl,rfl⟩ ⟨rfl,rfl,rfl,rfl⟩ ⟨rfl,rfl,rfl,rfl⟩ ⟨a2,a3,a5⟩ ⟨h.stayX a4 h.qt.1,h.qt.2,fun _ e=>.inl e⟩ ⟨h.stayX a4 h.qz.1,h.qz.2,fun _ e=>.inl e⟩ ⟨h.stayX a4 h.lu.1,h.lu.2,fun _ e=>.inl e⟩ ⟨h.stayX a4 h.att.1,h.att.2,fun _ e=>.inl e⟩ ⟨rfl,rfl,rfl⟩ ⟨rfl,rfl,rfl⟩⟩
theorem jvj {k1 u:Int} (h:psm W x own V) (hs:srt V.ot) (hn:jb5 (k1,0) V.ot=some u) (hz:V.ot.length<=4294967296) :
 Calls Tryz.prog 143 #[pt x 11,.agg #[iv k1,iv 0]] W fun e w'=>e=.returned (.tuple #[])/\jb4 W w' x own { V with ot:=jd0 (k1,0) V.ot }:=by
 obtain ⟨g,h⟩:=h
 have l1:=jjn hs hn
 refine (jee x 11 (jbe V g) 117 (by decide) g.ot V.ot.length k1 0 u W h.blk rfl rfl h.ot.1 (by rw [h.ot.2];exact hs) (by rw [h.ot.2];exact hn) ⟨by omega,by omega⟩).mono ?_
 rintro e w' ⟨rfl,t',a1,a2,a3,a4,a5⟩
 rw [h.ot.2] at a3
 have e1:(V.ot.length:Int) - 1=((jd0 (k1,0) V.ot).length:Int):=by omega
 rw [e1] at a1
 exact ⟨rfl,h.turnX a4 (V':={ V with ot:=jd0 (k1,0) V.ot }) (g':={ g with ot:=t' }) a1 rfl ⟨rfl,rfl,rfl⟩ ⟨rfl,rfl,rfl,rfl⟩ ⟨rfl,rfl,rfl,rfl⟩ ⟨a2,a3,a5⟩ ⟨h.stayX a4 h.qt.1,h.qt.2,fun _ e=>.inl e⟩ ⟨h.stayX a4 h.qz.1,h.qz.2,fun _ e=>.inl e⟩ ⟨h.stayX a4 h.lu.1,h.lu.2,fun _ e=>.inl e⟩ ⟨h.stayX a4 h.att.1,h.att.2,fun _ e=>.inl e⟩ ⟨rfl,rfl,rfl⟩ ⟨rfl,rfl,rfl⟩⟩
theorem jxx {j:Nat} {a z:POrd} (h:psm W x own V) (hL:Listed POrd.num V.ot V.ol) (hz:V.ol.length<=4294967296) (hzt:V.ot.length=V.ol.length) (hj:V.ol[j]?=some a) (hzz:V.ol[V.ol.length - 1]?=some z) :
 Calls Tryz.prog 160 #[pt x 11,iv a.num] W fun e w'=>e=.returned (.tuple #[])/\∃ rm,jb4 W w' x own { V with ot:=jd0 (a.num,0) (jbl (z.num,0) j V.ot),ol:=jel V.ol j z,orm:=rm }:=by
 have hjl:=(List.getElem?_eq_some_iff.1 hj).1
 have hw:∀ k,own k->k<W.heap.size:=jfm h
 obtain ⟨m,hm⟩:∃ m,V.ol.length=m+1:=⟨V.ol.length - 1,by omega⟩
 rw [hm,Nat.add_sub_cancel] at hzz
 have gj:=jeb hL hj
 have gz:=jeb hL hzz
 have s1:srt (jbl (z.num,0) j V.ot):=jg7 _ _ hL.srt
 obtain ⟨u,gu⟩:∃ u,jb5 (a.num,0) (jbl (z.num,0) j V.ot)=some u:=by
  by_cases e:((a.num,0):Int × Int)=(z.num,0)
  ·exact ⟨_,(jgw s1).2 (jg3.2 (.inl (by rw [e])))⟩
  ·exact ⟨_,(jgw s1).2 (jg3.2 (.inr ⟨jgb gj,e⟩))⟩
 have l1:(jbl (z.num,0) j V.ot).length=V.ot.length:=jfe hL.srt gz
 refine (js6 x V.ol.length m j a.num z.num z.cust z.units z.st z.cents z.upto W own hw hm (by omega) (by omega)
  (pv x V) (pv x { V with ol:=V.ol.set j z }) (pv x { V with ol:=V.ol.set j z,ot:=jbl (z.num,0) j V.ot }) (pv x { V with ol:=V.ol.set j z,ot:=jd0 (a.num,0) (jbl (z.num,0) j V.ot) }) (pvb x 13 { V with ol:=(V.ol.set j z).take m,ot:=jd0 (a.num,0) (jbl (z.num,0) j V.ot) }) (fun W o=>∃ rm,psm W x o { V with ol:=(V.ol.set j z).take m,ot:=jd0 (a.num,0) (jbl (z.num,0) j V.ot),orm:=rm })
  (jmn _ _) (jmn _ _) (jmn _ _) (qgi _ _ _) h (fun loc W' hT=>jfy (jmn _ _) hw (fun W o hp=>?_) W' hT) (fun loc W' hT=>?_) (fun loc W' hT=>ja6 (P:=pv x { V with ol:=V.ol.set j z }) hw (fun W o hp=>qbj (V:={ V with ol:=V.ol.set j z }) hp hL.srt gz) W' hT) (fun loc W' hT=>ja6 (P:=pv x { V with ol:=V.ol.set j z,ot:=jbl (z.num,0) j V.ot }) hw (fun W o hp=>jvj (V:={ V with ol:=V.ol.set j z,ot:=jbl (z.num,0) j V.ot }) hp s1 gu (by show (jbl (z.num,0) j V.ot).length<=_;omega)) W' hT) (fun loc W' hT=>?_) (fun loc W' hT=>?_) (fun loc W' hT=>?_) (fun loc W' hT=>ja6 (P:=pvb x 13 { V with ol:=(V.ol.set j z).take m,ot:=jd0 (a.num,0) (jbl (z.num,0) j V.ot) }) hw (fun W o hp=>qa3 (V:={ V with ol:=(V.ol.set j z).take m,ot:=jd0 (a.num,0) (jbl (z.num,0) j V.ot) }) hp (by show ((V.ol.set j z).take m).length<=_;simp;omega)) W' hT)).mono ?_
 ·obtain ⟨g,hp⟩:=hp
  have:=jd3 x 11 g.ot a.num 0 W (hp.cell 11 _ rfl) hp.ot.1 (by rw [hp.ot.2];exact hL.srt)
  rw [hp.ot.2,gj] at this
  exact this
 ·obtain ⟨o1,⟨g,hp⟩,b2,b3,b4⟩:=id hT
  obtain ⟨b,Cb,hb,_,hC,c0,c1,c2,c3,c4,c5⟩:=hp.ocells hzz
  obtain ⟨b',Cb',hb',_,hC',d0,d1,d2,d3,d4,d5⟩:=hp.ocells hj
  have eb:b'=b:=by rw [hb] at hb';simp at hb';exact hb'.symm
  subst eb
  have hp0:=hp
  obtain ⟨t1,t2⟩:=jj0 (P':=pv x { V with ol:=V.ol.set j z }) (W':=jiy W' b' (j * 6) z.vals) hw hT (fun o hp=>by
   obtain ⟨g',hp⟩:=hp
   obtain ⟨b2,Cb2,hb2,_,hC2,e0,e1,e2,e3,e4,e5⟩:=hp.ocells hzz
   have q1:=(hp.cell 13 (.slice g'.oo V.ol.length g'.oc) rfl).symm.trans (hp0.cell 13 (.slice g.oo V.ol.length g.oc) rfl)
   simp only [Option.some.injEq,Value.slice.injEq] at q1
   have eb:b2=b':=by rw [hb2,hb] at q1;simpa using q1.1
   subst eb
   exact hp.ostore hb2 hjl hC2 z)
  exact ⟨b',g.oc,_,_,_,_,_,_,hp.xw,(blt hC),by rw [← hb];exact hp.cell 13 _ rfl,c0,c1,c2,c3,c4,c5,d0,d1,d2,d3,d4,d5,ja0 hC _,ja0 hC _,ja0 hC _,ja0 hC _,ja0 hC _,ja0 hC _,t1,t2⟩
 ·obtain ⟨o1,⟨g,hp⟩,b2,b3,b4⟩:=id hT
  have hlen:(V.ol.set j z).length=m+1:=by simp;exact hm
  rcases hp.orow.2 with ⟨_,h0⟩|⟨b,cap,cur,hv,q1,q2,q3,q4⟩
  ·have h0:(V.ol.set j z).length=0:=h0
   omega
  ·simp only [Value.slice.injEq] at hv
   have hc:W'.cell? (aq x 13)=some (.slice (some (aq b 0)) V.ol.length g.oc):=by
    rw [hp.cell 13 (.slice g.oo (V.ol.set j z).length g.oc) rfl,hv.1,List.length_set]
   have q3':V.ol.length<=g.oc:=by
    have:(V.ol.set j z).length<=cap:=q3
    rw [List.length_set] at this
    rw [hv.2.2];exact this
   refine ⟨b,g.oc,hp.xw,q3',hc,ja0 hp.blk _,(jj0 (P:=pv x { V with ol:=V.ol.set j z,ot:=jd0 (a.num,0) (jbl (z.num,0) j V.ot) }) hw hT (fun o hp2=>?_)).1⟩
   obtain ⟨g2,hp2⟩:=hp2
   have e3:=(hp2.cell 13 (.slice g2.oo (V.ol.set j z).length g2.oc) rfl).symm.trans (hp.cell 13 (.slice g.oo (V.ol.set j z).length g.oc) rfl)
   simp only [Option.some.injEq,Value.slice.injEq] at e3
   have:=hp2.ocut (m:=m) hlen
   rw [e3.1,e3.2.2,hv.1] at this
   obtain ⟨o2,r1,r2,r3⟩:=this
   exact ⟨o2,⟨r1,_,m,g.oc,by rw [Joins.cell_of_block (Joins.block_setCell hp.blk _)];rfl⟩,r2,r3⟩
 ·obtain ⟨o1,⟨g,hp⟩,_⟩:=hT
  exact hp.xw
 ·obtain ⟨o1,⟨g,hp⟩,_⟩:=hT
  exact hp.xw
 ·rintro e w' ⟨rfl,o2,⟨rm,r1⟩,r2,r3⟩
  refine ⟨rfl,rm,o2,?_,r2,r3⟩
  unfold jel
  rw [hm,Nat.add_sub_cancel]
  exact r1
theorem jv0 (ol:List PAns) (j:Nat) (o:PAns) (h:j<ol.length):jcm (jdd ol) (j * 9) o.vals=jdd (ol.set j o):=ji3 (f:=PAns.vals) (s:=9) (fun _=>rfl) ol j o h
theorem PMem.acellsT {j:Nat} {o:PAns} (h:PMem W x own V g) (hj:V.al[j]?=some o):∃ b Cb,g.ao=some (aq b 0)/\j<V.al.length/\W.heap[b]?=some (.cells Cb 188 (0,0))/\W.cell? (aq b (j * 9))=some (iv o.k)/\W.cell? (aq b (j * 9+1))=some (iv o.t)/\W.cell? (aq b (j * 9+2))=some (iv o.c)/\W.cell? (aq b (j * 9+3))=some (iv o.u)/\W.cell? (aq b (j * 9+4))=some (iv o.o)/\W.cell? (aq b (j * 9+5))=some (iv o.rk)/\W.cell? (aq b (j * 9+6))=some (iv o.ro)/\W.cell? (aq b (j * 9+7))=some (iv o.rc)/\W.cell? (aq b (j * 9+8))=some (iv o.ru):=by
 have hl:=(List.getElem?_eq_some_iff.1 hj).1
 have hd:V.al.getD j pans0=o:=by simp [List.getD,hj]
 have ho:=h.arow
 rcases ho.2 with ⟨_,h0⟩|⟨b,cap,cur,hv,_,hh,_⟩
 ·omega
 ·have hv':=hv
  simp only [Value.slice.injEq] at hv'
  obtain ⟨e1,_,e2⟩:=hv'
  rw [hv] at ho
  have c:∀ k,k<9->∀ u,o.vals[k]?=some u->W.cell? (aq b (j * 9+k))=some u:=fun k hk u hu=>by
   have:=ho.cells (g:=b) rfl _ _ ((jlg hl k hk).trans (by rw [hd];exact hu))
   rwa [Addr.add_lit,Nat.zero_add] at this
  exact ⟨b,cur,e1,hl,hh,c 0 (by omega) _ rfl,c 1 (by omega) _ rfl,c 2 (by omega) _ rfl,c 3 (by omega) _ rfl,c 4 (by omega) _ rfl,c 5 (by omega) _ rfl,c 6 (by omega) _ rfl,c 7 (by omega) _ rfl,c 8 (by omega) _ rfl⟩
theorem PMem.astore {b j:Nat} {Cb:Array Value} (h:PMem W x own V g) (hb:g.ao=some (aq b 0)) (hl:j<V.al.length) (hC:W.heap[b]?=some (.cells Cb 188 (0,0))) (o:PAns):jb4 W (jiy W b (j * 9) o.vals) x own { V with al:=V.al.set j o }:=by
 obtain ⟨C',a1,ac⟩:=jjx o.vals (j * 9) W Cb hC
 have a2:=ji4 (b:=b) o.vals (j * 9) W
 generalize jiy W b (j * 9) o.vals=w' at a1 a2 ⊢
 have hbo:Value.ownBlock (.slice g.ao V.al.length g.ac)=some b:=by rw [hb];rfl
 have hs':Same (g.xs V x) W w':=jci a2 (fun k e=>.inr (.inr (by rw [hbo,show k=b from e])))
 have hbx:x≠b:=fun e=>jb9 h.arow h.blk (by decide) (by rw [hbo,e])
 have hlen:(V.al.set j o).length=V.al.length:=by simp
 refine h.turn hs' (V':={ V with al:=V.al.set j o }) (g':=g) ?_ rfl ⟨rfl,rfl,rfl⟩ ⟨rfl,rfl,rfl,rfl⟩ ⟨rfl,rfl,rfl,rfl⟩ ⟨h.stay hs' h.ot.1,h.ot.2,fun _ e=>.inl e⟩ ⟨h.stay hs' h.qt.1,h.qt.2,fun _ e=>.inl e⟩ ⟨h.stay hs' h.qz.1,h.qz.2,fun _ e=>.inl e⟩ ⟨h.stay hs' h.lu.1,h.lu.2,fun _ e=>.inl e⟩ ⟨h.stay hs' h.att.1,h.att.2,fun _ e=>.inl e⟩ ?_ ?_
 ·have:jbe { V with al:=V.al.set j o } g=jbe V g:=by unfold jbe;simp only [hlen]
  rw [this]
  exact (a2.block x h.xw hbx).trans h.blk
 ·refine ⟨jad h.orow (fun k e=>a2.block k (World.ownsRow.lt h.orow k e).2 (fun c=>?_)),fun k e=>.inl e⟩
  exact jb9 h.orow hC (by decide) (by rw [e,show k=b from c])
 ·show w'.ownsRow 0 188 9 (.slice g.ao (V.al.set j o).length g.ac) (V.al.set j o).length (jdd (V.al.set j o))/\∀ k,Value.ownBlock (.slice g.ao (V.al.set j o).length g.ac)=some k->_
  rw [hlen]
  refine ⟨⟨by rw [jns,hlen],.inr ?_⟩,fun k e=>.inl e⟩
  rcases h.arow.2 with ⟨_,h0⟩|⟨b',cap,cur,hv,q1,q2,q3,q4,q5,q6⟩
  ·omega
  ·simp only [Value.slice.injEq] at hv
   obtain ⟨e1,_,e2⟩:=hv
   have eb:b'=b:=by rw [hb] at e1;simp at e1;exact e1.symm
   subst eb
   rw [hC] at q2
   simp only [Option.some.injEq,Obj.cells.injEq,and_true] at q2
   subst q2
   refine ⟨b',cap,C',by rw [hb,e2],q1,a1,q3,q4,?_,?_⟩
   ·have:=congrArg List.length ac
    rw [ji7,Array.length_toList,Array.length_toList] at this
    rw [this];exact q5
   ·rw [ac,jfn,q6,jv0 _ _ _ hl]
theorem PMem.acut {m:Nat} (h:PMem W x own V g) (hn:V.al.length=m+1):jb4 W (W.setCell (aq x 26) (.slice g.ao m g.ac)) x own { V with al:=V.al.take m }:=by
 have hlen:(V.al.take m).length=m:=by simp;omega
 have hs0:Same (fun k=>k=x) W (W.setCell (aq x 26) (.slice g.ao m g.ac)):=jce (Same.of_below (Below.refl _ _)) x _ _ rfl
 have hs':Same (g.xs V x) W (W.setCell (aq x 26) (.slice g.ao m g.ac)):=jci hs0 (fun k e=>.inl e)
 refine h.turn hs' (V':={ V with al:=V.al.take m }) (g':=g) ?_ rfl ⟨rfl,rfl,rfl⟩ ⟨rfl,rfl,rfl,rfl⟩ ⟨rfl,rfl,rfl,rfl⟩ ⟨h.stay hs' h.ot.1,h.ot.2,fun _ e=>.inl e⟩ ⟨h.stay hs' h.qt.1,h.qt.2,fun _ e=>.inl e⟩ ⟨h.stay hs' h.qz.1,h.qz.2,fun _ e=>.inl e⟩ ⟨h.stay hs' h.lu.1,h.lu.2,fun _ e=>.inl e⟩ ⟨h.stay hs' h.att.1,h.att.2,fun _ e=>.inl e⟩ ?_ ?_
 ·rw [Joins.block_setCell h.blk]
  unfold jbe
  simp only [hlen]
  rfl
 ·refine ⟨jad h.orow (fun k e=>Below.heap_setCell _ (aq x 26) _ _ (fun c=>jb9 h.orow h.blk (by decide) (by rw [e,show k=x from c]))),fun k e=>.inl e⟩
 ·show (W.setCell (aq x 26) (.slice g.ao m g.ac)).ownsRow 0 188 9 (.slice g.ao (V.al.take m).length g.ac) (V.al.take m).length (jdd (V.al.take m))/\∀ k,Value.ownBlock (.slice g.ao (V.al.take m).length g.ac)=some k->_
  rw [hlen]
  refine ⟨⟨by rw [jns,hlen],.inr ?_⟩,fun k e=>.inl ((jnw _ _ _ _).trans e)⟩
  rcases h.arow.2 with ⟨_,h0⟩|⟨b,cap,cur,hv,q1,q2,q3,q4,q5,q6⟩
  ·omega
  ·simp only [Value.slice.injEq] at hv
   obtain ⟨e1,_,e2⟩:=hv
   have hbx:b≠x:=fun e=>jb9 h.arow h.blk (by decide) (by rw [e1,← e];rfl)
   refine ⟨b,cap,cur,by rw [e1,e2],q1,(Below.heap_setCell _ (aq x 26) _ _ hbx).trans q2,by omega,q4,q5,?_⟩
   rw [show m * 9=min (m * 9) (V.al.length * 9) by rw [hn];omega,← List.take_take,q6]
   exact jgt (f:=PAns.vals) (s:=9) (fun _=>rfl) V.al m
theorem qa4 (h:pvb x 26 V W own) (hz:V.al.length<=4294967296) :
 Calls Tryz.prog 163 #[pt x 23] W fun e w'=>e=.returned (.tuple #[])/\jap (fun W o=>∃ rm,psm W x o { V with arm:=rm }) W w' own:=by
 obtain ⟨⟨g,h⟩,a,na,ca,ha⟩:=h
 rw [h.cell 26 (.slice g.ao V.al.length g.ac) rfl] at ha
 simp only [Option.some.injEq,Value.slice.injEq] at ha
 rcases h.arow.2 with ⟨hv,_⟩|⟨b,cap,cur,hv,_⟩
 ·simp only [Value.slice.injEq] at hv
  rw [hv.1] at ha
  cases ha.1
 ·simp only [Value.slice.injEq] at hv
  have hb:=hv.1
  have h1:∀ u∈jdd V.al,u.oneCell'=true:=by
   intro u hu
   obtain ⟨o,_,hu⟩:=List.mem_flatMap.1 hu
   simp only [PAns.vals,List.mem_cons,List.not_mem_nil,or_false] at hu
   rcases hu with rfl|rfl|rfl|rfl|rfl|rfl|rfl|rfl|rfl<;>rfl
  refine (jxz x 23 b V.al.length g.ac (jbe V g) 117 V.arm (jdd V.al) W h.blk (by rw [← hb];rfl) rfl (by rw [← hb];exact h.arow) h1 (by omega)).mono ?_
  rintro e w' ⟨rfl,b',c',rm,a1,a2,a3,a4⟩
  have hs':Same (g.xs V x) W w':=jci a3 (fun k e=>.inl e)
  have:jb4 W w' x own { V with arm:=rm }:=by
   refine h.turn hs' (V':={ V with arm:=rm }) (g':={ g with ao:=some (aq b' 0),ac:=c' }) a1 rfl ⟨rfl,rfl,rfl⟩ ⟨rfl,rfl,rfl,rfl⟩ ⟨rfl,rfl,rfl,rfl⟩ ⟨h.stay hs' h.ot.1,h.ot.2,fun _ e=>.inl e⟩ ⟨h.stay hs' h.qt.1,h.qt.2,fun _ e=>.inl e⟩ ⟨h.stay hs' h.qz.1,h.qz.2,fun _ e=>.inl e⟩ ⟨h.stay hs' h.lu.1,h.lu.2,fun _ e=>.inl e⟩ ⟨h.stay hs' h.att.1,h.att.2,fun _ e=>.inl e⟩ ?_ ?_
   ·refine ⟨jad h.orow (fun k e=>a3.block k (World.ownsRow.lt h.orow k e).2 (fun c=>jb9 h.orow h.blk (by decide) (by rw [e,show k=x from c]))),fun k e=>.inl e⟩
   ·refine ⟨a2,fun k e=>?_⟩
    have e4:b'=k:=by simpa [Value.ownBlock] using e
    rw [← e4]
    exact a4.imp (fun e=>by rw [hb,e];rfl) id
  obtain ⟨o2,b1,b2,b3⟩:=this
  exact ⟨rfl,o2,⟨rm,b1⟩,b2,b3⟩
theorem qb0 {k1 u v:Int} (h:psm W x own V) (hs:srt V.att) (hn:jb5 (k1,0) V.att=some u) :
 Calls Tryz.prog 112 #[pt x 24,.agg #[iv k1,iv 0],iv v] W fun e w'=>e=.returned (.tuple #[])/\jb4 W w' x own { V with att:=jbl (k1,0) v V.att }:=by
 obtain ⟨g,h⟩:=h
 refine (jsz x 24 (jbe V g) 117 (by decide) g.att V.att.length k1 0 v u W h.blk rfl rfl h.att.1 (by rw [h.att.2];exact hs) (by rw [h.att.2];exact hn)).mono ?_
 rintro e w' ⟨rfl,t',a1,a2,a3,a4,a5⟩
 rw [h.att.2] at a3
 have e1:(V.att.length:Int)=((jbl (k1,0) v V.att).length:Int):=by rw [jfe hs hn]
 rw [e1] at a1
 exact ⟨rfl,h.turnX a4 (V':={ V with att:=jbl (k1,0) v V.att }) (g':={ g with att:=t' }) a1 rfl ⟨rfl,rfl,rfl⟩ ⟨rfl,rfl,rfl,rfl⟩ ⟨rfl,rfl,rfl,rfl⟩ ⟨h.stayX a4 h.ot.1,h.ot.2,fun _ e=>.inl e⟩ ⟨h.stayX a4 h.qt.1,h.qt.2,fun _ e=>.inl e⟩ ⟨h.stayX a4 h.qz.1,h.qz.2,fun _ e=>.inl e⟩ ⟨h.stayX a4 h.lu.1,h.lu.2,fun _ e=>.inl e⟩ ⟨a2,a3,a5⟩ ⟨rfl,rfl,rfl⟩ ⟨rfl,rfl,rfl⟩⟩
theorem jwg {k1 u:Int} (h:psm W x own V) (hs:srt V.att) (hn:jb5 (k1,0) V.att=some u) (hz:V.att.length<=4294967296) :
 Calls Tryz.prog 143 #[pt x 24,.agg #[iv k1,iv 0]] W fun e w'=>e=.returned (.tuple #[])/\jb4 W w' x own { V with att:=jd0 (k1,0) V.att }:=by
 obtain ⟨g,h⟩:=h
 have l1:=jjn hs hn
 refine (jee x 24 (jbe V g) 117 (by decide) g.att V.att.length k1 0 u W h.blk rfl rfl h.att.1 (by rw [h.att.2];exact hs) (by rw [h.att.2];exact hn) ⟨by omega,by omega⟩).mono ?_
 rintro e w' ⟨rfl,t',a1,a2,a3,a4,a5⟩
 rw [h.att.2] at a3
 have e1:(V.att.length:Int) - 1=((jd0 (k1,0) V.att).length:Int):=by omega
 rw [e1] at a1
 exact ⟨rfl,h.turnX a4 (V':={ V with att:=jd0 (k1,0) V.att }) (g':={ g with att:=t' }) a1 rfl ⟨rfl,rfl,rfl⟩ ⟨rfl,rfl,rfl,rfl⟩ ⟨rfl,rfl,rfl,rfl⟩ ⟨h.stayX a4 h.ot.1,h.ot.2,fun _ e=>.inl e⟩ ⟨h.stayX a4 h.qt.1,h.qt.2,fun _ e=>.inl e⟩ ⟨h.stayX a4 h.qz.1,h.qz.2,fun _ e=>.inl e⟩ ⟨h.stayX a4 h.lu.1,h.lu.2,fun _ e=>.inl e⟩ ⟨a2,a3,a5⟩ ⟨rfl,rfl,rfl⟩ ⟨rfl,rfl,rfl⟩⟩
theorem qa6 {j:Nat} {a z:PAns} (h:psm W x own V) (hL:Listed PAns.t V.att V.al) (hz:V.al.length<=4294967296) (hzt:V.att.length=V.al.length) (hj:V.al[j]?=some a) (hzz:V.al[V.al.length - 1]?=some z) :
 Calls Tryz.prog 138 #[pt x 23,iv a.t] W fun e w'=>e=.returned (.tuple #[])/\∃ rm,jb4 W w' x own { V with att:=jd0 (a.t,0) (jbl (z.t,0) j V.att),al:=jel V.al j z,arm:=rm }:=by
 have hjl:=(List.getElem?_eq_some_iff.1 hj).1
 have hw:∀ k,own k->k<W.heap.size:=jfm h
 obtain ⟨m,hm⟩:∃ m,V.al.length=m+1:=⟨V.al.length - 1,by omega⟩
 rw [hm,Nat.add_sub_cancel] at hzz
 have gj:=jeb hL hj
 have gz:=jeb hL hzz
 have s1:srt (jbl (z.t,0) j V.att):=jg7 _ _ hL.srt
 obtain ⟨u,gu⟩:∃ u,jb5 (a.t,0) (jbl (z.t,0) j V.att)=some u:=by
  by_cases e:((a.t,0):Int × Int)=(z.t,0)
  ·exact ⟨_,(jgw s1).2 (jg3.2 (.inl (by rw [e])))⟩
  ·exact ⟨_,(jgw s1).2 (jg3.2 (.inr ⟨jgb gj,e⟩))⟩
 have l1:(jbl (z.t,0) j V.att).length=V.att.length:=jfe hL.srt gz
 refine (jrd x V.al.length m j a.t z.k z.t z.c z.u z.o z.rk z.ro z.rc z.ru W own hw hm (by omega) (by omega)
  (pv x V) (pv x { V with al:=V.al.set j z }) (pv x { V with al:=V.al.set j z,att:=jbl (z.t,0) j V.att }) (pv x { V with al:=V.al.set j z,att:=jd0 (a.t,0) (jbl (z.t,0) j V.att) }) (pvb x 26 { V with al:=(V.al.set j z).take m,att:=jd0 (a.t,0) (jbl (z.t,0) j V.att) }) (fun W o=>∃ rm,psm W x o { V with al:=(V.al.set j z).take m,att:=jd0 (a.t,0) (jbl (z.t,0) j V.att),arm:=rm })
  (jmn _ _) (jmn _ _) (jmn _ _) (qgi _ _ _) h (fun loc W' hT=>jfy (jmn _ _) hw (fun W o hp=>?_) W' hT) (fun loc W' hT=>?_) (fun loc W' hT=>ja6 (P:=pv x { V with al:=V.al.set j z }) hw (fun W o hp=>qb0 (V:={ V with al:=V.al.set j z }) hp hL.srt gz) W' hT) (fun loc W' hT=>ja6 (P:=pv x { V with al:=V.al.set j z,att:=jbl (z.t,0) j V.att }) hw (fun W o hp=>jwg (V:={ V with al:=V.al.set j z,att:=jbl (z.t,0) j V.att }) hp s1 gu (by show (jbl (z.t,0) j V.att).length<=_;omega)) W' hT) (fun loc W' hT=>?_) (fun loc W' hT=>?_) (fun loc W' hT=>?_) (fun loc W' hT=>ja6 (P:=pvb x 26 { V with al:=(V.al.set j z).take m,att:=jd0 (a.t,0) (jbl (z.t,0) j V.att) }) hw (fun W o hp=>qa4 (V:={ V with al:=(V.al.set j z).take m,att:=jd0 (a.t,0) (jbl (z.t,0) j V.att) }) hp (by show ((V.al.set j z).take m).length<=_;simp;omega)) W' hT)).mono ?_
 ·obtain ⟨g,hp⟩:=hp
  have:=jd3 x 24 g.att a.t 0 W (hp.cell 24 _ rfl) hp.att.1 (by rw [hp.att.2];exact hL.srt)
  rw [hp.att.2,gj] at this
  exact this
 ·obtain ⟨o1,⟨g,hp⟩,b2,b3,b4⟩:=id hT
  obtain ⟨b,Cb,hb,_,hC,c0,c1,c2,c3,c4,c5,c6,c7,c8⟩:=hp.acellsT hzz
  obtain ⟨b',Cb',hb',_,hC',d0,d1,d2,d3,d4,d5,d6,d7,d8⟩:=hp.acellsT hj
  have eb:b'=b:=by rw [hb] at hb';simp at hb';exact hb'.symm
  subst eb
  have hp0:=hp
  obtain ⟨t1,t2⟩:=jj0 (P':=pv x { V with al:=V.al.set j z }) (W':=jiy W' b' (j * 9) z.vals) hw hT (fun o hp=>by
   obtain ⟨g',hp⟩:=hp
   obtain ⟨b2,Cb2,hb2,_,hC2,e0,e1,e2,e3,e4,e5,e6,e7,e8⟩:=hp.acellsT hzz
   have q1:=(hp.cell 26 (.slice g'.ao V.al.length g'.ac) rfl).symm.trans (hp0.cell 26 (.slice g.ao V.al.length g.ac) rfl)
   simp only [Option.some.injEq,Value.slice.injEq] at q1
   have eb:b2=b':=by rw [hb2,hb] at q1;simpa using q1.1
   subst eb
   exact hp.astore hb2 hjl hC2 z)
  exact ⟨b',g.ac,_,_,_,_,_,_,_,_,_,hp.xw,(blt hC),by rw [← hb];exact hp.cell 26 _ rfl,c0,c1,c2,c3,c4,c5,c6,c7,c8,d0,d1,d2,d3,d4,d5,d6,d7,d8,ja0 hC _,ja0 hC _,ja0 hC _,ja0 hC _,ja0 hC _,ja0 hC _,ja0 hC _,ja0 hC _,ja0 hC _,t1,t2⟩
 ·obtain ⟨o1,⟨g,hp⟩,b2,b3,b4⟩:=id hT
  have hlen:(V.al.set j z).length=m+1:=by simp;exact hm
  rcases hp.arow.2 with ⟨_,h0⟩|⟨b,cap,cur,hv,q1,q2,q3,q4⟩
  ·have h0:(V.al.set j z).length=0:=h0
   omega
  ·simp only [Value.slice.injEq] at hv
   have hc:W'.cell? (aq x 26)=some (.slice (some (aq b 0)) V.al.length g.ac):=by
    rw [hp.cell 26 (.slice g.ao (V.al.set j z).length g.ac) rfl,hv.1,List.length_set]
   have q3':V.al.length<=g.ac:=by
    have:(V.al.set j z).length<=cap:=q3
    rw [List.length_set] at this
    rw [hv.2.2];exact this
   refine ⟨b,g.ac,hp.xw,q3',hc,ja0 hp.blk _,(jj0 (P:=pv x { V with al:=V.al.set j z,att:=jd0 (a.t,0) (jbl (z.t,0) j V.att) }) hw hT (fun o hp2=>?_)).1⟩
   obtain ⟨g2,hp2⟩:=hp2
   have e3:=(hp2.cell 26 (.slice g2.ao (V.al.set j z).length g2.ac) rfl).symm.trans (hp.cell 26 (.slice g.ao (V.al.set j z).length g.ac) rfl)
   simp only [Option.some.injEq,Value.slice.injEq] at e3
   have:=hp2.acut (m:=m) hlen
   rw [e3.1,e3.2.2,hv.1] at this
   obtain ⟨o2,r1,r2,r3⟩:=this
   exact ⟨o2,⟨r1,_,m,g.ac,by rw [Joins.cell_of_block (Joins.block_setCell hp.blk _)];rfl⟩,r2,r3⟩
 ·obtain ⟨o1,⟨g,hp⟩,_⟩:=hT
  exact hp.xw
 ·obtain ⟨o1,⟨g,hp⟩,_⟩:=hT
  exact hp.xw
 ·rintro e w' ⟨rfl,o2,⟨rm,r1⟩,r2,r3⟩
  refine ⟨rfl,rm,o2,?_,r2,r3⟩
  unfold jel
  rw [hm,Nat.add_sub_cancel]
  exact r1
end
end
section
def jty (P Q:World->(Nat->Prop)->Prop) (W:World) (o:Nat->Prop):Prop:=∃ o1 o2,P W o1/\Q W o2/\(∀ k,o1 k->¬ o2 k)/\∀ k,o k↔o1 k\/o2 k
section
variable {P Q P' Q':World->(Nat->Prop)->Prop}
theorem qbk (KP:Keeps P) (KQ:Keeps Q):Keeps (jty P Q):=by
 refine ⟨fun {W o} h k hk=>?_,fun {W W' o} h hz hk=>?_⟩
 ·obtain ⟨o1,o2,a1,a2,a3,a4⟩:=h
  rcases (a4 k).1 hk with e|e
  ·exact KP.lt a1 k e
  ·exact KQ.lt a2 k e
 ·obtain ⟨o1,o2,a1,a2,a3,a4⟩:=h
  exact ⟨o1,o2,KP.keep a1 hz (fun k e=>hk k ((a4 k).2 (.inl e))),KQ.keep a2 hz (fun k e=>hk k ((a4 k).2 (.inr e))),a3,a4⟩
theorem qci (KQ:Keeps Q) {W W':World} {o1 o2 o:Nat->Prop} (a2:Q W o2) (a3:∀ k,o1 k->¬ o2 k) (a4:∀ k,o k↔o1 k\/o2 k) (h:jap P' W W' o1):jap (jty P' Q) W W' o:=by
 obtain ⟨o1',b1,b2,b3⟩:=h
 refine ⟨fun k=>o1' k\/o2 k,⟨o1',o2,b1,KQ.keep a2 b2.size (fun k e=>b2.block k (KQ.lt a2 k e) (fun c=>a3 k c e)),fun k e c=>?_,fun _=>Iff.rfl⟩,⟨b2.os,b2.tape,b2.output,b2.size,fun k hk hn=>b2.block k hk (fun e=>hn ((a4 k).2 (.inl e)))⟩,fun k e=>?_⟩
 ·rcases b3 k e with d|d
  ·exact a3 k d c
  ·have:=KQ.lt a2 k c;omega
 ·rcases e with e|e
  ·exact (b3 k e).imp (fun d=>(a4 k).2 (.inl d)) id
  ·exact .inl ((a4 k).2 (.inr e))
theorem js2 {W:World} {o:Nat->Prop} (h:jty P Q W o):jty Q P W o:=by
 obtain ⟨o1,o2,a1,a2,a3,a4⟩:=h
 exact ⟨o2,o1,a2,a1,fun k e c=>a3 k c e,fun k=>(a4 k).trans Or.comm⟩
theorem jgq (KQ:Keeps Q) {f:FuncId} {args:Array Value} {v:Value} (h:∀ W o,P W o->Calls Tryz.prog f args W fun e w'=>e=.returned v/\jap P' W w' o) (W:World) (o:Nat->Prop) (hp:jty P Q W o) :
 Calls Tryz.prog f args W fun e w'=>e=.returned v/\jap (jty P' Q) W w' o:=by
 obtain ⟨o1,o2,a1,a2,a3,a4⟩:=hp
 refine (h W o1 a1).mono ?_
 rintro e w' ⟨rfl,hq⟩
 exact ⟨rfl,qci KQ a2 a3 a4 hq⟩
theorem jjs (KP:Keeps P) {f:FuncId} {args:Array Value} {v:Value} (h:∀ W o,Q W o->Calls Tryz.prog f args W fun e w'=>e=.returned v/\jap Q' W w' o) (W:World) (o:Nat->Prop) (hp:jty P Q W o) :
 Calls Tryz.prog f args W fun e w'=>e=.returned v/\jap (jty P Q') W w' o:=by
 refine (jgq KP h W o (js2 hp)).mono ?_
 rintro e w' ⟨rfl,hq⟩
 exact ⟨rfl,jb7 hq (fun _ _ h=>js2 h)⟩
end
end
theorem qce (k t c u o pk po pc pu:Int) (w:World) (hB:isB k (jcn k t) c (jcs k u) (jcg k o)=true) (hf:jxy k (jcg k o) pk po pc pu) :
 Calls Tryz.prog 35 #[.agg #[iv k,iv t,iv c,iv u,iv o],.agg #[iv pk,iv po,iv pc,iv pu]] w fun e w'=>e=.returned (.bool true)/\Below w.heap.size w w':=by
 have HIS:∀ W,Calls Tryz.prog 38 #[.agg #[iv k,iv (jcn k t),iv c,iv (jcs k u),iv (jcg k o)]] W fun e w'=>e=.returned (.bool true)/\Below W.heap.size W w':=fun W=>by
  have:=jy4 k (jcn k t) c (jcs k u) (jcg k o) W
  rw [hB] at this
  exact this
 rcases hf with ⟨rfl,hf⟩|⟨rfl,hf⟩|⟨rfl,hf⟩|⟨rfl,hf⟩
 ·exact qft t c u o _ _ _ pk po pc pu w (fun W=>jhg 1 t c u o W) HIS hf
 ·exact qfh t c u o _ _ _ pk po pc pu w (fun W=>jhg 2 t c u o W) HIS hf
 ·exact qfy t c u o _ _ _ pk po pc pu w (fun W=>jhg 3 t c u o W) HIS hf
 ·exact qgd t c u o _ _ _ pk po pc pu w (fun W=>jhg 4 t c u o W) HIS hf
theorem qf0 (k t c u o:Int) (w:World) (hB:isB k (jcn k t) c (jcs k u) (jcg k o)=false) :
 Calls Tryz.prog 35 #[.agg #[iv k,iv t,iv c,iv u,iv o],.agg #[iv 1,iv 0,iv 0,iv 0]] w fun e w'=>e=.returned (.bool true)/\Below w.heap.size w w' :=
 qbl k t c u o _ _ _ w (fun W=>jhg k t c u o W) (fun W=>by
  have:=jy4 k (jcn k t) c (jcs k u) (jcg k o) W
  rw [hB] at this
  exact this)
theorem qbi (x:Nat) (n k t c u o:Int) (w:World) (own:Nat->Prop) (P0:World->(Nat->Prop)->Prop) (K0:Keeps P0) (h:P0 w own)
 (HS:Hid (∀ W,Calls Tryz.prog 32 #[.agg #[iv k,iv t,iv c,iv u,iv o]] W fun e w'=>e=.returned (.bool false)/\Below W.heap.size W w')) :
 Calls Tryz.prog 15 #[pt x 0,.agg #[iv n,iv k,iv t,iv c,iv u,iv o]] w fun e w'=>e=.returned (.tuple #[.agg #[iv 0,iv 0,iv 0,iv 0],.bool true])/\jap P0 w w' own:=by
 have hw:=K0.lt h
 have HW:Hid (∀ k,own k->k<w.heap.size):=hw
 go_enter Tryz.func15,Tryz.ntmps15
 have hT0:Hid (jba P0 w own 2 ((w.alloc (.cells #[iv n,iv k,iv t,iv c,iv u,iv o] 48)).alloc (.cells #[iv 0,iv 0,iv 0,iv 0] 42))):=jd4 K0 h (((Below.refl _ _).alloc (Nat.le_refl _) _).alloc (by simp) _) (by simp)
 have ob0:Hid (((w.alloc (.cells #[iv n,iv k,iv t,iv c,iv u,iv o] 48)).alloc (.cells #[iv 0,iv 0,iv 0,iv 0] 42)).heap[w.heap.size]?=some (.cells #[iv n,iv k,iv t,iv c,iv u,iv o] 48 (0,0))):=(Below.heap_alloc _ _ _ (by simp)).trans (heap_alloc_new w _)
 have rb0:Hid (((w.alloc (.cells #[iv n,iv k,iv t,iv c,iv u,iv o] 48)).alloc (.cells #[iv 0,iv 0,iv 0,iv 0] 42)).heap[w.heap.size+1]?=some (.cells #[iv 0,iv 0,iv 0,iv 0] 42 (0,0))):=jbd w _ _
 clear h
 go_wp2_with fail
 generalize (w.alloc (.cells #[iv n,iv k,iv t,iv c,iv u,iv o] 48)).alloc (.cells #[iv 0,iv 0,iv 0,iv 0] 42)=W0 at hT0 ob0 rb0 ⊢
 have lo0:w.heap.size<W0.heap.size:=(blt ob0.out)
 have lr0:w.heap.size+1<W0.heap.size:=(blt rb0.out)
 refine (HS.out _).mono ?_
 rintro e W1 ⟨rfl,b1⟩
 have hT1:Hid _:=jaj K0 hT0.out b1
 have ob1:Hid _:=(b1.block _ lo0).trans ob0.out
 have rb1:Hid _:=(b1.block _ lr0).trans rb0.out
 have lo1:w.heap.size<W1.heap.size:=(blt ob1.out)
 have lr1:w.heap.size+1<W1.heap.size:=(blt rb1.out)
 obtain ⟨c10,c11,c12,c13,c14,c15⟩:=ja1 ob1.out
 clear ob0 rb0 lo0 lr0 hT0 b1 HS
 have HE:Hid (∀ v0 v1 v2 v3,jap P0 w ((((W1.setCell (aq (w.heap.size+1) 0) v0).setCell (aq (w.heap.size+1) 1) v1).setCell (aq (w.heap.size+1) 2) v2).setCell (aq (w.heap.size+1) 3) v3) own):=fun v0 v1 v2 v3=>jdu (jiz K0 hT1.out HW.out (by omega) (by omega) v0 v1 v2 v3)
 have f0:=ja0 rb1.out 0
 have f1:=ja0 rb1.out 1
 have f2:=ja0 rb1.out 2
 have f3:=ja0 rb1.out 3
 obtain ⟨z0,z1,z2,z3⟩:=jck rb1.out
 clear hT1 HW
 go_wp2
 refine bodyPost_ret (v:=.tuple #[.agg #[iv 0,iv 0,iv 0,iv 0],.bool true]) (by simp [results,Tryz.results15,go_sem,z0,z1,z2,z3]) rfl ⟨rfl,?_⟩
 exact HE.out _ _ _ _
theorem jzv (x:Nat) (n k t c u o pk po pc pu:Int) (w:World) (own:Nat->Prop) (P0 P1:World->(Nat->Prop)->Prop) (K0:Keeps P0) (K1:Keeps P1) (h:P0 w own) (hk:(k != 0)=true) (Fr:World->Option Addr->Nat->Nat->Prop)
 (HS:Hid (∀ W,Calls Tryz.prog 32 #[.agg #[iv k,iv t,iv c,iv u,iv o]] W fun e w'=>e=.returned (.bool true)/\Below W.heap.size W w'))
 (HF:Hid (∀ W,Calls Tryz.prog 34 #[.agg #[iv k,iv t,iv c,iv u,iv o]] W fun e w'=>∃ ba bl bc,e=.returned (.slice ba bl bc)/\Fr w' ba bl bc/\Below W.heap.size W w'))
 (HSend:Hid (∀ W o ba bl bc,P0 W o->Fr W ba bl bc->Calls Tryz.prog 33 #[pt x 0,.slice ba bl bc] W fun e w'=>e=.returned (.agg #[iv pk,iv po,iv pc,iv pu])/\jap P1 W w' o))
 (HFi:Hid (∀ W,Calls Tryz.prog 35 #[.agg #[iv k,iv t,iv c,iv u,iv o],.agg #[iv pk,iv po,iv pc,iv pu]] W fun e w'=>e=.returned (.bool true)/\Below W.heap.size W w')) :
 Calls Tryz.prog 15 #[pt x 0,.agg #[iv n,iv k,iv t,iv c,iv u,iv o]] w fun e w'=>e=.returned (.tuple #[.agg #[iv pk,iv po,iv pc,iv pu],.bool true])/\jap P1 w w' own:=by
 have hw:=K0.lt h
 have HW:Hid (∀ k,own k->k<w.heap.size):=hw
 go_enter Tryz.func15,Tryz.ntmps15
 have hT0:Hid (jba P0 w own 2 ((w.alloc (.cells #[iv n,iv k,iv t,iv c,iv u,iv o] 48)).alloc (.cells #[iv 0,iv 0,iv 0,iv 0] 42))):=jd4 K0 h (((Below.refl _ _).alloc (Nat.le_refl _) _).alloc (by simp) _) (by simp)
 have ob0:Hid (((w.alloc (.cells #[iv n,iv k,iv t,iv c,iv u,iv o] 48)).alloc (.cells #[iv 0,iv 0,iv 0,iv 0] 42)).heap[w.heap.size]?=some (.cells #[iv n,iv k,iv t,iv c,iv u,iv o] 48 (0,0))):=(Below.heap_alloc _ _ _ (by simp)).trans (heap_alloc_new w _)
 have rb0:Hid (((w.alloc (.cells #[iv n,iv k,iv t,iv c,iv u,iv o] 48)).alloc (.cells #[iv 0,iv 0,iv 0,iv 0] 42)).heap[w.heap.size+1]?=some (.cells #[iv 0,iv 0,iv 0,iv 0] 42 (0,0))):=jbd w _ _
 clear h
 go_wp2_with fail
 generalize (w.alloc (.cells #[iv n,iv k,iv t,iv c,iv u,iv o] 48)).alloc (.cells #[iv 0,iv 0,iv 0,iv 0] 42)=W0 at hT0 ob0 rb0 ⊢
 have lo0:w.heap.size<W0.heap.size:=(blt ob0.out)
 have lr0:w.heap.size+1<W0.heap.size:=(blt rb0.out)
 refine (HS.out _).mono ?_
 rintro e W1 ⟨rfl,b1⟩
 have hT1:Hid _:=jaj K0 hT0.out b1
 have ob1:Hid _:=(b1.block _ lo0).trans ob0.out
 have rb1:Hid _:=(b1.block _ lr0).trans rb0.out
 have lo1:w.heap.size<W1.heap.size:=(blt ob1.out)
 have lr1:w.heap.size+1<W1.heap.size:=(blt rb1.out)
 obtain ⟨c10,c11,c12,c13,c14,c15⟩:=ja1 ob1.out
 clear ob0 rb0 lo0 lr0 hT0 b1 HS
 go_wp2_with fail
 refine (HF.out _).mono ?_
 rintro e W2 ⟨ba,bl,bc,rfl,hFr,b2⟩
 have hT2:Hid _:=jaj K0 hT1.out b2
 have ob2:Hid _:=(b2.block _ lo1).trans ob1.out
 have rb2:Hid _:=(b2.block _ lr1).trans rb1.out
 have lo2:w.heap.size<W2.heap.size:=(blt ob2.out)
 have lr2:w.heap.size+1<W2.heap.size:=(blt rb2.out)
 obtain ⟨c20,c21,c22,c23,c24,c25⟩:=ja1 ob2.out
 clear c10 c11 c12 c13 c14 c15 ob1 rb1 lo1 lr1 hT1
 have hT2':Hid (jba (fun W o=>P0 W o/\Fr W ba bl bc) w own 2 W2):=by
  obtain ⟨o1,a1,a⟩:=hT2.out
  exact ⟨o1,⟨a1,hFr⟩,a⟩
 have HS2:Hid (∀ W,jba (fun W o=>P0 W o/\Fr W ba bl bc) w own 2 W->Calls Tryz.prog 33 #[pt x 0,.slice ba bl bc] W fun e w'=>e=.returned (.agg #[iv pk,iv po,iv pc,iv pu])/\jba P1 w own 2 w'/\∀ b,w.heap.size<=b->b<w.heap.size+2->w'.heap[b]?=W.heap[b]?):=fun W hT=>jcl HW.out (fun W o hp=>HSend.out W o ba bl bc hp.1 hp.2) W hT
 clear b2 hFr HF HSend
 go_wp2_with fail
 refine (HS2.out _ hT2'.out).mono ?_
 rintro e W3 ⟨rfl,hT3,hk3⟩
 replace hT3:Hid _:=hT3
 have ob3:Hid _:=(hk3 _ (Nat.le_refl _) (by omega)).trans ob2.out
 have rb3:Hid _:=(hk3 _ (by omega) (by omega)).trans rb2.out
 have lo3:w.heap.size<W3.heap.size:=(blt ob3.out)
 have lr3:w.heap.size+1<W3.heap.size:=(blt rb3.out)
 obtain ⟨c30,c31,c32,c33,c34,c35⟩:=ja1 ob3.out
 clear c20 c21 c22 c23 c24 c25 ob2 rb2 lo2 lr2 hT2
 clear hk3 hT2' HS2
 have hTa:Hid (jba P1 w own 2 (W3.alloc (.cells #[iv pk,iv po,iv pc,iv pu] 42))):=jaj K1 hT3.out ((Below.refl _ _).alloc (Nat.le_refl _) _)
 have oba:Hid ((W3.alloc (.cells #[iv pk,iv po,iv pc,iv pu] 42)).heap[w.heap.size]?=some (.cells #[iv n,iv k,iv t,iv c,iv u,iv o] 48 (0,0))):=(Below.heap_alloc _ _ _ lo3).trans ob3.out
 have rba:Hid ((W3.alloc (.cells #[iv pk,iv po,iv pc,iv pu] 42)).heap[w.heap.size+1]?=some (.cells #[iv 0,iv 0,iv 0,iv 0] 42 (0,0))):=(Below.heap_alloc _ _ _ lr3).trans rb3.out
 have pba:Hid ((W3.alloc (.cells #[iv pk,iv po,iv pc,iv pu] 42)).heap[W3.heap.size]?=some (.cells #[iv pk,iv po,iv pc,iv pu] 42 (0,0))):=heap_alloc_new W3 _
 go_wp2_with fail
 generalize W3.alloc (.cells #[iv pk,iv po,iv pc,iv pu] 42)=Wa at hTa oba rba pba ⊢
 have hpz1:w.heap.size≠W3.heap.size:=by omega
 have hpz2:w.heap.size+1≠W3.heap.size:=by omega
 generalize W3.heap.size=pz at pba hpz1 hpz2 ⊢
 clear c30 c31 c32 c33 c34 c35 ob3 rb3 lo3 lr3 hT3
 obtain ⟨a0,a1,a2,a3,a4,a5⟩:=ja1 oba.out
 obtain ⟨p0,p1,p2,p3⟩:=jck pba.out
 have loa:w.heap.size<Wa.heap.size:=(blt oba.out)
 have lra:w.heap.size+1<Wa.heap.size:=(blt rba.out)
 have lpa:pz<Wa.heap.size:=(blt pba.out)
 go_region_held3 (fun w'=>(w'.cell? (aq w.heap.size 1)=some (iv k)/\w'.cell? (aq w.heap.size 2)=some (iv t)/\w'.cell? (aq w.heap.size 3)=some (iv c)/\w'.cell? (aq w.heap.size 4)=some (iv u)/\w'.cell? (aq w.heap.size 5)=some (iv o))/\w'.cell? (aq pz 0)=some (iv pk)/\w'.cell? (aq pz 1)=some (iv po)/\w'.cell? (aq pz 2)=some (iv pc)/\w'.cell? (aq pz 3)=some (iv pu)) (simp [go_sem, *])
  (first
    | (go_at_call 35;refine (HFi.out _).mono ?_;rintro e W4 ⟨rfl,b4⟩
       have hb4:Below Wa.heap.size Wa W4:=by first|exact b4|exact Below.trans (show Below Wa.heap.size Wa _ from bL) (b4.mono (by simp))
       have hT4:Hid _:=jaj K1 hTa.out hb4
       have ob4:Hid _:=(hb4.block _ loa).trans oba.out
       have rb4:Hid _:=(hb4.block _ lra).trans rba.out
       have pb4:Hid _:=(hb4.block _ lpa).trans pba.out
       obtain ⟨d0,d1,d2,d3,d4,d5⟩:=ja1 ob4.out
       obtain ⟨r0,r1,r2,r3⟩:=jck pb4.out
       have lo4:w.heap.size<W4.heap.size:=(blt ob4.out)
       have lr4:w.heap.size+1<W4.heap.size:=(blt rb4.out)
       have lp4:pz<W4.heap.size:=(blt pb4.out)
       have f0:=ja0 rb4.out 0
       have f1:=ja0 rb4.out 1
       have f2:=ja0 rb4.out 2
       have f3:=ja0 rb4.out 3
       obtain ⟨z0,z1,z2,z3⟩:=jck rb4.out
       clear b4 hb4))
 clear a0 a1 a2 a3 a4 a5 p0 p1 p2 p3 hTa oba rba pba HFi
 have HE:Hid (∀ v0 v1 v2 v3,jap P1 w ((((W4.setCell (aq (w.heap.size+1) 0) v0).setCell (aq (w.heap.size+1) 1) v1).setCell (aq (w.heap.size+1) 2) v2).setCell (aq (w.heap.size+1) 3) v3) own):=fun v0 v1 v2 v3=>jdu (jiz K1 hT4.out HW.out (by omega) (by omega) v0 v1 v2 v3)
 clear hT4 HW
 go_wp2
 refine bodyPost_ret (v:=.tuple #[.agg #[iv pk,iv po,iv pc,iv pu],.bool true]) (by simp [results,Tryz.results15,go_sem,z0,z1,z2,z3]) rfl ⟨rfl,?_⟩
 first|exact HE.out _ _ _ _|exact ansP_drew (HE.out _ _ _ _)
theorem jxj (x:Nat) (n t c u o now now' tk er:Int) (w:World) (own:Nat->Prop) (P0 P1:World->(Nat->Prop)->Prop) (K0:Keeps P0) (K1:Keeps P1) (h:P0 w own) (hb:0<=now/\now<=4611686018427387904)
 (hto:(n<0/\er=3/\tk=0/\now'=now)\/(¬ n<0/\n<4611686018427387904 - now/\er=0/\tk=now+n/\now'=now+n)\/(¬ n<0/\¬ n<4611686018427387904 - now/\er=0/\tk=4611686018427387904/\now'=4611686018427387904))
 (HS:Hid (∀ W,Calls Tryz.prog 32 #[.agg #[iv 0,iv t,iv c,iv u,iv o]] W fun e w'=>e=.returned (.bool true)/\Below W.heap.size W w'))
 (HC:Hid (∀ W o,P0 W o->Calls Tryz.prog 19 #[pt x 0] W fun e w'=>e=.returned (iv now)/\jap P0 W w' o))
 (HT:Hid (∀ W o,P0 W o->Calls Tryz.prog 36 #[pt x 0,iv n] W fun e w'=>e=.returned (.tuple #[iv tk,iv er])/\jap P1 W w' o))
 (HC1:Hid (∀ W o,P1 W o->Calls Tryz.prog 19 #[pt x 0] W fun e w'=>e=.returned (iv now')/\jap P1 W w' o)) :
 Calls Tryz.prog 15 #[pt x 0,.agg #[iv n,iv 0,iv t,iv c,iv u,iv o]] w fun e w'=>e=.returned (.tuple #[.agg #[iv 0,iv 0,iv 0,iv 0],.bool true])/\jap P1 w w' own:=by
 have hw:=K0.lt h
 have HW:Hid (∀ k,own k->k<w.heap.size):=hw
 go_enter Tryz.func15,Tryz.ntmps15
 have hT0:Hid (jba P0 w own 2 ((w.alloc (.cells #[iv n,iv 0,iv t,iv c,iv u,iv o] 48)).alloc (.cells #[iv 0,iv 0,iv 0,iv 0] 42))):=jd4 K0 h (((Below.refl _ _).alloc (Nat.le_refl _) _).alloc (by simp) _) (by simp)
 have ob0:Hid (((w.alloc (.cells #[iv n,iv 0,iv t,iv c,iv u,iv o] 48)).alloc (.cells #[iv 0,iv 0,iv 0,iv 0] 42)).heap[w.heap.size]?=some (.cells #[iv n,iv 0,iv t,iv c,iv u,iv o] 48 (0,0))):=(Below.heap_alloc _ _ _ (by simp)).trans (heap_alloc_new w _)
 have rb0:Hid (((w.alloc (.cells #[iv n,iv 0,iv t,iv c,iv u,iv o] 48)).alloc (.cells #[iv 0,iv 0,iv 0,iv 0] 42)).heap[w.heap.size+1]?=some (.cells #[iv 0,iv 0,iv 0,iv 0] 42 (0,0))):=jbd w _ _
 clear h
 go_wp2_with fail
 generalize (w.alloc (.cells #[iv n,iv 0,iv t,iv c,iv u,iv o] 48)).alloc (.cells #[iv 0,iv 0,iv 0,iv 0] 42)=W0 at hT0 ob0 rb0 ⊢
 have lo0:w.heap.size<W0.heap.size:=(blt ob0.out)
 have lr0:w.heap.size+1<W0.heap.size:=(blt rb0.out)
 refine (HS.out _).mono ?_
 rintro e W1 ⟨rfl,b1⟩
 have hT1:Hid _:=jaj K0 hT0.out b1
 have ob1:Hid _:=(b1.block _ lo0).trans ob0.out
 have rb1:Hid _:=(b1.block _ lr0).trans rb0.out
 have lo1:w.heap.size<W1.heap.size:=(blt ob1.out)
 have lr1:w.heap.size+1<W1.heap.size:=(blt rb1.out)
 obtain ⟨c10,c11,c12,c13,c14,c15⟩:=ja1 ob1.out
 clear ob0 rb0 lo0 lr0 hT0 b1 HS
 have HCa:Hid _:=jcl (m:=2) HW.out HC.out
 have HTa:Hid _:=jcl (m:=2) HW.out HT.out
 have HCb:Hid _:=jcl (m:=2) HW.out HC1.out
 clear HC HT HC1
 go_wp2_with fail
 refine (HCa.out _ hT1.out).mono ?_
 rintro e W2 ⟨rfl,hT2,hk2⟩
 replace hT2:Hid _:=hT2
 have ob2:Hid _:=(hk2 _ (Nat.le_refl _) (by omega)).trans ob1.out
 have rb2:Hid _:=(hk2 _ (by omega) (by omega)).trans rb1.out
 have lo2:w.heap.size<W2.heap.size:=(blt ob2.out)
 have lr2:w.heap.size+1<W2.heap.size:=(blt rb2.out)
 obtain ⟨c20,c21,c22,c23,c24,c25⟩:=ja1 ob2.out
 clear c10 c11 c12 c13 c14 c15 ob1 rb1 lo1 lr1 hT1
 clear hk2
 go_wp2_with fail
 refine (HTa.out _ hT2.out).mono ?_
 rintro e W3 ⟨rfl,hT3,hk3⟩
 replace hT3:Hid _:=hT3
 have ob3:Hid _:=(hk3 _ (Nat.le_refl _) (by omega)).trans ob2.out
 have rb3:Hid _:=(hk3 _ (by omega) (by omega)).trans rb2.out
 have lo3:w.heap.size<W3.heap.size:=(blt ob3.out)
 have lr3:w.heap.size+1<W3.heap.size:=(blt rb3.out)
 obtain ⟨c30,c31,c32,c33,c34,c35⟩:=ja1 ob3.out
 clear c20 c21 c22 c23 c24 c25 ob2 rb2 lo2 lr2 hT2
 clear hk3
 go_wp2_with fail
 refine (HCb.out _ hT3.out).mono ?_
 rintro e W4 ⟨rfl,hT4,hk4⟩
 replace hT4:Hid _:=hT4
 have ob4:Hid _:=(hk4 _ (Nat.le_refl _) (by omega)).trans ob3.out
 have rb4:Hid _:=(hk4 _ (by omega) (by omega)).trans rb3.out
 have lo4:w.heap.size<W4.heap.size:=(blt ob4.out)
 have lr4:w.heap.size+1<W4.heap.size:=(blt rb4.out)
 obtain ⟨c40,c41,c42,c43,c44,c45⟩:=ja1 ob4.out
 clear c30 c31 c32 c33 c34 c35 ob3 rb3 lo3 lr3 hT3
 clear hk4 HCa HTa HCb
 have HE:Hid (∀ v0 v1 v2 v3,jap P1 w ((((W4.setCell (aq (w.heap.size+1) 0) v0).setCell (aq (w.heap.size+1) 1) v1).setCell (aq (w.heap.size+1) 2) v2).setCell (aq (w.heap.size+1) 3) v3) own):=fun v0 v1 v2 v3=>jdu (jiz K1 hT4.out HW.out (by omega) (by omega) v0 v1 v2 v3)
 have f0:=ja0 rb4.out 0
 have f1:=ja0 rb4.out 1
 have f2:=ja0 rb4.out 2
 have f3:=ja0 rb4.out 3
 obtain ⟨z0,z1,z2,z3⟩:=jck rb4.out
 clear hT4 HW
 obtain ⟨hb0,hb1⟩:=hb
 rcases hto with ⟨hn,rfl,rfl,rfl⟩|⟨hn,hlt,rfl,rfl,rfl⟩|⟨hn,hlt,rfl,rfl,rfl⟩
 ·go_wp2
  refine bodyPost_ret (v:=.tuple #[.agg #[iv 0,iv 0,iv 0,iv 0],.bool true]) (by simp [results,Tryz.results15,go_sem,z0,z1,z2,z3]) rfl ⟨rfl,?_⟩
  exact HE.out _ _ _ _
 ·have hw1:IntKind.i64.wrap (4611686018427387904 - now)=4611686018427387904 - now:=jab (by omega) (by omega)
  have hw2:IntKind.i64.wrap (now+n)=now+n:=jab (by omega) (by omega)
  go_wp2
  refine bodyPost_ret (v:=.tuple #[.agg #[iv 0,iv 0,iv 0,iv 0],.bool true]) (by simp [results,Tryz.results15,go_sem,z0,z1,z2,z3]) rfl ⟨rfl,?_⟩
  exact HE.out _ _ _ _
 ·have hw1:IntKind.i64.wrap (4611686018427387904 - now)=4611686018427387904 - now:=jab (by omega) (by omega)
  go_wp2
  refine bodyPost_ret (v:=.tuple #[.agg #[iv 0,iv 0,iv 0,iv 0],.bool true]) (by simp [results,Tryz.results15,go_sem,z0,z1,z2,z3]) rfl ⟨rfl,?_⟩
  exact HE.out _ _ _ _
theorem jqu (x aw:Nat) (now er:Int) (D:List (Int × Int)) (w:World) (own:Nat->Prop) (P0:World->(Nat->Prop)->Prop) (Q:Nat->World->(Nat->Prop)->Prop) (K0:Keeps P0) (KQ:∀ j,Keeps (Q j)) (h:P0 w own) (hn:D.length<=4294967296)
 (HX:Hid (∀ loc W,ja7 P0 w own loc W->x<W.heap.size/\W.cell? (aq x 23)=some (pt aw 0)))
 (HA:Hid (∀ loc W,ja7 P0 w own loc W->Calls Tryz.prog 119 #[pt aw 0,iv now] W fun e w'=>∃ da dc,e=.returned (.tuple #[.slice da D.length dc,iv er])/\ja7 (jds (Q 0) da D) w own loc w'))
 (HR:Hid (∀ da j,j<D.length->jc2 w own (jds (Q j) da D) (jds (Q (j+1)) da D) 138 #[pt x 23,iv (D.getD j (0,0)).2] (.tuple #[]))) :
 Calls Tryz.prog 105 #[pt x 23,iv now] w fun e w'=>e=.returned (.tuple #[])/\jap (Q D.length) w w' own:=by
 have hT0:Hid (ja7 P0 w own (fun _=>False) w):=jah K0 h (Below.refl _ _) (fun _ e=>e.elim)
 obtain ⟨hx,c23⟩:=HX.out _ _ hT0.out
 clear h HX
 go_enter Tryz.func105,Tryz.ntmps105
 go_wp2_with (go_at_call 119;refine (HA.out _ _ (ja2 K0 hT0.out bL)).mono ?_;rintro e W1 ⟨da,dc,rfl,hT1⟩
              replace hT1:Hid (ja7 (jds (Q 0) da D) w own (fun _=>False) W1):=hT1
              clear c23 hx)
 clear hT0 HA
 go_loopw [6] (fun i wr=>∃ j:Nat,j<=D.length/\i=iv j/\Hid (ja7 (jds (Q j) da D) w own (fun _=>False) wr)) (fun i _=>D.length - (intOf i).toNat)
 case atStart=>exact ⟨0,Nat.zero_le _,rfl,hT1⟩
 case round =>
  obtain ⟨j,hj,rfl,HK⟩:=hrel
  clear hT1
  by_cases hlt:j<D.length
  ·obtain ⟨g,rfl,hb,c0,c1⟩:=qgs HK.out j hlt
   have HRj:Hid _:=HR.out (some (aq g 0)) j hlt
   have KJ:=jow (KQ j) (some (aq g 0)) D
   have KJ1:=jow (KQ (j+1)) (some (aq g 0)) D
   have HNX:Hid (∀ wr',ja7 (jds (Q (j+1)) (some (aq g 0)) D) w own (fun _=>False) wr'->∃ j':Nat,j'<=D.length/\Value.int .i64 ((j:Int)+1)=iv j'/\Hid (ja7 (jds (Q j') (some (aq g 0)) D) w own (fun _=>False) wr')):=fun wr' h=>⟨j+1,by omega,by simp,h⟩
   have b0:(0:Int)<=(j:Int):=by omega
   have b1:(j:Int)<(D.length:Int):=by omega
   have hwj:IntKind.i64.wrap ((j:Int)+1)=(j:Int)+1:=jab (by omega) (by omega)
   generalize D.getD j (0,0)=dj at c0 c1 HRj
   obtain ⟨dt,di⟩:=dj
   simp only at c0 c1 HRj
   clear HR
   go_wp2_with (go_at_call 138;refine (HRj.out _ _ (ja2 KJ HK.out bL)).mono ?_;rintro e W4 ⟨rfl,hT4,hk⟩
                replace hT4:Hid _:=hT4
                clear hk c0 c1 hb)
   go_roundw
   case rel=>first|exact HNX.out _ (ja2 KJ1 hT4.out bL)|(rw [hwj];exact HNX.out _ (ja2 KJ1 hT4.out bL))
   case measure=>simp [intOf];omega
  ·have hje:j=D.length:=by omega
   subst hje
   go_wp2_with fail
   first|go_end0|refine bodyPost_ret (results_none rfl _ _ _) rfl ?_
   exact ⟨rfl,jou (ja2 (jow (KQ _) da D) HK.out bL)⟩
theorem jyf (x tw:Nat) (now er:Int) (D:List (Int × Int)) (w:World) (own:Nat->Prop) (P0 P1 P2 P3 P4 P5 P6:World->(Nat->Prop)->Prop) (K0:Keeps P0) (K1:Keeps P1) (K2:Keeps P2) (K3:Keeps P3) (K4:Keeps P4) (K5:Keeps P5) (K6:Keeps P6) (h:P0 w own)
 (HX:Hid (∀ loc W,ja7 P0 w own loc W->x<W.heap.size/\W.cell? (aq x 10)=some (pt tw 0)/\W.cell? (aq x 8)=some (iv now)))
 (HX1:Hid (∀ da loc W,ja7 (jds P1 da D) w own loc W->x<W.heap.size/\W.cell? (aq x 10)=some (pt tw 0)/\W.cell? (aq x 8)=some (iv now)))
 (HA:Hid (∀ loc W,ja7 P0 w own loc W->Calls Tryz.prog 119 #[pt tw 0,iv now] W fun e w'=>∃ da dc,e=.returned (.tuple #[.slice da D.length dc,iv er])/\ja7 (jds P1 da D) w own loc w'))
 (HF:Hid (∀ da dc,jc2 w own (jds P1 da D) (jds P2 da D) 135 #[pt x 0,.slice da D.length dc] (.tuple #[])))
 (HE:Hid (∀ da dc,jc2 w own (jds P2 da D) (jds P3 da D) 136 #[pt x 0,.slice da D.length dc,iv 13,iv 15] (.tuple #[])))
 (HP:Hid (∀ da,jc2 w own (jds P3 da D) (jds P4 da D) 137 #[pt x 0] (.tuple #[])))
 (HE2:Hid (∀ da dc,jc2 w own (jds P4 da D) (jds P5 da D) 136 #[pt x 0,.slice da D.length dc,iv 12,iv 17] (.tuple #[])))
 (HP2:Hid (∀ da,jc2 w own (jds P5 da D) (jds P6 da D) 137 #[pt x 0] (.tuple #[]))) :
 Calls Tryz.prog 104 #[pt x 0] w fun e w'=>e=.returned (.tuple #[])/\jap P6 w w' own:=by
 have hT0:Hid (ja7 P0 w own (fun _=>False) w):=jah K0 h (Below.refl _ _) (fun _ e=>e.elim)
 obtain ⟨hx,c10,c8⟩:=HX.out _ _ hT0.out
 clear h HX
 go_enter Tryz.func104,Tryz.ntmps104
 go_wp2_with fail
 go_region_held3 (fun w'=>w'.cell? (aq x 10)=some (pt tw 0)/\w'.cell? (aq x 8)=some (iv now)) (simp [go_sem, *])
  (first
    | (go_at_call 119;refine (HA.out _ _ (ja2 K0 hT0.out bL)).mono ?_;rintro e W1 ⟨da,dc,rfl,hT1⟩
       obtain ⟨hx1,d10,d8⟩:=HX1.out _ _ _ hT1
       replace hT1:Hid (ja7 (jds P1 da D) w own (fun _=>False) W1):=hT1))
 clear c10 c8 d10 d8 hT0 HA HX1
 go_wp2_with (first
  | (go_at_call 135;refine (HF.out _ _ _ _ (ja2 (jow K1 _ _) hT1.out bL)).mono ?_;rintro e W2 ⟨rfl,hT2,hk⟩
     replace hT2:Hid _:=hT2
     clear hk hT1)
  | (go_at_call 136;refine (HE.out _ _ _ _ (ja2 (jow K2 _ _) hT2.out bL)).mono ?_;rintro e W3 ⟨rfl,hT3,hk⟩
     replace hT3:Hid _:=hT3
     clear hk hT2)
  | (go_at_call 137;refine (HP.out _ _ _ (ja2 (jow K3 _ _) hT3.out bL)).mono ?_;rintro e W4 ⟨rfl,hT4,hk⟩
     replace hT4:Hid _:=hT4
     clear hk hT3)
  | (go_at_call 136;refine (HE2.out _ _ _ _ (ja2 (jow K4 _ _) hT4.out bL)).mono ?_;rintro e W5 ⟨rfl,hT5,hk⟩
     replace hT5:Hid _:=hT5
     clear hk hT4)
  | (go_at_call 137;refine (HP2.out _ _ _ (ja2 (jow K5 _ _) hT5.out bL)).mono ?_;rintro e W6 ⟨rfl,hT6,hk⟩
     replace hT6:Hid _:=hT6
     clear hk hT5))
 first|go_end0|refine bodyPost_ret (results_none rfl _ _ _) rfl ?_
 exact ⟨rfl,jou (ja2 (jow K6 _ _) hT6.out bL)⟩
def jni {σ:Type} (P PE:σ->World->(Nat->Prop)->Prop) (Inv:σ->Prop) (fs:σ->Int × Int) (fb:σ->Bool) (μ:σ->Nat) (s:σ) (w1:World) (own:Nat->Prop) (v:Value) (wr:World) (n:Nat):Prop :=
 ∃ s',Inv s'/\μ s'=n/\PE s'=PE s/\jba (P s') w1 own 1 wr/\v=.bool (fb s')/\wr.heap[w1.heap.size]?=some (.cells #[iv (fs s').1,iv (fs s').2] 131 (0,0))
theorem jk6 {P P':World->(Nat->Prop)->Prop} {w W W':World} {own:Nat->Prop} {m:Nat} (h:jba P w own m W) (hx:∀ o,P W o->jap P' W W' o):jba P' w own m W':=by
 obtain ⟨o1,a1,a2,a3,a4⟩:=h
 obtain ⟨o2,b1,b2,b3⟩:=hx o1 a1
 have z1:=a2.size
 have z2:=b2.size
 exact ⟨o2,b1,Same.trans a2 b2 (fun k hk e=>e.elim id (fun e=>(a3 k e).elim id (fun e=>by omega))),fun k e=>(b3 k e).elim (a3 k) (fun e=>.inr (by omega)),by omega⟩
theorem qam {σ:Type} (x:Nat) (to:Int) (P PE:σ->World->(Nat->Prop)->Prop) (PC:σ->Int->World->(Nat->Prop)->Prop) (KP:∀ s,Keeps (P s)) (KC:∀ s t,Keeps (PC s t)) (KE:∀ s,Keeps (PE s)) (Inv:σ->Prop) (fs:σ->Int × Int) (fb:σ->Bool) (nx:σ->σ) (μ:σ->Nat) (cd:σ->Prop) (hcd:Hid (∀ s,cd s↔(fs s).1<=to))
 (lo:σ->Int) (hLo:Hid (∀ s,Inv s->lo s<=to/\(fb s=true->lo s<=(fs s).1)))
 (hX:Hid (∀ s,Inv s->∀ W o,P s W o->o x/\∀ t,lo s<=t->jap (PC s t) W (W.setCell (aq x 8) (iv t)) o))
 (hY:Hid (∀ s,Inv s->∀ W o,P s W o->x<W.heap.size/\(∃ u,W.cell? (aq x 8)=some u)/\W.frozen? (aq x 8)=false))
 (hF:Hid (∀ s,Inv s->∀ W o,P s W o->∃ tw,W.cell? (aq x 10)=some (pt tw 0)/\∀ W',Below W.heap.size W W'->Calls Tryz.prog 79 #[pt tw 0] W' fun e w'=>e=.returned (.tuple #[.agg #[iv (fs s).1,iv (fs s).2],.bool (fb s)])/\Below W'.heap.size W' w'))
 (hS:Hid (∀ s,Inv s->fb s=true->cd s->∀ W o,PC s (fs s).1 W o->Calls Tryz.prog 104 #[pt x 0] W fun e w'=>e=.returned (.tuple #[])/\jap (P (nx s)) W w' o))
 (hN:Hid (∀ s,Inv s->fb s=true->cd s->Inv (nx s)/\μ (nx s)<μ s/\PE (nx s)=PE s))
 (hE:Hid (∀ s,Inv s->(fb s=true->¬ cd s)->∀ W o,PC s to W o->Calls Tryz.prog 105 #[pt x 23,iv to] W fun e w'=>e=.returned (.tuple #[])/\jap (PE s) W w' o)) (s:σ) (w:World) (own:Nat->Prop) (hi:Inv s) (h:P s w own) :
 Calls Tryz.prog 66 #[pt x 0,iv to] w fun e w'=>e=.returned (.tuple #[])/\jap (PE s) w w' own:=by
 have hw:=(KP s).lt h
 obtain ⟨tw,c10,HF0⟩:=hF.out s hi w own h
 obtain ⟨hxw,_,_⟩:=hY.out s hi w own h
 replace HF0:Hid _:=HF0
 go_enter Tryz.func66,Tryz.ntmps66
 go_wp2_with fail
 refine (HF0.out _ bL).mono ?_
 rintro e w1 ⟨rfl,b1⟩
 replace b1:Below w.heap.size w w1:=b1
 have h1:P s w1 own:=(KP s).keep h b1.size (fun k e=>b1.block k (hw k e))
 have hw1:Hid (∀ k,own k->k<w1.heap.size):=fun k e=>Nat.lt_of_lt_of_le (hw k e) b1.size
 have HFRONT:Hid (∀ w',jap (PE s) w1 w' own->jap (PE s) w w' own):=fun w' ha=>jk9 b1 ha
 have HI0:Hid (jni P PE Inv fs fb μ s w1 own (.bool (fb s)) (w1.alloc (.cells #[iv (fs s).1,iv (fs s).2] 131)) (μ s)):=⟨s,hi,rfl,rfl,jd4 (KP s) h1 ((Below.refl _ _).alloc (Nat.le_refl _) _) (by simp),rfl,heap_alloc_new w1 _⟩
 clear h h1 hi hw b1 c10 HF0 hxw
 generalize (fs s).1=p1 at HI0 ⊢
 generalize (fs s).2=p2 at HI0 ⊢
 generalize fb s=b0 at HI0 ⊢
 go_wp2_with fail
 go_loopw [5] (fun v wr=>∃ n,jni P PE Inv fs fb μ s w1 own v wr n) (fun v wr=>fuel (jni P PE Inv fs fb μ s w1 own v wr))
 case atStart=>exact ⟨_,HI0.out⟩
 case round =>
  have hfu:=jt4 hrel
  obtain ⟨s',i1,i2,i3,hT,rfl,ob⟩:=hfu
  replace hT:Hid _:=hT
  replace i1:Hid _:=i1
  replace ob:Hid _:=ob
  have HM:Hid (∀ v' w' m,jni P PE Inv fs fb μ s w1 own v' w' m->m<μ s'->(∃ n,jni P PE Inv fs fb μ s w1 own v' w' n)/\fuel (jni P PE Inv fs fb μ s w1 own v' w')<fuel (jni P PE Inv fs fb μ s w1 own (.bool (fb s')) wr)):=fun v' w' m h1 h2=>⟨⟨m,h1⟩,by rw [← i2];exact Nat.lt_of_le_of_lt (jsn h1) h2⟩
  clear hrel i2 HI0
  obtain ⟨hlo1,hlo2⟩:=hLo.out s' i1.out
  have HXs:Hid (∀ W o,P s' W o->o x/\∀ t,lo s'<=t->jap (PC s' t) W (W.setCell (aq x 8) (iv t)) o):=hX.out s' i1.out
  have hy:x<wr.heap.size/\(∃ u,wr.cell? (aq x 8)=some u)/\wr.frozen? (aq x 8)=false:=by
   obtain ⟨o1,a1,_⟩:=hT.out
   exact hY.out s' i1.out wr o1 a1
  have hne:x≠w1.heap.size:=by
   obtain ⟨o1,a1,a2,a3,a4⟩:=hT.out
   rcases a3 x (HXs.out wr o1 a1).1 with e|e
   ·have:=hw1.out x e;omega
   ·omega
  obtain ⟨hxr,⟨u8,c8⟩,fz8⟩:=hy
  obtain ⟨s0,s1⟩:=je0 ob.out
  have lw:w1.heap.size<wr.heap.size:=(blt ob.out)
  have HEs:Hid ((fb s'=true->¬ cd s')->∀ W,jba (PC s' to) w1 own 1 W->Calls Tryz.prog 105 #[pt x 23,iv to] W fun e w'=>e=.returned (.tuple #[])/\jba (PE s) w1 own 1 w'/\∀ b,w1.heap.size<=b->b<w1.heap.size+1->w'.heap[b]?=W.heap[b]?):=fun hc W hW=>by
   rw [← i3]
   exact jcl hw1.out (hE.out s' i1.out hc) W hW
  cases hb:fb s' with
  | false =>
    have HEs:Hid _:=HEs.out (fun c=>by rw [hb] at c;cases c)
    replace hlo1:Hid _:=hlo1
    clear HM hN hE hF hS hX hY ob s0 s1 hlo2 hLo
    go_wp2_with fail
    try go_quiet (fail)
    go_wp2_with fail
    have hC:=jk6 hT.out (fun o hp=>(HXs.out wr o hp).2 to hlo1.out)
    have hTc:Hid (jba (PC s' to) w1 own 1 (wr.setCell (aq x 8) (iv to))):=hC
    refine (HEs.out _ (jaj (KC s' to) hTc.out bL)).mono ?_
    rintro e W1 ⟨rfl,hT1,hk⟩
    go_wp2
    first|go_end0|refine bodyPost_ret (results_none rfl _ _ _) rfl ?_
    exact ⟨rfl,HFRONT.out _ (jdu (jaj (KE s) hT1 bL))⟩
  | true =>
    rw [hb] at HM
    by_cases hle:cd s'
    ·have HSs:Hid (∀ W,jba (PC s' (fs s').1) w1 own 1 W->Calls Tryz.prog 104 #[pt x 0] W fun e w'=>e=.returned (.tuple #[])/\jba (P (nx s')) w1 own 1 w'/\∀ b,w1.heap.size<=b->b<w1.heap.size+1->w'.heap[b]?=W.heap[b]?):=fun W hW=>jcl hw1.out (hS.out s' i1.out hb hle) W hW
     obtain ⟨n1,n2,n3⟩:=hN.out s' i1.out hb hle
     have HFs:Hid (∀ W,jba (P (nx s')) w1 own 1 W->∃ tw,(x<W.heap.size/\W.cell? (aq x 10)=some (pt tw 0))/\∀ W',Below W.heap.size W W'->Calls Tryz.prog 79 #[pt tw 0] W' fun e w'=>e=.returned (.tuple #[.agg #[iv (fs (nx s')).1,iv (fs (nx s')).2],.bool (fb (nx s'))])/\Below W'.heap.size W' w'):=fun W hW=>by
      obtain ⟨o1,a1,_⟩:=hW
      obtain ⟨tw,q1,q2⟩:=hF.out (nx s') n1 W o1 a1
      exact ⟨tw,⟨(hY.out (nx s') n1 W o1 a1).1,q1⟩,q2⟩
     have HR:Hid (∀ W',jba (P (nx s')) w1 own 1 W'->W'.heap[w1.heap.size]?=some (.cells #[iv (fs (nx s')).1,iv (fs (nx s')).2] 131 (0,0))->(∃ n,jni P PE Inv fs fb μ s w1 own (.bool (fb (nx s'))) W' n)/\fuel (jni P PE Inv fs fb μ s w1 own (.bool (fb (nx s'))) W')<fuel (jni P PE Inv fs fb μ s w1 own (.bool true) wr)):=fun W' h1 h2=>HM.out _ W' _ ⟨nx s',n1,rfl,n3.trans i3,h1,rfl,h2⟩ n2
     have hC:=jk6 hT.out (fun o hp=>(HXs.out wr o hp).2 (fs s').1 (hlo2 hb))
     have hTc:Hid (jba (PC s' (fs s').1) w1 own 1 (wr.setCell (aq x 8) (iv (fs s').1))):=hC
     have obc:Hid ((wr.setCell (aq x 8) (iv (fs s').1)).heap[w1.heap.size]?=some (.cells #[iv (fs s').1,iv (fs s').2] 131 (0,0))):=(Below.heap_setCell _ (aq x 8) _ _ (Ne.symm hne)).trans ob.out
     have hle2:=(hcd.out s').1 hle
     clear HM hN hE hF hS hX hY HEs hcd hle n1 n2 n3 i3 HXs hT hC ob hLo hlo1 hlo2
     have KPc:=KC s' (fs s').1
     have KPb:=KP (nx s')
     generalize (fs s').1=f1 at *
     generalize (fs s').2=f2 at *
     generalize (fs (nx s')).1=q1 at HFs HR
     generalize (fs (nx s')).2=q2 at HFs HR
     generalize fb (nx s')=b1 at HFs HR
     generalize PC s' f1=Pc at hTc HSs KPc
     generalize P (nx s')=Pb at HSs HFs HR KPb
     go_wp2_with fail
     try go_quiet (fail)
     go_wp2_with fail
     refine (HSs.out _ (jaj KPc hTc.out bL)).mono ?_
     rintro e W2 ⟨rfl,hT2,hk⟩
     have ob2:Hid _:=(hk _ (Nat.le_refl _) (by omega)).trans obc.out
     obtain ⟨tw,⟨hx2,c10⟩,HF2⟩:=HFs.out _ hT2
     replace HF2:Hid _:=HF2
     clear hk hTc obc s0 s1 c8 fz8
     go_wp2_with fail
     refine (HF2.out _ bL).mono ?_
     rintro e W3 ⟨rfl,b3⟩
     replace b3:Below W2.heap.size W2 W3:=b3
     have ob3:=(b3.block _ (blt ob2.out)).trans ob2.out
     have hT3:=jaj KPb hT2 b3
     have HS2:Hid (((W3.setCell (aq w1.heap.size 0) (iv q1)).setCell (aq w1.heap.size 1) (iv q2)).heap[w1.heap.size]?=some (.cells #[iv q1,iv q2] 131 (0,0))):=Joins.block_setCell (i:=1) (Joins.block_setCell (i:=0) ob3 _) _
     have hT4:Hid (jba Pb w1 own 1 ((W3.setCell (aq w1.heap.size 0) (iv q1)).setCell (aq w1.heap.size 1) (iv q2))):=jd5 KPb (jd5 KPb hT3 hw1.out (Nat.le_refl _) (by omega) _) hw1.out (Nat.le_refl _) (by omega) _
     obtain ⟨s0,s1⟩:=je0 ob3
     have f0:=ja0 ob3 0
     have f1':=ja0 ob3 1
     have lw3:w1.heap.size<W3.heap.size:=(blt ob3)
     replace ob3:Hid _:=ob3
     clear hT2 ob2 hT3 b3 c10
     go_wp2
     exact HR.out _ hT4.out HS2.out
    ·have HEs:Hid _:=HEs.out (fun _=>hle)
     have hle2:¬ (fs s').1<=to:=fun c=>hle ((hcd.out s').2 c)
     replace hlo1:Hid _:=hlo1
     clear HM hN hE hF hS hX hY hcd hle ob hlo2 hLo
     generalize (fs s').1=f1 at s0 hle2
     go_wp2_with fail
     try go_quiet (fail)
     go_wp2_with fail
     have hC:=jk6 hT.out (fun o hp=>(HXs.out wr o hp).2 to hlo1.out)
     have hTc:Hid (jba (PC s' to) w1 own 1 (wr.setCell (aq x 8) (iv to))):=hC
     refine (HEs.out _ (jaj (KC s' to) hTc.out bL)).mono ?_
     rintro e W1 ⟨rfl,hT1,hk⟩
     go_wp2
     first|go_end0|refine bodyPost_ret (results_none rfl _ _ _) rfl ?_
     exact ⟨rfl,HFRONT.out _ (jdu (jaj (KE s) hT1 bL))⟩
end Go.Proofs.YtfhncfghblkgeaaGreat
