import Derived.Test.YtfhncfghblkgeaaGreatL21
import Derived.Test.YtfhncfghblkgeaaGreatL37
import Derived.Test.YtfhncfghblkgeaaGreatL39
set_option maxRecDepth 100000
set_option maxHeartbeats 2000000
namespace Go.Proofs.YtfhncfghblkgeaaGreat
open Go.RowKit
section
section
variable {w W W':World} {x:Nat} {own loc:Nat->Prop} {V:PV} {P':World->(Nat->Prop)->Prop}
theorem jo3 {o1:Nat->Prop} (a2:Same own w W) (a3:∀ k,o1 k->own k\/(w.heap.size<=k/\¬ loc k)) (a4:∀ k,loc k->w.heap.size<=k/\k<W.heap.size) (h:jap P' W W' o1):ja7 P' w own loc W':=by
 obtain ⟨o2,b1,b2,b3⟩:=h
 have z1:=a2.size
 have z2:=b2.size
 exact ⟨o2,b1,Same.trans a2 b2 (fun k hk e=>e.elim id (fun e=>(a3 k e).elim id (fun e=>by omega))),fun k e=>(b3 k e).elim (a3 k) (fun e=>.inr ⟨by omega,fun c=>by have:=(a4 k c).2;omega⟩),fun k e=>⟨(a4 k e).1,by have:=(a4 k e).2;omega⟩⟩
theorem qg7 (h:psm W x own V) (t:Int) (hl:V.tl.length<=4294967296) :
 Calls Tryz.prog 119 #[pt V.tw 0,iv t] W fun e w'=>∃ da dc,e=.returned (.tuple #[.slice da (jhk V.tn t V.tl).length dc,iv (qao V.tn t)])/\jap (jds (pv x { V with tn:=jxb V.tn t,tl:=jtz V.tn t V.tl }) da (jhk V.tn t V.tl)) W w' own:=by
 obtain ⟨g,h⟩:=h
 refine (jhx t h.tw (by omega)).mono ?_
 rintro e w' ⟨out,two',rfl,a1,a2,a3,a4,a5,a6⟩
 obtain ⟨da,dc,rfl,b1,b2⟩:=jxr a1
 have hz:=a4.size
 have hm:=h.turnT0 a3 a4 a5
 refine ⟨da,dc,rfl,fun k=>(own k\/two' k)\/∃ off,da=some (aq k off),⟨fun k=>own k\/two' k,⟨_,hm⟩,fun k e=>.inl e,b1,fun k=>⟨fun e=>⟨.inr e,?_⟩,fun e=>e.1.elim (fun c=>absurd c e.2) id⟩,fun k e=>?_⟩,⟨a4.os,a4.tape,a4.output,a4.size,fun k hk hn=>a4.block k hk (fun e=>hn (h.fp k (.inl e)))⟩,fun k e=>?_⟩
 ·obtain ⟨off,e⟩:=e
  obtain ⟨c1,c2,c3⟩:=b2 k off e
  rintro (d|d)
  ·have:=h.lt k d;omega
  ·exact a6 k c3 d
 ·rcases e with e|⟨off,e⟩
  ·exact hm.lt k e
  ·exact (b2 k off e).2.1
 ·rcases e with (e|e)|⟨off,e⟩
  ·exact .inl e
  ·exact (a5 k e).imp (fun e=>h.fp k (.inl e)) id
  ·exact .inr (b2 k off e).1
theorem qga (h:psm W x own V) (t:Int) (hl:V.atl.length<=4294967296) :
 Calls Tryz.prog 119 #[pt V.aw 0,iv t] W fun e w'=>∃ da dc,e=.returned (.tuple #[.slice da (jhk V.an t V.atl).length dc,iv (qao V.an t)])/\jap (jds (pv x { V with an:=jxb V.an t,atl:=jtz V.an t V.atl }) da (jhk V.an t V.atl)) W w' own:=by
 obtain ⟨g,h⟩:=h
 refine (jhx t h.aw (by omega)).mono ?_
 rintro e w' ⟨out,two',rfl,a1,a2,a3,a4,a5,a6⟩
 obtain ⟨da,dc,rfl,b1,b2⟩:=jxr a1
 have hz:=a4.size
 have hm:=h.turnA0 a3 a4 a5
 refine ⟨da,dc,rfl,fun k=>(own k\/two' k)\/∃ off,da=some (aq k off),⟨fun k=>own k\/two' k,⟨_,hm⟩,fun k e=>.inl e,b1,fun k=>⟨fun e=>⟨.inr e,?_⟩,fun e=>e.1.elim (fun c=>absurd c e.2) id⟩,fun k e=>?_⟩,⟨a4.os,a4.tape,a4.output,a4.size,fun k hk hn=>a4.block k hk (fun e=>hn (h.fp k (.inr (.inl e))))⟩,fun k e=>?_⟩
 ·obtain ⟨off,e⟩:=e
  obtain ⟨c1,c2,c3⟩:=b2 k off e
  rintro (d|d)
  ·have:=h.lt k d;omega
  ·exact a6 k c3 d
 ·rcases e with e|⟨off,e⟩
  ·exact hm.lt k e
  ·exact (b2 k off e).2.1
 ·rcases e with (e|e)|⟨off,e⟩
  ·exact .inl e
  ·exact (a5 k e).imp (fun e=>h.fp k (.inr (.inl e))) id
  ·exact .inr (b2 k off e).1
end
theorem juh {D:List (Int × Int)} (h:jcz D) {i j:Nat} (hi:i<D.length) (hj:j<D.length) (e:(D.getD i (0,0)).2=(D.getD j (0,0)).2):i=j:=by
 have hp:=(List.pairwise_iff_getElem).1 (show (D.map (·.2)).Pairwise (·≠·) from h)
 have gi:(D.getD i (0,0)).2=(D.map (·.2))[i]'(by simpa using hi):=by simp [List.getD,List.getElem?_eq_getElem hi]
 have gj:(D.getD j (0,0)).2=(D.map (·.2))[j]'(by simpa using hj):=by simp [List.getD,List.getElem?_eq_getElem hj]
 rw [gi,gj] at e
 rcases Nat.lt_trichotomy i j with c|c|c
 ·exact absurd e (hp i j _ _ c)
 ·exact c
 ·exact absurd e.symm (hp j i _ _ c)
theorem jue {now t:Int} {L:List (Int × Int)} (h:jcz L):jcz (jhk now t L):=by
 unfold jhk
 split
 ·unfold jcz;simp
 ·exact jjt (jgc t _ L rfl).2.1.symm (jen _ h)
section
variable {w W:World} {x:Nat} {own:Nat->Prop} {V:PV} {S:Sal} {last:Nat} {an t:Int}
def jgf (S:Sal) (D:List (Int × Int)) (j k:Nat):Prop:=S.knows k/\((S.os.getD k ja3).alive\/∀ i,i<j->(D.getD i (0,0)).2≠(k:Int)+1)
def psk (an t:Int) (x:Nat) (S:Sal) (last:Nat) (K:Nat->Prop) (w:World) (own:Nat->Prop):Prop:=∃ V,psm w x own V/\relO V ({ S with now:=t }:Sal) last K/\relA V.an V.atl V.att V.al S.C.keep S.ansL/\V.an=an/\V.tn=t
theorem qfz (an t:Int) (x:Nat) (S:Sal) (last:Nat) (K:Nat->Prop):Keeps (psk an t x S last K):=⟨fun ⟨_,h,_⟩=>jfm h,fun ⟨V,h,hr⟩ hz hk=>⟨V,jfi h hz hk,hr⟩⟩
theorem qg2 (h:psm W x own V):x<W.heap.size:=by
 obtain ⟨g,h⟩:=h
 exact h.xw
theorem qdk (h:psx an x S last W own):x<W.heap.size:=by
 obtain ⟨V,h,_⟩:=h
 exact qg2 h
theorem jx3 (da:Option Addr) (dc:Nat) (D:List (Int × Int)) (hlen:S.os.length<=4294967296) (hR:restS S) (ht:S.now<t) (tn:Int) (htn:tn<=S.now) (hO:jcz D) (hn:D.length<=4294967296)
 (hD:∀ p,p∈D↔∃ i,S.knows i/\tn<(S.os.getD i ja3).untl S.C/\(S.os.getD i ja3).untl S.C<=t/\p=((S.os.getD i ja3).untl S.C,(i:Int)+1))
 (h:psk an t x S last S.knows W own) (hd:qap W da D) (hdis:∀ b off,da=some (aq b off)->¬ own b) :
 Calls Tryz.prog 135 #[pt x 0,.slice da D.length dc] W fun e w'=>e=.returned (.tuple #[])/\jap (psx an x ({ S with now:=t }:Sal) last) W w' own:=by
 have hat:∀ j,j<D.length->∃ i,S.knows i/\tn<(S.os.getD i ja3).untl S.C/\(S.os.getD i ja3).untl S.C<=t/\D.getD j (0,0)=((S.os.getD i ja3).untl S.C,(i:Int)+1):=fun j hj=>(hD _).1 (jes hj)
 have hij:∀ j,j<D.length->S.knows ((D.getD j (0,0)).2 - 1).toNat/\(S.os.getD ((D.getD j (0,0)).2 - 1).toNat ja3).untl S.C<=t/\(D.getD j (0,0)).2=(((D.getD j (0,0)).2 - 1).toNat:Int)+1:=fun j hj=>by
  obtain ⟨i,h1,h2,h3,h4⟩:=hat j hj
  have e:((D.getD j (0,0)).2 - 1).toNat=i:=by rw [h4];simp
  rw [e]
  exact ⟨h1,h3,by rw [h4]⟩
 have hK:∀ j,j<D.length->jgf S D j ((D.getD j (0,0)).2 - 1).toNat:=fun j hj=>by
  obtain ⟨a,b,c⟩:=hij j hj
  exact ⟨a,.inr (fun i hi e=>by
   have:=juh hO (i:=i) (j:=j) (by omega) hj (e.trans c.symm)
   omega)⟩
 have h0:psk an t x S last (jgf S D 0) W own:=by
  have e:jgf S D 0=S.knows:=by
   funext k
   exact propext ⟨fun c=>c.1,fun c=>⟨c,.inr (fun i hi=>by omega)⟩⟩
  rw [e];exact h
 refine (jqk x dc da D W own (fun j=>psk an t x S last (jgf S D j)) (fun j=>qfz _ _ _ _ _ _) (fun j=>jbw S.C ((D.getD j (0,0)).2 - 1).toNat (S.os.getD ((D.getD j (0,0)).2 - 1).toNat ja3)) (fun _=>true) (fun j=>((S.os.getD ((D.getD j (0,0)).2 - 1).toNat ja3).state != 13 && (S.os.getD ((D.getD j (0,0)).2 - 1).toNat ja3).state != 12)) h0 hn ?_ (fun W' hs=>jlq hd hs hdis) ?_ ?_ ?_ ?_).mono ?_
 ·rintro j loc W' ⟨o1,⟨V,hm,_⟩,_⟩
  exact qg2 hm
 ·rintro j loc W' hj ⟨o1,⟨V,hm,hr,_⟩,_⟩
  obtain ⟨q,h1,h2⟩:=hr.known (hK j hj)
  have:=joa hm hr.ls.srt h2 h1
  rw [← (hij j hj).2.2] at this
  exact this
 ·intro j W' hj
  exact jup _ _ _ _ _ _ W'
 ·intro j hj _ he loc W' hT
  refine ja6 (qfz _ _ _ _ _ _ |>.lt h) (fun W1 o1 hq=>?_) W' hT
  obtain ⟨V,hm,hr,ha,han,htn'⟩:=hq
  obtain ⟨q,h1,h2⟩:=hr.known (hK j hj)
  have hql:=(List.getElem?_eq_some_iff.1 h1).1
  obtain ⟨z,hz⟩:∃ z,V.ol[V.ol.length - 1]?=some z:=⟨V.ol[V.ol.length - 1],List.getElem?_eq_getElem (by omega)⟩
  have hol:V.ol.length<=S.os.length:=hr.olen
  obtain ⟨a,b,c⟩:=hij j hj
  have hna:¬ (S.os.getD ((D.getD j (0,0)).2 - 1).toNat ja3).alive:=by
   simp only [Bool.and_eq_true,bne_iff_ne,ne_eq] at he
   rintro (c|c)
   ·exact he.2 c
   ·exact he.1 c
  refine (jxx hm hr.ls (by omega) (jfw hr.ls) h1 hz).mono ?_
  rintro e w' ⟨rfl,rm,o2,p1,p2,p3⟩
  refine ⟨rfl,o2,⟨_,p1,?_,ha,han,htn'⟩,p2,p3⟩
  have hfin:=hr.drop hna (by rw [htn'];exact b) h1 hz rm
  have e:jgf S D (j+1)=fun k=>jgf S D j k/\k≠((D.getD j (0,0)).2 - 1).toNat:=by
   funext k
   refine propext ⟨fun ⟨d1,d2⟩=>⟨⟨d1,d2.imp id (fun d2 i hi=>d2 i (by omega))⟩,fun e=>?_⟩,fun ⟨⟨d1,d2⟩,d3⟩=>⟨d1,d2.imp id (fun d2 i hi=>?_)⟩⟩
   ·rcases d2 with d2|d2
    ·rw [e] at d2;exact hna d2
    ·exact d2 j (by omega) (by rw [e];exact c)
   ·by_cases ei:i=j
    ·rw [ei,c];intro e;apply d3;omega
    ·exact d2 i (by omega)
  rw [e]
  exact hfin
 ·intro j hj hne W' o' hq
  have e:jgf S D (j+1)=jgf S D j:=by
   obtain ⟨a,b,c⟩:=hij j hj
   have hal:(S.os.getD ((D.getD j (0,0)).2 - 1).toNat ja3).alive:=by
    refine Classical.byContradiction fun hc=>hne ⟨rfl,?_⟩
    simp only [Bool.and_eq_true,bne_iff_ne,ne_eq]
    exact ⟨fun e=>hc (.inr e),fun e=>hc (.inl e)⟩
   funext k
   refine propext ⟨fun ⟨d1,d2⟩=>⟨d1,d2.imp id (fun d2 i hi=>d2 i (by omega))⟩,fun ⟨d1,d2⟩=>⟨d1,?_⟩⟩
   by_cases ek:k=((D.getD j (0,0)).2 - 1).toNat
   ·rw [ek];exact .inl hal
   ·refine d2.imp id (fun d2 i hi=>?_)
    by_cases ei:i=j
    ·rw [ei,c];omega
    ·exact d2 i (by omega)
  rw [e]
  exact hq
 ·rintro e w' ⟨rfl,hq⟩
  refine ⟨rfl,jb7 hq (fun W' o' hp=>?_)⟩
  obtain ⟨V,hm,hr,ha,han,_⟩:=hp
  refine ⟨V,hm,?_,ha,han⟩
  have e:({ S with now:=t }:Sal).knows=jgf S D D.length:=by
   funext k
   refine propext ((jle (by omega) k).trans ⟨fun ⟨d1,d2⟩=>⟨d1,?_⟩,fun ⟨d1,d2⟩=>⟨d1,?_⟩⟩)
   ·refine d2.imp id (fun d2 i hi e=>?_)
    obtain ⟨i',h1,h2,h3,h4⟩:=hat i hi
    rw [h4] at e
    have:i'=k:=by simp at e;omega
    subst this
    omega
   ·refine Classical.or_iff_not_imp_left.2 (fun hna=>?_)
    have d2:=d2.resolve_left hna
    refine Int.lt_of_not_ge (fun hle=>?_)
    have hm':=(hD ((S.os.getD k ja3).untl S.C,(k:Int)+1)).2 ⟨k,d1,by have:=jii hR d1;omega,hle,rfl⟩
    obtain ⟨i,hi,e⟩:=List.getElem_of_mem hm'
    exact d2 i hi (by simp [List.getD,List.getElem?_eq_getElem hi,e])
  rw [e]
  exact hr
theorem jjy {S:Sal} (hK:saleK S) {st en:Int} (hen:en≠12/\en≠13/\en≠14):∀ (ds:List Nat) ,(∀ d∈ds,d<S.os.length)->saleK (jgl S st en ds):=by
 intro ds
 induction ds generalizing S with
 | nil=>intro _;exact hK
 | cons d ds ih =>
   intro h
   have e:jgl S st en (d :: ds)=jgl (if (S.os.getD d ja3).state=st then S.ends d en else S) st en ds:=rfl
   rw [e]
   split
   ·exact ih (hK.ends (h d List.mem_cons_self) en (.inr hen) (fun c=>absurd c hen.2.2)) (fun x hx=>by rw [jd6];exact h x (List.mem_cons_of_mem _ hx))
   ·exact ih hK (fun x hx=>h x (List.mem_cons_of_mem _ hx))
def jdx (D:List (Int × Int)):List Nat:=D.map (fun p=>(p.2 - 1).toNat)
open Classical in
theorem qdc (da:Option Addr) (dc:Nat) (D:List (Int × Int)) (hK:saleK S) (hn:D.length<=4294967296) (fr into:Int) (hfr:fr=12\/fr=13) (hin:into≠12/\into≠13/\into≠14)
 (hD:∀ p∈D,1<=p.2/\(p.2 - 1).toNat<S.os.length)
 (h:psx an x S last W own) (hd:qap W da D) (hdis:∀ b off,da=some (aq b off)->¬ own b) :
 Calls Tryz.prog 136 #[pt x 0,.slice da D.length dc,iv fr,iv into] W fun e w'=>e=.returned (.tuple #[])/\jap (psx an x (jgl S fr into (jdx D)) last) W w' own:=by
 have hat:∀ j,j<D.length->1<=(D.getD j (0,0)).2/\((D.getD j (0,0)).2 - 1).toNat<S.os.length:=fun j hj=>hD _ (jes hj)
 have htk:∀ j,j<D.length->(jdx D).take (j+1)=(jdx D).take j++[((D.getD j (0,0)).2 - 1).toNat]:=fun j hj=>by
  unfold jdx
  rw [← List.map_take,← List.map_take,qcg D hj,List.map_append]
  rfl
 have hin':∀ d∈jdx D,d<S.os.length:=fun d hd=>by
  obtain ⟨p,hp,rfl⟩:=List.mem_map.1 hd
  exact (hD p hp).2
 have hKj:∀ j,saleK (jgl S fr into ((jdx D).take j)):=fun j=>jjy hK hin _ (fun d hd=>hin' d (List.mem_of_mem_take hd))
 have hlj:∀ j,(jgl S fr into ((jdx D).take j)).os.length=S.os.length:=fun j=>(jln fr into _ S).2.2.2
 have hlen:(jdx D).length=D.length:=by unfold jdx;simp
 refine (jyy x dc da D fr into W own (fun j=>psx an x (jgl S fr into ((jdx D).take j)) last) (fun j=>jbb _ _ _ _)
  (fun j=>if (jgl S fr into ((jdx D).take j)).knows ((D.getD j (0,0)).2 - 1).toNat then jbw (jgl S fr into ((jdx D).take j)).C ((D.getD j (0,0)).2 - 1).toNat ((jgl S fr into ((jdx D).take j)).os.getD ((D.getD j (0,0)).2 - 1).toNat ja3) else pord0)
  (fun j=>decide ((jgl S fr into ((jdx D).take j)).knows ((D.getD j (0,0)).2 - 1).toNat))
  (fun j=>POrd.val ⟨(((D.getD j (0,0)).2 - 1).toNat:Int)+1,((jgl S fr into ((jdx D).take j)).os.getD ((D.getD j (0,0)).2 - 1).toNat ja3).cust,((jgl S fr into ((jdx D).take j)).os.getD ((D.getD j (0,0)).2 - 1).toNat ja3).units,into,((jgl S fr into ((jdx D).take j)).os.getD ((D.getD j (0,0)).2 - 1).toNat ja3).cents,(jgl S fr into ((jdx D).take j)).now+(jgl S fr into ((jdx D).take j)).C.keep⟩)
  h hn ?_ (fun W' hs=>jlq hd hs hdis) ?_ ?_ ?_).mono ?_
 ·rintro j loc W' ⟨o1,hp,_⟩
  exact qdk hp
 ·rintro j loc W' hj ⟨o1,hp,_⟩
  obtain ⟨a,b⟩:=hat j hj
  by_cases hk:(jgl S fr into ((jdx D).take j)).knows ((D.getD j (0,0)).2 - 1).toNat
  ·have:=jyw hp hk
   rw [show (((D.getD j (0,0)).2 - 1).toNat:Int)+1=(D.getD j (0,0)).2 by omega] at this
   simp only [if_pos hk,decide_eq_true hk]
   exact this
  ·simp only [if_neg hk,decide_eq_false hk]
   exact joj hp (fun i hi e=>hk (by
    have:((D.getD j (0,0)).2 - 1).toNat=i:=by omega
    rw [this];exact hi))
 ·intro j hj hk hs loc W' hT
  have hk':=of_decide_eq_true hk
  simp only [if_pos hk'] at hs ⊢
  have hs':((jgl S fr into ((jdx D).take j)).os.getD ((D.getD j (0,0)).2 - 1).toNat ja3).state=fr:=by simpa [jbw] using hs
  refine ja6 ((jbb an x S last).lt h) (fun W1 o1 hq=>?_) W' hT
  have:=jq2 hq (hKj j) hk' into ⟨hin.1,hin.2.1⟩
  simp only [htk j hj,jrr]
  rw [if_pos hs']
  exact this
 ·intro j hj hne W' o' hq
  simp only [htk j hj,jrr]
  rw [if_neg]
  ·exact hq
  ·intro hs
   have hk:(jgl S fr into ((jdx D).take j)).knows ((D.getD j (0,0)).2 - 1).toNat:=⟨by rw [hlj];exact (hat j hj).2,.inl (by unfold Ord.alive;rw [hs];exact hfr)⟩
   refine hne ⟨decide_eq_true hk,?_⟩
   simp only [if_pos hk]
   simpa [jbw] using hs
 ·rintro e w' ⟨rfl,hq⟩
  refine ⟨rfl,?_⟩
  rw [show (jdx D).take D.length=jdx D from List.take_of_length_le (by omega)] at hq
  exact hq
def pcx (an:Int) (x:Nat) (last:Nat) (S:Sal) (t:Int) (w:World) (own:Nat->Prop):Prop:=∃ V,psm w x own V/\relO V ({ S with now:=t }:Sal) last S.knows/\relA V.an V.atl V.att V.al S.C.keep S.ansL/\V.an=an/\V.tn<=S.now
theorem qgr (an:Int) (x:Nat) (last:Nat) (S:Sal) (t:Int):Keeps (pcx an x last S t):=⟨fun ⟨_,h,_⟩=>jfm h,fun ⟨V,h,hr⟩ hz hk=>⟨V,jfi h hz hk,hr⟩⟩
theorem qgm (hJ:salJ S) (hR:restP S) (hS:stopAt S t) (ht:t<=4611686018427387904) (h:pcx an x last S t W own) :
 Calls Tryz.prog 104 #[pt x 0] W fun e w'=>e=.returned (.tuple #[])/\jap (psx an x (S.round t) last) W w' own:=by
 obtain ⟨V,hm,hr,ha,han,htn⟩:=h
 have hlt:=hS.later hR.R
 have hw:=jfm hm
 have h0:=hJ.I.now
 have hT:jxb V.tn t=t:=by unfold jxb;rw [if_neg (by omega)]
 have hdue:=hr.due (t:=t) (by omega)
 have htl:V.tl.length<=4294967296:=by
  have h1:V.tl.length<=S.os.length:=hr.tlen
  have:=hJ.len
  omega
 have hr1:=hr.advance (t:=t) (by omega) (Int.le_refl _)
 have hO:=jue (now:=V.tn) (t:=t) hr.once
 have hDl:(jhk V.tn t V.tl).length<=4294967296:=by
  refine Nat.le_trans ?_ htl
  unfold jhk
  rw [if_neg (by omega)]
  rw [(jgc t _ V.tl rfl).2.1.length_eq]
  exact List.length_filter_le _ _
 have hcell:∀ {W' o'},psm W' x o' V->x<W'.heap.size/\W'.cell? (aq x 10)=some (pt V.tw 0)/\W'.cell? (aq x 8)=some (iv t):=fun {W' o'} hp=>by
  obtain ⟨g,hp⟩:=hp
  refine ⟨hp.xw,hp.cell 10 _ rfl,?_⟩
  have:W'.cell? (aq x 8)=some (iv V.now):=hp.cell 8 _ rfl
  rw [hr.now] at this
  exact this
 have hids:∀ p∈jhk V.tn t V.tl,1<=p.2/\(p.2 - 1).toNat<S.os.length:=fun p hp=>by
  obtain ⟨i,h1,_,_,rfl⟩:=(hdue p).1 hp
  exact ⟨by simp;omega,by simpa using h1.1⟩
 have hmem:∀ k,k∈jdx (jhk V.tn t V.tl)↔S.knows k/\(S.os.getD k ja3).untl S.C<=t:=fun k=>by
  unfold jdx
  rw [List.mem_map]
  constructor
  ·rintro ⟨p,hp,rfl⟩
   obtain ⟨i,h1,_,h3,rfl⟩:=(hdue p).1 hp
   have e:((i:Int)+1 - 1).toNat=i:=by omega
   simp only [e]
   exact ⟨h1,h3⟩
  ·rintro ⟨h1,h2⟩
   refine ⟨_,(hdue _).2 ⟨k,h1,?_,h2,rfl⟩,by simp⟩
   have:=jii hR.R h1
   show V.tn<_
   exact Int.lt_of_le_of_lt htn this
 have hK0:saleK ({ S with now:=t }:Sal):=⟨jig hJ.I ⟨by omega,ht⟩,hJ.len,hR.R.lease,hR.R.wait,hR.R.keep⟩
 have hdue12:∀ k,k<S.os.length->(S.os.getD k ja3).alive->(k∈jdx (jhk V.tn t V.tl)↔(S.os.getD k ja3).upto=t):=fun k hk hal=>by
  have hm':=hS.alive _ (jal hk) hal
  rw [hmem,jdk hal]
  constructor
  ·rintro ⟨_,h2⟩;omega
  ·intro e;exact ⟨⟨hk,.inl hal⟩,by omega⟩
 have e1:jgl ({ S with now:=t }:Sal) 13 15 (jdx (jhk V.tn t V.tl))=jbq ({ S with now:=t }:Sal) 13 15 ({ S with now:=t }:Sal).os.length :=
  jrf (by decide) (fun d hd=>((hmem d).1 hd).1.1) (fun k hk hs=>hdue12 k hk (.inr hs))
 have hK1:saleK (jbq ({ S with now:=t }:Sal) 13 15 ({ S with now:=t }:Sal).os.length):=by
  rw [← e1]
  exact jjy hK0 (by decide) _ (fun d hd=>((hmem d).1 hd).1.1)
 have hK2:saleK (({ S with now:=t }:Sal).past 13 15):=hK1.promote
 have hl2:(({ S with now:=t }:Sal).past 13 15).os.length=S.os.length:=jjc _ 13 15
 have hn2:(({ S with now:=t }:Sal).past 13 15).now=t:=(jf7 _ 13 15).2.1
 have e2:jgl (({ S with now:=t }:Sal).past 13 15) 12 17 (jdx (jhk V.tn t V.tl))=jbq (({ S with now:=t }:Sal).past 13 15) 12 17 (({ S with now:=t }:Sal).past 13 15).os.length :=
  jrf (by decide) (fun d hd=>by rw [hl2];exact ((hmem d).1 hd).1.1) (fun k hk hs=>by
   rw [hl2] at hk
   have e:=jwk _ hs
   rw [e] at hs ⊢
   rw [hn2]
   exact hdue12 k hk (.inl hs))
 have hK3:saleK (jbq (({ S with now:=t }:Sal).past 13 15) 12 17 (({ S with now:=t }:Sal).past 13 15).os.length):=by
  rw [← e2]
  exact jjy hK2 (by decide) _ (fun d hd=>by rw [hl2];exact ((hmem d).1 hd).1.1)
 refine jyf x V.tw t (qao V.tn t) (jhk V.tn t V.tl) W own (pv x V) (pv x { V with tn:=jxb V.tn t,tl:=jtz V.tn t V.tl }) (psx an x ({ S with now:=t }:Sal) last) (psx an x (jbq ({ S with now:=t }:Sal) 13 15 ({ S with now:=t }:Sal).os.length) last) (psx an x (({ S with now:=t }:Sal).past 13 15) last) (psx an x (jbq (({ S with now:=t }:Sal).past 13 15) 12 17 (({ S with now:=t }:Sal).past 13 15).os.length) last) (psx an x (S.round t) last) (jmn _ _) (jmn _ _) (jbb _ _ _ _) (jbb _ _ _ _) (jbb _ _ _ _) (jbb _ _ _ _) (jbb _ _ _ _) hm ?_ ?_ ?_ ?_ ?_ ?_ ?_ ?_
 ·rintro loc W' ⟨o1,hp,_⟩
  exact hcell hp
 ·rintro da loc W' ⟨o1,⟨o0,hp,_⟩,_⟩
  obtain ⟨g,hp⟩:=(show psm W' x o0 _ from hp)
  refine ⟨hp.xw,hp.cell 10 _ rfl,?_⟩
  have:W'.cell? (aq x 8)=some (iv V.now):=hp.cell 8 _ rfl
  rw [hr.now] at this
  exact this
 ·rintro loc W' ⟨o1,hp,a2,a3,a4⟩
  refine (qg7 hp t htl).mono ?_
  rintro e w' ⟨da,dc,rfl,hq⟩
  exact ⟨da,dc,rfl,jo3 a2 a3 a4 hq⟩
 ·intro da dc loc W' hT'
  refine ja6 hw (jf2 (jbb _ _ _ _) (fun W1 o1 hp hd hdis=>?_)) W' hT'
  refine jx3 da dc _ hJ.len hR.R hlt V.tn htn hO hDl hdue ⟨_,hp,?_,ha,han,hT⟩ hd hdis
  rw [hT]
  exact hr1
 ·intro da dc loc W' hT'
  refine ja6 hw (jf2 (jbb _ _ _ _) (fun W1 o1 hp hd hdis=>?_)) W' hT'
  rw [← e1]
  exact qdc da dc _ hK0 hDl 13 15 (.inr rfl) (by decide) hids hp hd hdis
 ·intro da loc W' hT'
  exact ja6 hw (jf2 (jbb _ _ _ _) (fun W1 o1 hp hd hdis=>jgx hp hK1)) W' hT'
 ·intro da dc loc W' hT'
  refine ja6 hw (jf2 (jbb _ _ _ _) (fun W1 o1 hp hd hdis=>?_)) W' hT'
  rw [← e2]
  exact qdc da dc _ hK2 hDl 12 17 (.inl rfl) (by decide) (fun p hp=>by rw [hl2];exact hids p hp) hp hd hdis
 ·intro da loc W' hT'
  exact ja6 hw (jf2 (jbb _ _ _ _) (fun W1 o1 hp hd hdis=>jgx hp hK3)) W' hT'
end
end
section
theorem jvc {P P':World->(Nat->Prop)->Prop} {da:Option Addr} {D:List (Int × Int)} (hp:∀ W o,P W o->P' W o) (W:World) (o:Nat->Prop) (h:jds P da D W o):jds P' da D W o:=by
 obtain ⟨o0,a1,a⟩:=h
 exact ⟨o0,hp _ _ a1,a⟩
theorem PMem.clock {W:World} {x:Nat} {own:Nat->Prop} {V:PV} {g:PG} (h:PMem W x own V g) (t:Int):jb4 W (W.setCell (aq x 8) (iv t)) x own { V with now:=t }:=by
 have hs0:Same (fun k=>k=x) W (W.setCell (aq x 8) (iv t)):=jce (Same.of_below (Below.refl _ _)) x _ _ rfl
 have hs':Same (g.xs V x) W (W.setCell (aq x 8) (iv t)):=jci hs0 (fun k e=>.inl e)
 refine h.turn hs' (V':={ V with now:=t }) (g':=g) ?_ rfl ⟨rfl,rfl,rfl⟩ ⟨rfl,rfl,rfl,rfl⟩ ⟨rfl,rfl,rfl,rfl⟩ ⟨h.stay hs' h.ot.1,h.ot.2,fun _ e=>.inl e⟩ ⟨h.stay hs' h.qt.1,h.qt.2,fun _ e=>.inl e⟩ ⟨h.stay hs' h.qz.1,h.qz.2,fun _ e=>.inl e⟩ ⟨h.stay hs' h.lu.1,h.lu.2,fun _ e=>.inl e⟩ ⟨h.stay hs' h.att.1,h.att.2,fun _ e=>.inl e⟩ ⟨jad h.orow (fun k e=>Below.heap_setCell _ (aq x 8) _ _ (fun c=>jb9 h.orow h.blk (by decide) (by rw [e,show k=x from c]))),fun k e=>.inl e⟩ ⟨jad h.arow (fun k e=>Below.heap_setCell _ (aq x 8) _ _ (fun c=>jb9 h.arow h.blk (by decide) (by rw [e,show k=x from c]))),fun k e=>.inl e⟩
 rw [Joins.block_setCell h.blk]
 unfold jbe
 rfl
section
variable {w W:World} {x:Nat} {own:Nat->Prop} {V:PV} {S:Sal} {last:Nat} {an t:Int}
def paf (x:Nat) (S:Sal) (last:Nat) (V:PV) (to:Int) (D:List (Int × Int)) (j:Nat) (w:World) (own:Nat->Prop):Prop :=
 ∃ V',psm w x own V'/\relO V' ({ S with now:=to }:Sal) last S.knows/\Listed PAns.t V'.att V'.al/\(∀ a,a∈V'.al↔a∈V.al/\∀ i,i<j->a.t≠(D.getD i (0,0)).2)/\V'.an=to/\V'.atl=jtz V.an to V.atl
theorem qdj (x:Nat) (S:Sal) (last:Nat) (V:PV) (to:Int) (D:List (Int × Int)) (j:Nat):Keeps (paf x S last V to D j):=⟨fun ⟨_,h,_⟩=>jfm h,fun ⟨V,h,hr⟩ hz hk=>⟨V,jfi h hz hk,hr⟩⟩
theorem jxo {S00:Sal} {to:Int} (h00:restP S00) (hC:S.C=S00.C) (hL:S.ansL=S00.ansL) (hn:S00.now<=to) (hnow:S.now<=to) (hk:∀ i,S.knows i->to<(S.os.getD i ja3).untl S.C) (h:pcx S00.now x last S to W own) :
 Calls Tryz.prog 105 #[pt x 23,iv to] W fun e w'=>e=.returned (.tuple #[])/\jap (psx to x ({ S with now:=to }:Sal) last) W w' own:=by
 obtain ⟨V,hm,hr,ha,han,htn⟩:=h
 have hw:=jfm hm
 have hle:V.an<=to:=by rw [han];exact hn
 have ha0:relA S00.now V.atl V.att V.al S00.C.keep S00.ansL:=by rw [← han,← hC,← hL];exact ha
 have hcnt:=jgj ha0
 have hal:V.al.length<=4294967296:=by have:=h00.alen;have:=h00.R.tokens.2;omega
 have hz2:V.atl.length<=V.al.length:=by
  have:=jb0 (V.atl.map (fun p:Int × Int=>p.2)) (V.al.map PAns.t) (show (V.atl.map (fun p:Int × Int=>p.2)).Nodup from ha.once) (fun y hy=>by
   obtain ⟨p,hp,rfl⟩:=List.mem_map.1 hy
   obtain ⟨j,j1,j2,rfl⟩:=(ha.tl p).1 hp
   obtain ⟨b,hb',e,_⟩:=ha.reqs j j1 j2
   exact List.mem_map.2 ⟨b,hb',e⟩)
  simpa using this
 have hO:=jue (now:=V.an) (t:=to) ha.once
 have hperm:(jhk V.an to V.atl).Perm (V.atl.filter (fun p=>decide (p.1<=to))):=by
  unfold jhk
  rw [if_neg (by omega)]
  exact (jgc to _ V.atl rfl).2.1
 have hDl:(jhk V.an to V.atl).length<=4294967296:=by
  rw [hperm.length_eq]
  have:=List.length_filter_le (fun p:Int × Int=>decide (p.1<=to)) V.atl
  omega
 have hD:∀ p∈jhk V.an to V.atl,∃ a∈V.al,a.t=p.2:=fun p hp=>by
  obtain ⟨j,j1,j2,rfl⟩:=(ha.tl p).1 (List.mem_filter.1 (hperm.mem_iff.1 hp)).1
  obtain ⟨b,hb',e,_⟩:=ha.reqs j j1 j2
  exact ⟨b,hb',e⟩
 have hT:jxb V.an to=to:=by unfold jxb;rw [if_neg (by omega)]
 refine (jqu x V.aw to (qao V.an to) (jhk V.an to V.atl) W own (pv x V) (paf x S last V to (jhk V.an to V.atl)) (jmn _ _) (fun j=>qdj _ _ _ _ _ _ _) hm hDl ?_ ?_ ?_).mono ?_
 ·rintro loc W' ⟨o1,⟨g,hp⟩,_⟩
  exact ⟨hp.xw,hp.cell 23 _ rfl⟩
 ·rintro loc W' ⟨o1,hp,a2,a3,a4⟩
  refine (qga hp to (by omega)).mono ?_
  rintro e w' ⟨da,dc,rfl,hq⟩
  refine ⟨da,dc,rfl,jo3 a2 a3 a4 (jb7 hq (jvc (fun W1 o1 hp=>?_)))⟩
  exact ⟨_,hp,⟨hr.C,hr.now,hr.last,hr.tn,hr.once,hr.tl,hr.kin,hr.live,hr.ls,hr.ol,hr.turns,hr.sizes,hr.held,hr.sold,hr.lu,hr.cust⟩,ha.ls,fun a=>⟨fun c=>⟨c,fun i hi=>by omega⟩,fun c=>c.1⟩,hT,rfl⟩
 ·intro da j hj loc W' hT'
  refine ja6 hw (jf2 (qdj _ _ _ _ _ _ _) (fun W1 o1 hp hd hdis=>?_)) W' hT'
  obtain ⟨V',q1,q2,q3,q4,q5,q6⟩:=hp
  obtain ⟨a,b1,b2⟩:=hD _ (jes hj)
  have hin:a∈V'.al:=(q4 a).2 ⟨b1,fun i hi e=>by
   have:=juh hO (i:=i) (j:=j) (by omega) hj (e.symm.trans b2)
   omega⟩
  obtain ⟨q,hq⟩:=List.mem_iff_getElem?.1 hin
  have hql:=(List.getElem?_eq_some_iff.1 hq).1
  obtain ⟨z,hz⟩:∃ z,V'.al[V'.al.length - 1]?=some z:=⟨V'.al[V'.al.length - 1],List.getElem?_eq_getElem (by omega)⟩
  have hl':V'.al.length<=V.al.length:=by
   have:=jb0 (V'.al.map PAns.t) (V.al.map PAns.t) q3.once (fun y hy=>by
    obtain ⟨p,hp,rfl⟩:=List.mem_map.1 hy
    exact List.mem_map.2 ⟨p,((q4 p).1 hp).1,rfl⟩)
   simpa using this
  rw [← b2]
  refine (qa6 q1 q3 (by omega) (jfw q3) hq hz).mono ?_
  rintro e w' ⟨rfl,rm,o2,p1,p2,p3⟩
  refine ⟨rfl,o2,⟨_,p1,⟨q2.C,q2.now,q2.last,q2.tn,q2.once,q2.tl,q2.kin,q2.live,q2.ls,q2.ol,q2.turns,q2.sizes,q2.held,q2.sold,q2.lu,q2.cust⟩,jlx q3 hq hz,fun c=>?_,q5,q6⟩,p2,p3⟩
  show c∈jel V'.al q z↔_
  rw [jnm q3.once hq hz,q4]
  constructor
  ·rintro ⟨⟨d1,d2⟩,d3⟩
   refine ⟨d1,fun i hi=>?_⟩
   by_cases ei:i=j
   ·rw [ei,← b2];exact d3
   ·exact d2 i (by omega)
  ·rintro ⟨d1,d2⟩
   exact ⟨⟨d1,fun i hi=>d2 i (by omega)⟩,by rw [b2];exact d2 j (by omega)⟩
 ·rintro e w' ⟨rfl,hq⟩
  refine ⟨rfl,jb7 hq (fun W' o' hp=>?_)⟩
  obtain ⟨V',q1,q2,q3,q4,q5,q6⟩:=hp
  refine ⟨V',q1,?_,?_,q5⟩
  ·rw [juu hnow hk];exact q2
  ·have:=ha.forget hle q3 (fun a=>(q4 a).trans ⟨fun c=>⟨c.1,fun d hd=>?_⟩,fun c=>⟨c.1,fun i hi=>c.2 _ (jes hi)⟩⟩)
   ·rw [q5,q6];exact this
   ·obtain ⟨i,hi,e⟩:=List.getElem_of_mem hd
    have:=c.2 i hi
    simpa [List.getD,List.getElem?_eq_getElem hi,e] using this
theorem qfk {to:Int} (hJ:salJ S) (hR:restP S) (hto:S.now<=to) (hmax:to<=4611686018427387904) (h:psx S.now x S last W own) :
 Calls Tryz.prog 66 #[pt x 0,iv to] W fun e w'=>e=.returned (.tuple #[])/\jap (fun W o=>psx to x (S.tickTo to) last W o/\restP (S.tickTo to)) W w' own:=by
 refine qam (σ:=Sal) x to (fun T=>psx S.now x T last) (fun T W o=>psx to x (T.tickTo to) last W o/\restP (T.tickTo to)) (pcx S.now x last) (fun T=>jbb _ _ _ _) (fun T t=>qgr _ _ _ _ _) (fun T=>⟨fun h=>(jbb _ _ _ _).lt h.1,fun h hz hk=>⟨(jbb _ _ _ _).keep h.1 hz hk,h.2⟩⟩) (fun T=>(salJ T/\restP T)/\T.now<=to/\T.ansL=S.ansL/\T.C=S.C) (fun T=>ja8 T.tset) (fun T=>jcf T.tset) (fun T=>T.round (ja8 T.tset).1) Sal.todo (fun T=>(ja8 T.tset).1<=to) (fun _=>Iff.rfl) Sal.now (fun T hT=>⟨hT.2.1,fun hb=>Int.le_of_lt ((jh6 hb).later hT.1.2.R)⟩) ?_ ?_ ?_ ?_ ?_ ?_ S W own ⟨⟨hJ,hR⟩,hto,rfl,rfl⟩ h
 ·rintro T ⟨⟨hJ',hR'⟩,h1,h2,h3⟩ W' o' ⟨V,⟨g,hm⟩,hr,ha,han⟩
  refine ⟨hm.ownx,fun t hlt=>?_⟩
  obtain ⟨o2,p1,p2,p3⟩:=hm.clock t
  refine ⟨o2,⟨_,p1,⟨hr.C,rfl,hr.last,Int.le_trans hr.tn hlt,hr.once,hr.tl,hr.kin,hr.live,hr.ls,hr.ol,hr.turns,hr.sizes,hr.held,hr.sold,hr.lu,hr.cust⟩,ha,han,hr.tn⟩,p2,p3⟩
 ·rintro T _ W' o' ⟨V,⟨g,hm⟩,_⟩
  exact ⟨hm.xw,⟨_,hm.cell 8 _ rfl⟩,ja0 hm.blk 8⟩
 ·rintro T ⟨⟨hJ',hR'⟩,h1,h2,h3⟩ W' o' ⟨V,⟨g,hm⟩,hr,ha,han⟩
  refine ⟨V.tw,hm.cell 10 _ rfl,fun W2 hb=>?_⟩
  have:=jhh (juf hm.tw hb)
  rw [(hr.firstK hR'.R).1,(hr.firstK hR'.R).2] at this
  exact this
 ·rintro T ⟨⟨hJ',hR'⟩,h1,h2,h3⟩ hb hc W' o' hp
  exact qgm hJ' hR' (jh6 hb) (by omega) hp
 ·rintro T ⟨⟨hJ',hR'⟩,h1,h2,h3⟩ hb hc
  have hS:=jh6 hb
  have hlt:=hS.later hR'.R
  have h0:=hJ'.I.now
  obtain ⟨a,b,c,d⟩:=je6 T (ja8 T.tset).1
  have ht:=jt8 hR'.R h0.1 hc hS.alive
  refine ⟨⟨⟨jws hJ' ⟨by omega,by omega⟩,jsv hS hR'⟩,by rw [b];exact hc,c.trans h2,a.trans h3⟩,jzi hS hR'.R h0.1,?_⟩
  simp only [← ht]
 ·rintro T ⟨⟨hJ',hR'⟩,h1,h2,h3⟩ hc W' o' hp
  have hk:∀ i,T.knows i->to<(T.os.getD i ja3).untl T.C:=fun i hi=>by
   cases hb:jcf T.tset with
   | false=>exact absurd hi (jvs hb i)
   | true =>
     have:=(jh6 hb).min i hi
     have:=hc hb
     omega
  rw [show (fun W o=>psx to x (T.tickTo to) last W o/\restP (T.tickTo to))=(fun W o=>psx to x ({ T with now:=to }:Sal) last W o/\restP ({ T with now:=to }:Sal)) by rw [jzr hk]]
  refine (jxo hR h3 h2 hto h1 hk hp).mono ?_
  rintro e w' ⟨rfl,hq⟩
  exact ⟨rfl,jb7 hq (fun W o hp=>⟨hp,jv1 h1 hk hR'⟩)⟩
end
end
theorem qdx (x:Nat) (n:Int) (w:World) (hn:n<0) :
 Calls Tryz.prog 36 #[pt x 0,iv n] w fun e w'=>e=.returned (.tuple #[iv 0,iv 3])/\Below w.heap.size w w':=by
 go_enter Tryz.func36,Tryz.ntmps36
 go_wp2
 refine bodyPost_ret (v:=.tuple #[iv 0,iv 3]) (by simp [results,Tryz.results36,go_sem]) rfl ⟨rfl,bL⟩
theorem qcp (x:Nat) (n now to:Int) (w:World) (own:Nat->Prop) (P0 PE:World->(Nat->Prop)->Prop) (K0:Keeps P0) (KE:Keeps PE) (h:P0 w own) (hn:¬ n<0) (hn2:n<=9223372036854775807) (hb:0<=now/\now<=4611686018427387904)
 (hto:(n<4611686018427387904 - now/\to=now+n)\/(¬ n<4611686018427387904 - now/\to=4611686018427387904))
 (HX:Hid (∀ W o,P0 W o->x<W.heap.size/\W.cell? (aq x 8)=some (iv now)))
 (HY:Hid (∀ W o,PE W o->x<W.heap.size/\W.cell? (aq x 8)=some (iv to)))
 (HG:Hid (∀ W o,P0 W o->Calls Tryz.prog 66 #[pt x 0,iv to] W fun e w'=>e=.returned (.tuple #[])/\jap PE W w' o)) :
 Calls Tryz.prog 36 #[pt x 0,iv n] w fun e w'=>e=.returned (.tuple #[iv to,iv 0])/\jap PE w w' own:=by
 obtain ⟨hx,c8⟩:=HX.out w own h
 have hw1:IntKind.i64.wrap (4611686018427387904 - now)=4611686018427387904 - now:=jab (by omega) (by omega)
 obtain ⟨hb0,hb1⟩:=hb
 have hT0:Hid (jba P0 w own 0 w):=jd4 K0 h (Below.refl _ _) (Nat.le_refl _)
 have HGs:Hid (∀ W,jba P0 w own 0 W->Calls Tryz.prog 66 #[pt x 0,iv to] W fun e w'=>e=.returned (.tuple #[])/\jba PE w own 0 w'/\∀ b,w.heap.size<=b->b<w.heap.size+0->w'.heap[b]?=W.heap[b]?):=fun W hW=>jcl (K0.lt h) HG.out W hW
 clear h HX HG
 rcases hto with ⟨hlt,rfl⟩|⟨hlt,rfl⟩
 ·have hw2:IntKind.i64.wrap (now+n)=now+n:=jab (by omega) (by omega)
  go_enter Tryz.func36,Tryz.ntmps36
  go_wp2_with fail
  refine (HGs.out _ (jaj K0 hT0.out bL)).mono ?_
  rintro e W1 ⟨rfl,hT1,_⟩
  obtain ⟨hx1,d8⟩:x<W1.heap.size/\W1.cell? (aq x 8)=some (iv (now+n)):=by
   obtain ⟨o1,a1,_⟩:=hT1
   exact HY.out W1 o1 a1
  replace hT1:Hid _:=hT1
  clear hT0 c8 HY
  go_wp2
  refine bodyPost_ret (v:=.tuple #[iv (now+n),iv 0]) (by simp [results,Tryz.results36,go_sem]) rfl ⟨rfl,jdu (jaj KE hT1.out bL)⟩
 ·go_enter Tryz.func36,Tryz.ntmps36
  go_wp2_with fail
  refine (HGs.out _ (jaj K0 hT0.out bL)).mono ?_
  rintro e W1 ⟨rfl,hT1,_⟩
  obtain ⟨hx1,d8⟩:x<W1.heap.size/\W1.cell? (aq x 8)=some (iv 4611686018427387904):=by
   obtain ⟨o1,a1,_⟩:=hT1
   exact HY.out W1 o1 a1
  replace hT1:Hid _:=hT1
  clear hT0 c8 HY
  go_wp2
  refine bodyPost_ret (v:=.tuple #[iv 4611686018427387904,iv 0]) (by simp [results,Tryz.results36,go_sem]) rfl ⟨rfl,jdu (jaj KE hT1.out bL)⟩
theorem jrq (S:Sal) (to:Int):(S.tickTo to).C=S.C/\(S.tickTo to).ansL=S.ansL/\(S.tickTo to).os.length=S.os.length:=jjr _ S to
theorem jlb:∀ (n:Nat) (S:Sal) (to:Int),(jdw n S to).now=to
 | 0,_,_=>rfl
 | n+1,S,to=>by
   unfold jdw
   split
   ·rfl
   ·exact jlb n _ to
theorem jj3 (S:Sal) (to:Int):(S.tickTo to).now=to:=jlb _ S to
theorem tickW:TickOK PSW where
 tick:=by
  intro w x own S n hn1 hn2 h hJ
  obtain ⟨hp,hR⟩:=h
  by_cases hn:n<0
  ·have e:S.tick n=((0,3),S):=by unfold Sal.tick;rw [if_pos hn]
   rw [e]
   refine (qdx x n w hn).mono ?_
   rintro e w' ⟨rfl,hb⟩
   obtain ⟨o',a1,a2,a3⟩:=jbi (jbb S.now x S S.os.length) hp hb
   exact ⟨rfl,o',⟨a1,hR⟩,a2,a3⟩
  ·have h0:=hJ.I.now
   obtain ⟨to,hto,e⟩:∃ to,((n<4611686018427387904 - S.now/\to=S.now+n)\/(¬ n<4611686018427387904 - S.now/\to=4611686018427387904))/\S.tick n=((to,0),S.tickTo to):=by
    unfold Sal.tick
    rw [if_neg hn]
    by_cases hlt:n<4611686018427387904 - S.now
    ·exact ⟨_,.inl ⟨hlt,rfl⟩,by rw [if_pos hlt]⟩
    ·exact ⟨_,.inr ⟨hlt,rfl⟩,by rw [if_neg hlt]⟩
   have hto1:S.now<=to/\to<=4611686018427387904:=by rcases hto with ⟨a,rfl⟩|⟨a,rfl⟩<;>omega
   rw [e]
   have KE:Keeps (fun W o=>psx to x (S.tickTo to) S.os.length W o/\restP (S.tickTo to)):=⟨fun h=>(jbb _ _ _ _).lt h.1,fun h hz hk=>⟨(jbb _ _ _ _).keep h.1 hz hk,h.2⟩⟩
   refine (qcp x n S.now to w own (psx S.now x S S.os.length) _ (jbb _ _ _ _) KE hp hn hn2 h0 hto (fun W o hp=>⟨qdk hp,(jf5 hp).2.2.2.1⟩) (fun W o hp=>⟨qdk hp.1,?_⟩) (fun W o hp=>qfk hJ hR hto1.1 hto1.2 hp)).mono ?_
   ·have:=(jf5 hp.1).2.2.2.1
    rwa [jj3] at this
   ·rintro e w' ⟨rfl,o',a1,a2,a3⟩
    refine ⟨rfl,o',⟨?_,a1.2⟩,a2,a3⟩
    have:=a1.1
    show psx (S.tickTo to).now x (S.tickTo to) (S.tickTo to).os.length w' o'
    rw [jj3,(jrq S to).2.2]
    exact this
 clock:=by
  intro w x own S h hJ
  obtain ⟨hp,hR⟩:=h
  refine (qec x S.now w (jf5 hp).2.2.2.1).mono ?_
  rintro e w' ⟨rfl,hb⟩
  obtain ⟨o',a1,a2,a3⟩:=jbi (jbb S.now x S S.os.length) hp hb
  exact ⟨rfl,o',⟨a1,hR⟩,a2,a3⟩
section
structure PSK (w:World) (x:Nat) (own:Nat->Prop) (S:Sal):Prop where
 ps:PSW w x own S
 J:salJ S
 I:keepI S
def jm6 (x:Nat) (S:Sal) (W:World) (o:Nat->Prop):Prop:=PSK W x o S
theorem jed (x:Nat) (S:Sal):Keeps (jm6 x S):=⟨fun h=>sendW.lt h.ps,fun h hz hk=>⟨sendW.keep h.ps hz hk,h.J,h.I⟩⟩
theorem jm5 (x:Nat) (S:Sal):Keeps (fun W o=>PSW W x o S):=⟨fun h=>sendW.lt h,fun h hz hk=>sendW.keep h hz hk⟩
section
variable {w:World} {x:Nat} {own:Nat->Prop} {S:Sal}
theorem jpf (h:PSK w x own S) (p:Stp) (hp:p.fine) :
 Calls Tryz.prog 15 #[pt x 0,p.val] w fun e w'=>e=.returned (.tuple #[(S.does p).1.val,.bool true])/\jap (jm6 x (S.does p).2) w w' own:=by
 obtain ⟨h1,hJ,hI⟩:=h
 obtain ⟨⟨n1,n2⟩,⟨k1,k2⟩,⟨t1,t2⟩,⟨c1,c2⟩,⟨u1,u2⟩,⟨o1,o2⟩⟩:=hp
 have hR:=h1.2
 have h0:=hJ.I.now
 unfold Sal.does
 by_cases hs:0<=p.k/\p.k<256
 ·have hS:∀ W,Calls Tryz.prog 32 #[.agg #[iv p.k,iv p.t,iv p.c,iv p.u,iv p.o]] W fun e w'=>e=.returned (.bool true)/\Below W.heap.size W w':=fun W=>by
   have:=jrv p.k p.t p.c p.u p.o W
   rw [decide_eq_true hs.1,decide_eq_true hs.2] at this
   exact this
  rw [if_pos hs]
  by_cases hk:p.k=0
  ·rw [if_pos hk]
   obtain ⟨n,k,t,c,u,o⟩:=p
   simp only at *
   subst hk
   have hJ':=jwz hJ n
   refine (jxj x n t c u o S.now (S.tick n).2.now (S.tick n).1.1 (S.tick n).1.2 w own (fun W o=>PSW W x o S) (fun W o=>PSW W x o (S.tick n).2) (jm5 _ _) (jm5 _ _) h1 h0 ?_ hS (fun W o hp=>tickW.clock hp hJ) (fun W o hp=>tickW.tick n n1 (by omega) hp hJ) (fun W o hp=>tickW.clock hp hJ')).mono ?_
   ·unfold Sal.tick
    by_cases hn:n<0
    ·rw [if_pos hn];exact .inl ⟨hn,rfl,rfl,rfl⟩
    ·rw [if_neg hn]
     by_cases hlt:n<4611686018427387904 - S.now
     ·rw [if_pos hlt];exact .inr (.inl ⟨hn,hlt,rfl,rfl,jj3 _ _⟩)
     ·rw [if_neg hlt];exact .inr (.inr ⟨hn,hlt,rfl,rfl,jj3 _ _⟩)
   ·rintro e w' ⟨rfl,hq⟩
    exact ⟨rfl,jb7 hq (fun W o hp=>⟨hp,hJ',jwm hI n⟩)⟩
  ·rw [if_neg hk]
   have hbne:(p.k != 0)=true:=by simpa using hk
   have HF:∀ W,Calls Tryz.prog 34 #[.agg #[iv p.k,iv p.t,iv p.c,iv p.u,iv p.o]] W fun e w'=>∃ ba bl bc,e=.returned (.slice ba bl bc)/\jai w' ba bl bc p.bytes/\Below W.heap.size W w':=fun W=>by
    refine (jy9 p.k p.t p.c p.u p.o W hs.1 hs.2 t2 c2 u2 o2).mono ?_
    rintro e w' ⟨v,rfl,hown,hb⟩
    obtain ⟨g,cap,rfl,hs'⟩:=jik (jo2 hown (by unfold jao;simp)) (p.bytes_byte hs)
    exact ⟨_,_,_,rfl,hs',hb⟩
   have hSend:∀ W o ba bl bc,PSW W x o S->jai W ba bl bc p.bytes->Calls Tryz.prog 33 #[pt x 0,.slice ba bl bc] W fun e w'=>e=.returned (S.sendK p).1.val/\jap (fun W o=>PSW W x o (S.sendK p).2) W w' o:=fun W o ba bl bc hps hsl=>by
    unfold Sal.sendK
    rcases p.un with ⟨hb,hun⟩|⟨hb,hun⟩
    ·rw [if_pos hb]
     exact sendW.send hps hJ hsl hun
    ·rw [if_neg (by rw [hb];decide)]
     have:=sendW.send hps hJ hsl hun
     unfold Sal.send at this
     rw [if_pos (by decide)] at this
     exact this
   have hfit:∀ W,Calls Tryz.prog 35 #[.agg #[iv p.k,iv p.t,iv p.c,iv p.u,iv p.o],.agg #[iv (S.sendK p).1.kind,iv (S.sendK p).1.order,iv (S.sendK p).1.cents,iv (S.sendK p).1.upto]] W fun e w'=>e=.returned (.bool true)/\Below W.heap.size W w':=fun W=>by
    cases hb:p.ok
    ·have e:(S.sendK p).1=⟨1,0,0,0⟩:=by unfold Sal.sendK;rw [hb];rfl
     rw [e]
     exact qf0 p.k p.t p.c p.u p.o W hb
    ·exact qce p.k p.t p.c p.u p.o _ _ _ _ W hb (jqs hI hR h0.1 hb).1
   have hI':keepI (S.sendK p).2:=by
    cases hb:p.ok
    ·have e:(S.sendK p).2=S:=by unfold Sal.sendK;rw [hb];rfl
     rw [e];exact hI
    ·exact (jqs hI hR h0.1 hb).2
   refine (jzv x p.n p.k p.t p.c p.u p.o (S.sendK p).1.kind (S.sendK p).1.order (S.sendK p).1.cents (S.sendK p).1.upto w own (fun W o=>PSW W x o S) (fun W o=>PSW W x o (S.sendK p).2) (jm5 _ _) (jm5 _ _) h1 hbne (fun W ba bl bc=>jai W ba bl bc p.bytes) hS HF hSend hfit).mono ?_
   rintro e w' ⟨rfl,hq⟩
   exact ⟨rfl,jb7 hq (fun W o hp=>⟨hp,jv6 hJ p,hI'⟩)⟩
 ·rw [if_neg hs]
  refine (qbi x p.n p.k p.t p.c p.u p.o w own (fun W o=>PSW W x o S) (jm5 _ _) h1 (fun W=>?_)).mono ?_
  ·have:=jrv p.k p.t p.c p.u p.o W
   rw [show (decide (0<=p.k) && decide (p.k<256))=false by simpa using hs] at this
   exact this
  ·rintro e w' ⟨rfl,hq⟩
   exact ⟨rfl,jb7 hq (fun W o hp=>⟨hp,hJ,hI⟩)⟩
end
end
theorem jrk (n0 n1 n2 n3 n4 n5 n6:Int) (a:Option Addr) (len cap:Nat) (ts:List (Int × Int)) (w:World) (h:tiersAt w a len cap ts) :
 Calls Tryz.prog 27 #[.agg #[iv n0,iv n1,iv n2,iv n3,iv n4,iv n5,iv n6,.slice a len cap]] w fun e w'=>e=.returned (.bool (jh2 [n0,n1,n2,n3,n4,n5,n6] ts))/\Below w.heap.size w w':=by
 have HC:Hid (∀ W,Below w.heap.size w W->Calls Tryz.prog 57 #[.agg #[iv n0,iv n1,iv n2,iv n3,iv n4,iv n5,iv n6,.slice a len cap]] W fun e w'=>e=.returned (iv (jww (jh2 [n0,n1,n2,n3,n4,n5,n6] ts)))/\Below W.heap.size W w'):=fun W hW=>jvu n0 n1 n2 n3 n4 n5 n6 a len cap ts W (h.below hW (Nat.le_refl _))
 clear h
 generalize jh2 [n0,n1,n2,n3,n4,n5,n6] ts=bb at HC ⊢
 cases bb
 all_goals
  simp only [jww,if_true,Bool.false_eq_true,if_false] at HC
  go_enter Tryz.func27,Tryz.ntmps27
  go_wp2_with fail
  refine (HC.out _ bL).mono ?_
  rintro e w1 ⟨rfl,b1⟩
  have hb1:Below w.heap.size w w1:=Below.trans (show Below w.heap.size w _ from bL) (b1.mono (by simp))
  clear b1
  go_wp2
  go_ret
  exact ⟨rfl,bL⟩
theorem je2 {w:World} {R:Nat} {c0 c1 c2 c3 c4 c5 c6 c7 c8:Value} {T:TypeId} (h:w.heap[R]?=some (.cells #[c0,c1,c2,c3,c4,c5,c6,c7,c8] T (0,0))):w.cell? (aq R 0)=some c0/\w.cell? (aq R 1)=some c1/\w.cell? (aq R 2)=some c2/\w.cell? (aq R 3)=some c3/\w.cell? (aq R 4)=some c4/\w.cell? (aq R 5)=some c5/\w.cell? (aq R 6)=some c6/\w.cell? (aq R 7)=some c7/\w.cell? (aq R 8)=some c8:=by
 refine ⟨?_,?_,?_,?_,?_,?_,?_,?_,?_⟩<;>rw [Joins.cell_of_block h]<;>rfl
theorem Same.toBelow {own:Nat->Prop} {B:Nat} {w w':World} (h:Same own w w') (hB:B<=w.heap.size) (ho:∀ k,own k->B<=k):Below B w w':=⟨h.os,h.tape,h.output,h.size,fun k hk=>h.block k (by omega) (fun e=>by have:=ho k e;omega)⟩
theorem juo (n0 n1 n2 n3 n4 n5 n6 f0 c0:Int) (b off len cap:Nat) (w:World) (hb:b<w.heap.size) (hl:1<=len) (hl4:len<=4) (hp0:w.cell? (aq b off)=some (iv f0)) (hp1:w.cell? (aq b (off+1))=some (iv c0)) (P0 P1:Nat->World->(Nat->Prop)->Prop) (K0:∀ x,Keeps (P0 x)) (Fr:World->Option Addr->Nat->Nat->Prop)
 (HO:Hid (∀ W,Below w.heap.size w W->Calls Tryz.prog 26 #[.agg #[iv n0,iv n1,iv n2,iv n3,iv n4,iv n5,iv n6,.slice (some (aq b off)) len cap]] W fun e w'=>∃ x own,e=.returned (.tuple #[pt x 0,iv 0])/\P0 x w' own/\(∀ k,own k->W.heap.size<=k)/\Below W.heap.size W w'))
 (HF:Hid (∀ W,Calls Tryz.prog 34 #[.agg #[iv 1,iv 1,iv 1,iv 1,iv 0]] W fun e w'=>∃ ba bl bc,e=.returned (.slice ba bl bc)/\Fr w' ba bl bc/\Below W.heap.size W w'))
 (HSend:Hid (∀ x W o ba bl bc,P0 x W o->Fr W ba bl bc->Calls Tryz.prog 33 #[pt x 0,.slice ba bl bc] W fun e w'=>e=.returned (.agg #[iv 2,iv 1,iv c0,iv n3])/\jap (P1 x) W w' o)) :
 Calls Tryz.prog 28 #[.agg #[iv n0,iv n1,iv n2,iv n3,iv n4,iv n5,iv n6,.slice (some (aq b off)) len cap]] w fun e w'=>e=.returned (.bool true)/\Below w.heap.size w w':=by
 have HP0:Hid _:=hp0
 have HP1:Hid _:=hp1
 go_enter Tryz.func28,Tryz.ntmps28
 go_wp2_with fail
 refine (HO.out _ bL).mono ?_
 rintro e w1 ⟨x,own,rfl,hp,hfr,b1⟩
 have hz1:w.heap.size+1<=w1.heap.size:=Nat.le_trans (by simp) b1.size
 have hb1:Below w.heap.size w w1:=Below.trans (show Below w.heap.size w _ from bL) (b1.mono (by simp))
 have hfr1:Hid (∀ k,own k->w.heap.size+1<=k):=fun k e=>Nat.le_trans (by simp) (hfr k e)
 have cb1:=(b1.block w.heap.size (by simp)).trans (heap_alloc_new w _)
 have q0:=(hb1.cell (p:=(aq b off)) hb).trans hp0
 have q1:=(hb1.cell (p:=(aq b (off+1))) hb).trans hp1
 replace hp:Hid (P0 x w1 own):=hp
 replace hb1:Hid _:=hb1
 have e3:w1.cell? (aq w.heap.size 3)=some (iv n3):=by rw [Joins.cell_of_block cb1];rfl
 have e7:w1.cell? (aq w.heap.size 7)=some (.slice (some (aq b off)) len cap):=by rw [Joins.cell_of_block cb1];rfl
 replace cb1:Hid _:=cb1
 have bl0:¬ (len:Int)=0:=by omega
 have bl1:(0:Int)<(len:Int):=by omega
 have hbw1:b<w1.heap.size:=Nat.lt_of_lt_of_le hb hb1.out.size
 clear b1 hfr HO
 go_wp2_with fail
 refine (HF.out _).mono ?_
 rintro e w2 ⟨ba,bl,bc,rfl,hFr,b2⟩
 have hp2:Hid (P0 x w2 own):=(K0 x).keep hp.out b2.size (fun k e=>b2.block k ((K0 x).lt hp.out k e))
 have hb2:Hid (Below w.heap.size w w2):=hb1.out.trans (b2.mono hb1.out.size)
 have cb2:Hid _:=(b2.block _ (blt cb1.out)).trans cb1.out
 clear e3 e7 q0 q1 hbw1 hp cb1 hb1 b2 HF hp0 hp1
 go_wp2_with fail
 refine (HSend.out x _ own ba bl bc hp2.out hFr).mono ?_
 rintro e w3 ⟨rfl,o3,_,hs3,_⟩
 have hb3:Hid (Below w.heap.size w w3):=hb2.out.trans (hs3.toBelow hb2.out.size (fun k e=>by have:=hfr1.out k e;omega))
 have cb3:Hid _:=(hs3.block w.heap.size (blt cb2.out) (fun e=>by have:=hfr1.out _ e;omega)).trans cb2.out
 have e3:w3.cell? (aq w.heap.size 3)=some (iv n3):=by rw [Joins.cell_of_block cb3.out];rfl
 have e7:w3.cell? (aq w.heap.size 7)=some (.slice (some (aq b off)) len cap):=by rw [Joins.cell_of_block cb3.out];rfl
 have q0:=(hb3.out.cell (p:=(aq b off)) hb).trans HP0.out
 have q1:=(hb3.out.cell (p:=(aq b (off+1))) hb).trans HP1.out
 have hbw3:b<w3.heap.size:=Nat.lt_of_lt_of_le hb hb3.out.size
 have hww3:w.heap.size<w3.heap.size:=(blt cb3.out)
 clear hs3 hFr hp2 hb2 cb2 HSend
 go_wp2_with fail
 go_quiet (fail)
 go_wp2
 refine bodyPost_ret (v:=.bool true) (by simp [results,Tryz.results28,go_sem]) rfl ⟨rfl,?_⟩
 repeat (first|exact hb3.out|refine Below.drew ?_|refine jaf ?_|refine Below.alloc ?_ (by omega) _)
theorem jxg (n0 n1 n2 n3 n4 n5 n6:Int) (a sa:Option Addr) (len cap sl sc:Nat) (w:World)
 (HO:Hid (∀ W,Below w.heap.size w W->Calls Tryz.prog 26 #[.agg #[iv n0,iv n1,iv n2,iv n3,iv n4,iv n5,iv n6,.slice a len cap]] W fun e w'=>e=.returned (.tuple #[.pointer none,iv 1])/\Below W.heap.size W w'))
 (HR:Hid (∀ W,Below w.heap.size w W->Calls Tryz.prog 27 #[.agg #[iv n0,iv n1,iv n2,iv n3,iv n4,iv n5,iv n6,.slice a len cap]] W fun e w'=>e=.returned (.bool false)/\Below W.heap.size W w')) :
 Calls Tryz.prog 13 #[.agg #[iv n0,iv n1,iv n2,iv n3,iv n4,iv n5,iv n6,.slice a len cap,.slice sa sl sc]] w fun e w'=>e=.returned (.tuple #[.pointer none,.bool true])/\Below w.heap.size w w':=by
 go_enter Tryz.func13,Tryz.ntmps13
 go_wp2_with fail
 refine (HO.out _ bL).mono ?_
 rintro e w1 ⟨rfl,b1⟩
 have hb1:Hid (Below w.heap.size w w1):=Below.trans (show Below w.heap.size w _ from bL) (b1.mono (by simp))
 have cb1:=(b1.block w.heap.size (by simp)).trans (heap_alloc_new w _)
 obtain ⟨k0,k1,k2,k3,k4,k5,k6,k7,k8⟩:=je2 cb1
 have l1:w.heap.size<w1.heap.size:=(blt cb1)
 clear b1 HO cb1
 go_wp2_with fail
 refine (HR.out _ hb1.out).mono ?_
 rintro e w2 ⟨rfl,b2⟩
 have hb2:Hid (Below w.heap.size w w2):=hb1.out.trans (b2.mono hb1.out.size)
 clear b2 hb1 HR k0 k1 k2 k3 k4 k5 k6 k7 k8
 go_wp2
 refine bodyPost_ret (v:=.tuple #[.pointer none,.bool true]) (by simp [results,Tryz.results13,go_sem]) rfl ⟨rfl,?_⟩
 repeat (first|exact hb2.out|refine Below.drew ?_|refine jaf ?_)
theorem jyl (n0 n1 n2 n3 n4 n5 n6:Int) (a sa:Option Addr) (len cap sl sc:Nat) (w:World) (P0:Nat->World->(Nat->Prop)->Prop) (K0:∀ x,Keeps (P0 x))
 (HO:Hid (∀ W,Below w.heap.size w W->Calls Tryz.prog 26 #[.agg #[iv n0,iv n1,iv n2,iv n3,iv n4,iv n5,iv n6,.slice a len cap]] W fun e w'=>∃ x own,e=.returned (.tuple #[pt x 0,iv 0])/\P0 x w' own/\(∀ k,own k->W.heap.size<=k)/\Below W.heap.size W w'))
 (HR:Hid (∀ W,Below w.heap.size w W->Calls Tryz.prog 27 #[.agg #[iv n0,iv n1,iv n2,iv n3,iv n4,iv n5,iv n6,.slice a len cap]] W fun e w'=>e=.returned (.bool true)/\Below W.heap.size W w'))
 (HS:Hid (∀ W,Below w.heap.size w W->Calls Tryz.prog 28 #[.agg #[iv n0,iv n1,iv n2,iv n3,iv n4,iv n5,iv n6,.slice a len cap]] W fun e w'=>e=.returned (.bool true)/\Below W.heap.size W w')) :
 Calls Tryz.prog 13 #[.agg #[iv n0,iv n1,iv n2,iv n3,iv n4,iv n5,iv n6,.slice a len cap,.slice sa sl sc]] w fun e w'=>∃ x own,e=.returned (.tuple #[pt x 0,.bool true])/\P0 x w' own/\(∀ k,own k->w.heap.size<=k)/\Below w.heap.size w w':=by
 go_enter Tryz.func13,Tryz.ntmps13
 go_wp2_with fail
 refine (HO.out _ bL).mono ?_
 rintro e w1 ⟨x,own,rfl,hp,hfr,b1⟩
 have hb1:Hid (Below w.heap.size w w1):=Below.trans (show Below w.heap.size w _ from bL) (b1.mono (by simp))
 have hfr1:Hid (∀ k,own k->w.heap.size<=k):=fun k e=>Nat.le_trans (by simp) (hfr k e)
 have cb1:=(b1.block w.heap.size (by simp)).trans (heap_alloc_new w _)
 obtain ⟨k0,k1,k2,k3,k4,k5,k6,k7,k8⟩:=je2 cb1
 have l1:w.heap.size<w1.heap.size:=(blt cb1)
 replace hp:Hid (P0 x w1 own):=hp
 replace cb1:Hid _:=cb1
 clear b1 HO hfr
 go_wp2_with fail
 refine (HR.out _ hb1.out).mono ?_
 rintro e w2 ⟨rfl,b2⟩
 have hb2:Hid (Below w.heap.size w w2):=hb1.out.trans (b2.mono hb1.out.size)
 have hp2:Hid (P0 x w2 own):=(K0 x).keep hp.out b2.size (fun k e=>b2.block k ((K0 x).lt hp.out k e))
 have cb2:=(b2.block w.heap.size l1).trans cb1.out
 clear b2 hb1 HR k0 k1 k2 k3 k4 k5 k6 k7 k8 hp l1 cb1
 obtain ⟨k0,k1,k2,k3,k4,k5,k6,k7,k8⟩:=je2 cb2
 have l2:w.heap.size<w2.heap.size:=(blt cb2)
 clear cb2
 go_wp2_with fail
 refine (HS.out _ hb2.out).mono ?_
 rintro e w3 ⟨rfl,b3⟩
 have hb3:Hid (Below w.heap.size w w3):=hb2.out.trans (b3.mono hb2.out.size)
 have hp3:Hid (P0 x w3 own):=(K0 x).keep hp2.out b3.size (fun k e=>b3.block k ((K0 x).lt hp2.out k e))
 clear b3 hb2 hp2 k0 k1 k2 k3 k4 k5 k6 k7 k8 HS
 go_wp2
 refine bodyPost_ret (v:=.tuple #[pt x 0,.bool true]) (by simp [results,Tryz.results13,go_sem]) rfl ⟨x,own,rfl,hp3.out,hfr1.out,?_⟩
 exact hb3.out
structure OpenOK (PS:World->Nat->(Nat->Prop)->Sal->Prop):Prop where
 no:∀ {w:World} {n0 n1 n2 n3 n4 n5 n6:Int} {a:Option Addr} {len cap:Nat} {ts:List (Int × Int)},tiersAt w a len cap ts->jh2 [n0,n1,n2,n3,n4,n5,n6] ts=false->Calls Tryz.prog 26 #[.agg #[iv n0,iv n1,iv n2,iv n3,iv n4,iv n5,iv n6,.slice a len cap]] w fun e w'=>e=.returned (.tuple #[.pointer none,iv 1])/\Below w.heap.size w w'
 yes:∀ {w:World} {n0 n1 n2 n3 n4 n5 n6:Int} {a:Option Addr} {len cap:Nat} {ts:List (Int × Int)},tiersAt w a len cap ts->jh2 [n0,n1,n2,n3,n4,n5,n6] ts=true->Calls Tryz.prog 26 #[.agg #[iv n0,iv n1,iv n2,iv n3,iv n4,iv n5,iv n6,.slice a len cap]] w fun e w'=>∃ x own,e=.returned (.tuple #[pt x 0,iv 0])/\PS w' x own ⟨⟨n0,n1,n2,n3,n4,n5,n6,ts⟩,0,[],[]⟩/\(∀ k,own k->w.heap.size<=k)/\Below w.heap.size w w'
end Go.Proofs.YtfhncfghblkgeaaGreat
