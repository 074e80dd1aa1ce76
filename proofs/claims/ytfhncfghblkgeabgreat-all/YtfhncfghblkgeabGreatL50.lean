import Derived.Test.YtfhncfghblkgeabGreatL48
import Derived.Test.YtfhncfghblkgeabGreatL49
set_option maxRecDepth 100000
set_option maxHeartbeats 2000000
namespace Go.Proofs.YtfhncfghblkgeabGreat
open Go.RowKit
section
section
variable {w W W':World} {x:Nat} {own loc:Nat->Prop} {V:PV} {P':World->(Nat->Prop)->Prop}
theorem sE {o1:Nat->Prop} (a2:Same own w W) (a3:∀ k,o1 k->own k\/(w.heap.size<=k/\¬ loc k)) (a4:∀ k,loc k->w.heap.size<=k/\k<W.heap.size) (h:zQ P' W W' o1):qX P' w own loc W':=by
 obtain ⟨o2,b1,b2,b3⟩:=h
 have z1:=a2.size
 have z2:=b2.size
 exact ⟨o2,b1,Same.trans a2 b2 (fun k hk e=>e.elim id (fun e=>(a3 k e).elim id (fun e=>uO))),fun k e=>(b3 k e).elim (a3 k) (fun e=>.inr ⟨uO,fun c=>by have:=(a4 k c).2;omega⟩),fun k e=>⟨(a4 k e).1,by have:=(a4 k e).2;omega⟩⟩
theorem YM (h:QE W x own V) (t:Int) (hl:V.tl.length<=4294967296) :
 Ca 101 #[pt V.tw 0,iv t] W fun e w'=>∃ da dc,e=.returned (.tuple #[.slice da (fE V.tn t V.tl).length dc,iv (Zw V.tn t)])/\zQ (kM (pv x { V with tn:=aT V.tn t,tl:=mU V.tn t V.tl }) da (fE V.tn t V.tl)) W w' own:=by
 obtain ⟨g,h⟩:=h
 refine (nM t h.tw uO).mono ?_
 rintro e w' ⟨out,two',rfl,a1,a2,a3,a4,a5,a6⟩
 obtain ⟨da,dc,rfl,b1,b2⟩:=Na a1
 have hz:=a4.size
 have hm:=h.turnT0 a3 a4 a5
 refine ⟨da,dc,rfl,fun k=>(own k\/two' k)\/∃ off,da=some (aq k off),⟨fun k=>own k\/two' k,⟨_,hm⟩,fun k e=>.inl e,b1,fun k=>⟨fun e=>⟨.inr e,?_⟩,fun e=>e.1.elim (fun c=>absurd c e.2) id⟩,fun k e=>?_⟩,⟨a4.os,a4.tape,a4.output,a4.size,fun k hk hn=>a4.block k hk (fun e=>hn (h.fp k (.inl e)))⟩,fun k e=>?_⟩
 ·obtain ⟨off,e⟩:=e
  obtain ⟨c1,c2,c3⟩:=b2 k off e
  rintro (d|d)
  ·have:=h.lt k d;omega
  ·exact a6 k c3 d
 ·rcases e with e|⟨off,e⟩
  ·exact hm.lt k e
  ·exact (b2 k off e).2.1
 ·rcases e with (e|e)|⟨off,e⟩
  ·exact .inl e
  ·exact (a5 k e).imp (fun e=>h.fp k (.inl e)) id
  ·exact .inr (b2 k off e).1
theorem YE (h:QE W x own V) (t:Int) (hl:V.atl.length<=4294967296) :
 Ca 101 #[pt V.aw 0,iv t] W fun e w'=>∃ da dc,e=.returned (.tuple #[.slice da (fE V.an t V.atl).length dc,iv (Zw V.an t)])/\zQ (kM (pv x { V with an:=aT V.an t,atl:=mU V.an t V.atl }) da (fE V.an t V.atl)) W w' own:=by
 obtain ⟨g,h⟩:=h
 refine (nM t h.aw uO).mono ?_
 rintro e w' ⟨out,two',rfl,a1,a2,a3,a4,a5,a6⟩
 obtain ⟨da,dc,rfl,b1,b2⟩:=Na a1
 have hz:=a4.size
 have hm:=h.turnA0 a3 a4 a5
 refine ⟨da,dc,rfl,fun k=>(own k\/two' k)\/∃ off,da=some (aq k off),⟨fun k=>own k\/two' k,⟨_,hm⟩,fun k e=>.inl e,b1,fun k=>⟨fun e=>⟨.inr e,?_⟩,fun e=>e.1.elim (fun c=>absurd c e.2) id⟩,fun k e=>?_⟩,⟨a4.os,a4.tape,a4.output,a4.size,fun k hk hn=>a4.block k hk (fun e=>hn (h.fp k (.inr (.inl e))))⟩,fun k e=>?_⟩
 ·obtain ⟨off,e⟩:=e
  obtain ⟨c1,c2,c3⟩:=b2 k off e
  rintro (d|d)
  ·have:=h.lt k d;omega
  ·exact a6 k c3 d
 ·rcases e with e|⟨off,e⟩
  ·exact hm.lt k e
  ·exact (b2 k off e).2.1
 ·rcases e with (e|e)|⟨off,e⟩
  ·exact .inl e
  ·exact (a5 k e).imp (fun e=>h.fp k (.inr (.inl e))) id
  ·exact .inr (b2 k off e).1
end
theorem Oj {D:List (Int × Int)} (h:xB D) {i j:Nat} (hi:i<D.length) (hj:j<D.length) (e:(D.getD i (0,0)).2=(D.getD j (0,0)).2):i=j:=by
 have hp:=(List.pairwise_iff_getElem).1 (show (D.map (·.2)).Pairwise (·≠·) from h)
 have gi:(D.getD i (0,0)).2=(D.map (·.2))[i]'(by simpa using hi):=by simp [List.getD,uD hi]
 have gj:(D.getD j (0,0)).2=(D.map (·.2))[j]'(by simpa using hj):=by simp [List.getD,uD hj]
 rw [gi,gj] at e
 rcases Nat.lt_trichotomy i j with c|c|c
 ·exact absurd e (hp i j _ _ c)
 ·exact c
 ·exact absurd e.symm (hp j i _ _ c)
theorem Ox {now t:Int} {L:List (Int × Int)} (h:xB L):xB (fE now t L):=by
 unfold fE
 split
 ·unfold xB;simp
 ·exact aL (fZ t _ L rfl).2.1.symm (vZ _ h)
section
variable {w W:World} {x:Nat} {own:Nat->Prop} {V:PV} {S:Sal} {last:Nat} {an t:Int}
def fY (S:Sal) (D:List (Int × Int)) (j k:Nat):Prop:=S.knows k/\((S.os.getD k qD).alive\/∀ i,i<j->(D.getD i (0,0)).2≠(k:Int)+1)
def QM (an t:Int) (x:Nat) (S:Sal) (last:Nat) (K:Nat->Prop) (w:World) (own:Nat->Prop):Prop:=∃ V,QE w x own V/\relO V ({ S with now:=t }:Sal) last K/\relA V.an V.atl V.att V.al S.C.keep S.ansL/\V.an=an/\V.tn=t
theorem ZB (an t:Int) (x:Nat) (S:Sal) (last:Nat) (K:Nat->Prop):Keeps (QM an t x S last K):=⟨fun ⟨_,h,_⟩=>fF h,fun ⟨V,h,hr⟩ hz hk=>⟨V,dX h hz hk,hr⟩⟩
theorem YW (h:QE W x own V):x<W.heap.size:=by
 obtain ⟨g,h⟩:=h
 exact h.xw
theorem Sf (h:QA an x S last W own):x<W.heap.size:=by
 obtain ⟨V,h,_⟩:=h
 exact YW h
theorem Nl (da:Option Addr) (dc:Nat) (D:List (Int × Int)) (hlen:S.os.length<=4294967296) (hR:restS S) (ht:S.now<t) (tn:Int) (htn:tn<=S.now) (hO:xB D) (hn:D.length<=4294967296)
 (hD:∀ p,p∈D↔∃ i,S.knows i/\tn<(S.os.getD i qD).untl S.C/\(S.os.getD i qD).untl S.C<=t/\p=((S.os.getD i qD).untl S.C,(i:Int)+1))
 (h:QM an t x S last S.knows W own) (hd:Bq W da D) (hdis:∀ b off,da=some (aq b off)->¬ own b) :
 Ca 102 #[pt x 0,.slice da D.length dc] W fun e w'=>e=.returned (.tuple #[])/\zQ (QA an x ({ S with now:=t }:Sal) last) W w' own:=by
 have hat:∀ j,j<D.length->∃ i,S.knows i/\tn<(S.os.getD i qD).untl S.C/\(S.os.getD i qD).untl S.C<=t/\D.getD j (0,0)=((S.os.getD i qD).untl S.C,(i:Int)+1):=fun j hj=>(hD _).1 (gL hj)
 have hij:∀ j,j<D.length->S.knows ((D.getD j (0,0)).2 - 1).toNat/\(S.os.getD ((D.getD j (0,0)).2 - 1).toNat qD).untl S.C<=t/\(D.getD j (0,0)).2=(((D.getD j (0,0)).2 - 1).toNat:Int)+1:=fun j hj=>by
  obtain ⟨i,h1,h2,h3,h4⟩:=hat j hj
  have e:((D.getD j (0,0)).2 - 1).toNat=i:=by rw [h4];simp
  rw [e]
  exact ⟨h1,h3,by rw [h4]⟩
 have hK:∀ j,j<D.length->fY S D j ((D.getD j (0,0)).2 - 1).toNat:=fun j hj=>by
  obtain ⟨a,b,c⟩:=hij j hj
  exact ⟨a,.inr (fun i hi e=>by
   have:=Oj hO (i:=i) (j:=j) uO hj (e.trans c.symm)
   omega)⟩
 have h0:QM an t x S last (fY S D 0) W own:=by
  have e:fY S D 0=S.knows:=by
   funext k
   exact propext ⟨fun c=>c.1,fun c=>⟨c,.inr (fun i hi=>uO)⟩⟩
  rw [e];exact h
 refine (Js x dc da D W own (fun j=>QM an t x S last (fY S D j)) (fun j=>ZB _ _ _ _ _ _) (fun j=>zO S.C ((D.getD j (0,0)).2 - 1).toNat (S.os.getD ((D.getD j (0,0)).2 - 1).toNat qD)) (fun _=>true) (fun j=>((S.os.getD ((D.getD j (0,0)).2 - 1).toNat qD).state != 13 && (S.os.getD ((D.getD j (0,0)).2 - 1).toNat qD).state != 12)) h0 hn ?_ (fun W' hs=>iL hd hs hdis) ?_ ?_ ?_ ?_).mono ?_
 ·rintro j loc W' ⟨o1,⟨V,hm,_⟩,_⟩
  exact YW hm
 ·rintro j loc W' hj ⟨o1,⟨V,hm,hr,_⟩,_⟩
  obtain ⟨q,h1,h2⟩:=hr.known (hK j hj)
  have:=wP hm hr.ls.srt h2 h1
  rw [← (hij j hj).2.2] at this
  exact this
 ·intro j W' hj
  exact Dq _ _ _ _ _ _ W'
 ·intro j hj _ he loc W' hT
  refine qS (ZB _ _ _ _ _ _ |>.lt h) (fun W1 o1 hq=>?_) W' hT
  obtain ⟨V,hm,hr,ha,han,htn'⟩:=hq
  obtain ⟨q,h1,h2⟩:=hr.known (hK j hj)
  have hql:=(List.getElem?_eq_some_iff.1 h1).1
  obtain ⟨z,hz⟩:∃ z,V.ol[V.ol.length - 1]?=some z:=⟨V.ol[V.ol.length - 1],uD uO⟩
  have hol:V.ol.length<=S.os.length:=hr.olen
  obtain ⟨a,b,c⟩:=hij j hj
  have hna:¬ (S.os.getD ((D.getD j (0,0)).2 - 1).toNat qD).alive:=by
   simp only [Bool.and_eq_true,bne_iff_ne,ne_eq] at he
   rintro (c|c)
   ·exact he.2 c
   ·exact he.1 c
  refine (Rm hm hr.ls uO (fJ hr.ls) h1 hz).mono ?_
  rintro e w' ⟨rfl,rm,o2,p1,p2,p3⟩
  refine ⟨rfl,o2,⟨_,p1,?_,ha,han,htn'⟩,p2,p3⟩
  have hfin:=hr.drop hna (by rw [htn'];exact b) h1 hz rm
  have e:fY S D (j+1)=fun k=>fY S D j k/\k≠((D.getD j (0,0)).2 - 1).toNat:=by
   funext k
   refine propext ⟨fun ⟨d1,d2⟩=>⟨⟨d1,d2.imp id (fun d2 i hi=>d2 i uO)⟩,fun e=>?_⟩,fun ⟨⟨d1,d2⟩,d3⟩=>⟨d1,d2.imp id (fun d2 i hi=>?_)⟩⟩
   ·rcases d2 with d2|d2
    ·rw [e] at d2;exact hna d2
    ·exact d2 j uO (by rw [e];exact c)
   ·by_cases ei:i=j
    ·rw [ei,c];intro e;apply d3;omega
    ·exact d2 i uO
  rw [e]
  exact hfin
 ·intro j hj hne W' o' hq
  have e:fY S D (j+1)=fY S D j:=by
   obtain ⟨a,b,c⟩:=hij j hj
   have hal:(S.os.getD ((D.getD j (0,0)).2 - 1).toNat qD).alive:=by
    refine Classical.byContradiction fun hc=>hne ⟨rfl,?_⟩
    simp only [Bool.and_eq_true,bne_iff_ne,ne_eq]
    exact ⟨fun e=>hc (.inr e),fun e=>hc (.inl e)⟩
   funext k
   refine propext ⟨fun ⟨d1,d2⟩=>⟨d1,d2.imp id (fun d2 i hi=>d2 i uO)⟩,fun ⟨d1,d2⟩=>⟨d1,?_⟩⟩
   by_cases ek:k=((D.getD j (0,0)).2 - 1).toNat
   ·rw [ek];exact .inl hal
   ·refine d2.imp id (fun d2 i hi=>?_)
    by_cases ei:i=j
    ·rw [ei,c];omega
    ·exact d2 i uO
  rw [e]
  exact hq
 ·rintro e w' ⟨rfl,hq⟩
  refine ⟨rfl,tN hq (fun W' o' hp=>?_)⟩
  obtain ⟨V,hm,hr,ha,han,_⟩:=hp
  refine ⟨V,hm,?_,ha,han⟩
  have e:({ S with now:=t }:Sal).knows=fY S D D.length:=by
   funext k
   refine propext ((cR uO k).trans ⟨fun ⟨d1,d2⟩=>⟨d1,?_⟩,fun ⟨d1,d2⟩=>⟨d1,?_⟩⟩)
   ·refine d2.imp id (fun d2 i hi e=>?_)
    obtain ⟨i',h1,h2,h3,h4⟩:=hat i hi
    rw [h4] at e
    have:i'=k:=by simp at e;omega
    subst this
    omega
   ·refine Classical.or_iff_not_imp_left.2 (fun hna=>?_)
    have d2:=d2.resolve_left hna
    refine Int.lt_of_not_ge (fun hle=>?_)
    have hm':=(hD ((S.os.getD k qD).untl S.C,(k:Int)+1)).2 ⟨k,d1,by have:=rU hR d1;omega,hle,rfl⟩
    obtain ⟨i,hi,e⟩:=List.getElem_of_mem hm'
    exact d2 i hi (by simp [List.getD,uD hi,e])
  rw [e]
  exact hr
theorem bE {S:Sal} (hK:saleK S) {st en:Int} (hen:en≠12/\en≠13/\en≠14):∀ (ds:List Nat) ,(∀ d∈ds,d<S.os.length)->saleK (gV S st en ds):=by
 intro ds
 induction ds generalizing S with
 | nil=>intro _;exact hK
 | cons d ds ih =>
   intro h
   have e:gV S st en (d :: ds)=gV (if (S.os.getD d qD).state=st then S.ends d en else S) st en ds:=rfl
   rw [e]
   split
   ·exact ih (hK.ends (h d List.mem_cons_self) en (.inr hen) (fun c=>absurd c hen.2.2)) (fun x hx=>by rw [jU];exact h x (List.mem_cons_of_mem _ hx))
   ·exact ih hK (fun x hx=>h x (List.mem_cons_of_mem _ hx))
def kQ (D:List (Int × Int)):List Nat:=D.map (fun p=>(p.2 - 1).toNat)
open Classical in
theorem Pi (da:Option Addr) (dc:Nat) (D:List (Int × Int)) (hK:saleK S) (hn:D.length<=4294967296) (fr into:Int) (hfr:fr=12\/fr=13) (hin:into≠12/\into≠13/\into≠14)
 (hD:∀ p∈D,1<=p.2/\(p.2 - 1).toNat<S.os.length)
 (h:QA an x S last W own) (hd:Bq W da D) (hdis:∀ b off,da=some (aq b off)->¬ own b) :
 Ca 103 #[pt x 0,.slice da D.length dc,iv fr,iv into] W fun e w'=>e=.returned (.tuple #[])/\zQ (QA an x (gV S fr into (kQ D)) last) W w' own:=by
 have hat:∀ j,j<D.length->1<=(D.getD j (0,0)).2/\((D.getD j (0,0)).2 - 1).toNat<S.os.length:=fun j hj=>hD _ (gL hj)
 have htk:∀ j,j<D.length->(kQ D).take (j+1)=(kQ D).take j++[((D.getD j (0,0)).2 - 1).toNat]:=fun j hj=>by
  unfold kQ
  rw [← List.map_take,← List.map_take,Yl D hj,List.map_append]
  rfl
 have hin':∀ d∈kQ D,d<S.os.length:=fun d hd=>by
  obtain ⟨p,hp,rfl⟩:=List.mem_map.1 hd
  exact (hD p hp).2
 have hKj:∀ j,saleK (gV S fr into ((kQ D).take j)):=fun j=>bE hK hin _ (fun d hd=>hin' d (List.mem_of_mem_take hd))
 have hlj:∀ j,(gV S fr into ((kQ D).take j)).os.length=S.os.length:=fun j=>(iU fr into _ S).2.2.2
 have hlen:(kQ D).length=D.length:=by unfold kQ;simp
 refine (Bg x dc da D fr into W own (fun j=>QA an x (gV S fr into ((kQ D).take j)) last) (fun j=>yQ _ _ _ _)
  (fun j=>if (gV S fr into ((kQ D).take j)).knows ((D.getD j (0,0)).2 - 1).toNat then zO (gV S fr into ((kQ D).take j)).C ((D.getD j (0,0)).2 - 1).toNat ((gV S fr into ((kQ D).take j)).os.getD ((D.getD j (0,0)).2 - 1).toNat qD) else pord0)
  (fun j=>decide ((gV S fr into ((kQ D).take j)).knows ((D.getD j (0,0)).2 - 1).toNat))
  (fun j=>POrd.val ⟨(((D.getD j (0,0)).2 - 1).toNat:Int)+1,((gV S fr into ((kQ D).take j)).os.getD ((D.getD j (0,0)).2 - 1).toNat qD).cust,((gV S fr into ((kQ D).take j)).os.getD ((D.getD j (0,0)).2 - 1).toNat qD).units,into,((gV S fr into ((kQ D).take j)).os.getD ((D.getD j (0,0)).2 - 1).toNat qD).cents,(gV S fr into ((kQ D).take j)).now+(gV S fr into ((kQ D).take j)).C.keep⟩)
  h hn ?_ (fun W' hs=>iL hd hs hdis) ?_ ?_ ?_).mono ?_
 ·rintro j loc W' ⟨o1,hp,_⟩
  exact Sf hp
 ·rintro j loc W' hj ⟨o1,hp,_⟩
  obtain ⟨a,b⟩:=hat j hj
  by_cases hk:(gV S fr into ((kQ D).take j)).knows ((D.getD j (0,0)).2 - 1).toNat
  ·have:=Bc hp hk
   rw [show (((D.getD j (0,0)).2 - 1).toNat:Int)+1=(D.getD j (0,0)).2 by omega] at this
   simp only [uQ hk,decide_eq_true hk]
   exact this
  ·simp only [uP hk,decide_eq_false hk]
   exact sO hp (fun i hi e=>hk (by
    have:((D.getD j (0,0)).2 - 1).toNat=i:=uO
    rw [this];exact hi))
 ·intro j hj hk hs loc W' hT
  have hk':=of_decide_eq_true hk
  simp only [uQ hk'] at hs ⊢
  have hs':((gV S fr into ((kQ D).take j)).os.getD ((D.getD j (0,0)).2 - 1).toNat qD).state=fr:=by simpa [zO] using hs
  refine qS ((yQ an x S last).lt h) (fun W1 o1 hq=>?_) W' hT
  have:=Qs hq (hKj j) hk' into ⟨hin.1,hin.2.1⟩
  simp only [htk j hj,Qb]
  rw [uQ hs']
  exact this
 ·intro j hj hne W' o' hq
  simp only [htk j hj,Qb]
  rw [uP]
  ·exact hq
  ·intro hs
   have hk:(gV S fr into ((kQ D).take j)).knows ((D.getD j (0,0)).2 - 1).toNat:=⟨by rw [hlj];exact (hat j hj).2,.inl (by unfold Ord.alive;rw [hs];exact hfr)⟩
   refine hne ⟨decide_eq_true hk,?_⟩
   simp only [uQ hk]
   simpa [zO] using hs
 ·rintro e w' ⟨rfl,hq⟩
  refine ⟨rfl,?_⟩
  rw [show (kQ D).take D.length=kQ D from List.take_of_length_le uO] at hq
  exact hq
def QB (an:Int) (x:Nat) (last:Nat) (S:Sal) (t:Int) (w:World) (own:Nat->Prop):Prop:=∃ V,QE w x own V/\relO V ({ S with now:=t }:Sal) last S.knows/\relA V.an V.atl V.att V.al S.C.keep S.ansL/\V.an=an/\V.tn<=S.now
theorem ZI (an:Int) (x:Nat) (last:Nat) (S:Sal) (t:Int):Keeps (QB an x last S t):=⟨fun ⟨_,h,_⟩=>fF h,fun ⟨V,h,hr⟩ hz hk=>⟨V,dX h hz hk,hr⟩⟩
theorem YJ (hJ:salJ S) (hR:restP S) (hS:stopAt S t) (ht:t<=4611686018427387904) (h:QB an x last S t W own) :
 Ca 72 #[pt x 0] W fun e w'=>e=.returned (.tuple #[])/\zQ (QA an x (S.round t) last) W w' own:=by
 obtain ⟨V,hm,hr,ha,han,htn⟩:=h
 have hlt:=hS.later hR.R
 have hw:=fF hm
 have h0:=hJ.I.now
 have hT:aT V.tn t=t:=by unfold aT;rw [uP uO]
 have hdue:=hr.due (t:=t) uO
 have htl:V.tl.length<=4294967296:=by
  have h1:V.tl.length<=S.os.length:=hr.tlen
  have:=hJ.len
  omega
 have hr1:=hr.advance (t:=t) uO (Int.le_refl _)
 have hO:=Ox (now:=V.tn) (t:=t) hr.once
 have hDl:(fE V.tn t V.tl).length<=4294967296:=by
  refine uX ?_ htl
  unfold fE
  rw [uP uO]
  rw [(fZ t _ V.tl rfl).2.1.length_eq]
  exact List.length_filter_le _ _
 have hcell:∀ {W' o'},QE W' x o' V->x<W'.heap.size/\W'.cell? (aq x 10)=some (pt V.tw 0)/\W'.cell? (aq x 8)=some (iv t):=fun {W' o'} hp=>by
  obtain ⟨g,hp⟩:=hp
  refine ⟨hp.xw,hp.cell 10 _ rfl,?_⟩
  have:W'.cell? (aq x 8)=some (iv V.now):=hp.cell 8 _ rfl
  rw [hr.now] at this
  exact this
 have hids:∀ p∈fE V.tn t V.tl,1<=p.2/\(p.2 - 1).toNat<S.os.length:=fun p hp=>by
  obtain ⟨i,h1,_,_,rfl⟩:=(hdue p).1 hp
  exact ⟨by simp;omega,by simpa using h1.1⟩
 have hmem:∀ k,k∈kQ (fE V.tn t V.tl)↔S.knows k/\(S.os.getD k qD).untl S.C<=t:=fun k=>by
  unfold kQ
  rw [List.mem_map]
  constructor
  ·rintro ⟨p,hp,rfl⟩
   obtain ⟨i,h1,_,h3,rfl⟩:=(hdue p).1 hp
   have e:((i:Int)+1 - 1).toNat=i:=uO
   simp only [e]
   exact ⟨h1,h3⟩
  ·rintro ⟨h1,h2⟩
   refine ⟨_,(hdue _).2 ⟨k,h1,?_,h2,rfl⟩,by simp⟩
   have:=rU hR.R h1
   show V.tn<_
   exact Int.lt_of_le_of_lt htn this
 have hK0:saleK ({ S with now:=t }:Sal):=⟨cY hJ.I ⟨uO,ht⟩,hJ.len,hR.R.lease,hR.R.wait,hR.R.keep⟩
 have hdue12:∀ k,k<S.os.length->(S.os.getD k qD).alive->(k∈kQ (fE V.tn t V.tl)↔(S.os.getD k qD).upto=t):=fun k hk hal=>by
  have hm':=hS.alive _ (zG hk) hal
  rw [hmem,kI hal]
  constructor
  ·rintro ⟨_,h2⟩;omega
  ·intro e;exact ⟨⟨hk,.inl hal⟩,uO⟩
 have e1:gV ({ S with now:=t }:Sal) 13 15 (kQ (fE V.tn t V.tl))=zA ({ S with now:=t }:Sal) 13 15 ({ S with now:=t }:Sal).os.length :=
  Jb vO (fun d hd=>((hmem d).1 hd).1.1) (fun k hk hs=>hdue12 k hk (.inr hs))
 have hK1:saleK (zA ({ S with now:=t }:Sal) 13 15 ({ S with now:=t }:Sal).os.length):=by
  rw [← e1]
  exact bE hK0 vO _ (fun d hd=>((hmem d).1 hd).1.1)
 have hK2:saleK (({ S with now:=t }:Sal).past 13 15):=hK1.promote
 have hl2:(({ S with now:=t }:Sal).past 13 15).os.length=S.os.length:=tS _ 13 15
 have hn2:(({ S with now:=t }:Sal).past 13 15).now=t:=(fO _ 13 15).2.1
 have e2:gV (({ S with now:=t }:Sal).past 13 15) 12 17 (kQ (fE V.tn t V.tl))=zA (({ S with now:=t }:Sal).past 13 15) 12 17 (({ S with now:=t }:Sal).past 13 15).os.length :=
  Jb vO (fun d hd=>by rw [hl2];exact ((hmem d).1 hd).1.1) (fun k hk hs=>by
   rw [hl2] at hk
   have e:=Dr _ hs
   rw [e] at hs ⊢
   rw [hn2]
   exact hdue12 k hk (.inl hs))
 have hK3:saleK (zA (({ S with now:=t }:Sal).past 13 15) 12 17 (({ S with now:=t }:Sal).past 13 15).os.length):=by
  rw [← e2]
  exact bE hK2 vO _ (fun d hd=>by rw [hl2];exact ((hmem d).1 hd).1.1)
 refine Ly x V.tw t (Zw V.tn t) (fE V.tn t V.tl) W own (pv x V) (pv x { V with tn:=aT V.tn t,tl:=mU V.tn t V.tl }) (QA an x ({ S with now:=t }:Sal) last) (QA an x (zA ({ S with now:=t }:Sal) 13 15 ({ S with now:=t }:Sal).os.length) last) (QA an x (({ S with now:=t }:Sal).past 13 15) last) (QA an x (zA (({ S with now:=t }:Sal).past 13 15) 12 17 (({ S with now:=t }:Sal).past 13 15).os.length) last) (QA an x (S.round t) last) (iA _ _) (iA _ _) (yQ _ _ _ _) (yQ _ _ _ _) (yQ _ _ _ _) (yQ _ _ _ _) (yQ _ _ _ _) hm ?_ ?_ ?_ ?_ ?_ ?_ ?_ ?_
 ·rintro loc W' ⟨o1,hp,_⟩
  exact hcell hp
 ·rintro da loc W' ⟨o1,⟨o0,hp,_⟩,_⟩
  obtain ⟨g,hp⟩:=(show QE W' x o0 _ from hp)
  refine ⟨hp.xw,hp.cell 10 _ rfl,?_⟩
  have:W'.cell? (aq x 8)=some (iv V.now):=hp.cell 8 _ rfl
  rw [hr.now] at this
  exact this
 ·rintro loc W' ⟨o1,hp,a2,a3,a4⟩
  refine (YM hp t htl).mono ?_
  rintro e w' ⟨da,dc,rfl,hq⟩
  exact ⟨da,dc,rfl,sE a2 a3 a4 hq⟩
 ·intro da dc loc W' hT'
  refine qS hw (oR (yQ _ _ _ _) (fun W1 o1 hp hd hdis=>?_)) W' hT'
  refine Nl da dc _ hJ.len hR.R hlt V.tn htn hO hDl hdue ⟨_,hp,?_,ha,han,hT⟩ hd hdis
  rw [hT]
  exact hr1
 ·intro da dc loc W' hT'
  refine qS hw (oR (yQ _ _ _ _) (fun W1 o1 hp hd hdis=>?_)) W' hT'
  rw [← e1]
  exact Pi da dc _ hK0 hDl 13 15 (.inr rfl) vO hids hp hd hdis
 ·intro da loc W' hT'
  exact qS hw (oR (yQ _ _ _ _) (fun W1 o1 hp hd hdis=>hH hp hK1)) W' hT'
 ·intro da dc loc W' hT'
  refine qS hw (oR (yQ _ _ _ _) (fun W1 o1 hp hd hdis=>?_)) W' hT'
  rw [← e2]
  exact Pi da dc _ hK2 hDl 12 17 (.inl rfl) vO (fun p hp=>by rw [hl2];exact hids p hp) hp hd hdis
 ·intro da loc W' hT'
  exact qS hw (oR (yQ _ _ _ _) (fun W1 o1 hp hd hdis=>hH hp hK3)) W' hT'
end
end
section
theorem Ls {P P':World->(Nat->Prop)->Prop} {da:Option Addr} {D:List (Int × Int)} (hp:∀ W o,P W o->P' W o) (W:World) (o:Nat->Prop) (h:kM P da D W o):kM P' da D W o:=by
 obtain ⟨o0,a1,a⟩:=h
 exact ⟨o0,hp _ _ a1,a⟩
theorem PMem.clock {W:World} {x:Nat} {own:Nat->Prop} {V:PV} {g:PG} (h:PMem W x own V g) (t:Int):yN W (W.sc x 8 (iv t)) x own { V with now:=t }:=by
 have hs0:Same (fun k=>k=x) W (W.sc x 8 (iv t)):=jI (Same.of_below (uM _ _)) x _ _ rfl
 have hs':Same (g.xs V x) W (W.sc x 8 (iv t)):=jO hs0 (fun k e=>.inl e)
 refine h.turn hs' (V':={ V with now:=t }) (g':=g) ?_ rfl ⟨rfl,rfl,rfl⟩ ⟨rfl,rfl,rfl,rfl⟩ ⟨rfl,rfl,rfl,rfl⟩ ⟨h.stay hs' h.ot.1,h.ot.2,fun _ e=>.inl e⟩ ⟨h.stay hs' h.qt.1,h.qt.2,fun _ e=>.inl e⟩ ⟨h.stay hs' h.qz.1,h.qz.2,fun _ e=>.inl e⟩ ⟨h.stay hs' h.lu.1,h.lu.2,fun _ e=>.inl e⟩ ⟨h.stay hs' h.att.1,h.att.2,fun _ e=>.inl e⟩ ⟨qG h.orow (fun k e=>uG _ (aq x 8) _ _ (fun c=>qP h.orow h.blk vO (by rw [e,show k=x from c]))),fun k e=>.inl e⟩ ⟨qG h.arow (fun k e=>uG _ (aq x 8) _ _ (fun c=>qP h.arow h.blk vO (by rw [e,show k=x from c]))),fun k e=>.inl e⟩
 rw [uH h.blk]
 unfold yS
 rfl
section
variable {w W:World} {x:Nat} {own:Nat->Prop} {V:PV} {S:Sal} {last:Nat} {an t:Int}
def QN (x:Nat) (S:Sal) (last:Nat) (V:PV) (to:Int) (D:List (Int × Int)) (j:Nat) (w:World) (own:Nat->Prop):Prop :=
 ∃ V',QE w x own V'/\relO V' ({ S with now:=to }:Sal) last S.knows/\Listed PAns.t V'.att V'.al/\(∀ a,a∈V'.al↔a∈V.al/\∀ i,i<j->a.t≠(D.getD i (0,0)).2)/\V'.an=to/\V'.atl=mU V.an to V.atl
theorem Pr (x:Nat) (S:Sal) (last:Nat) (V:PV) (to:Int) (D:List (Int × Int)) (j:Nat):Keeps (QN x S last V to D j):=⟨fun ⟨_,h,_⟩=>fF h,fun ⟨V,h,hr⟩ hz hk=>⟨V,dX h hz hk,hr⟩⟩
theorem Tz {S00:Sal} {to:Int} (h00:restP S00) (hC:S.C=S00.C) (hL:S.ansL=S00.ansL) (hn:S00.now<=to) (hnow:S.now<=to) (hk:∀ i,S.knows i->to<(S.os.getD i qD).untl S.C) (h:QB S00.now x last S to W own) :
 Ca 73 #[pt x 23,iv to] W fun e w'=>e=.returned (.tuple #[])/\zQ (QA to x ({ S with now:=to }:Sal) last) W w' own:=by
 obtain ⟨V,hm,hr,ha,han,htn⟩:=h
 have hw:=fF hm
 have hle:V.an<=to:=by rw [han];exact hn
 have ha0:relA S00.now V.atl V.att V.al S00.C.keep S00.ansL:=by rw [← han,← hC,← hL];exact ha
 have hcnt:=gB ha0
 have hal:V.al.length<=4294967296:=by have:=h00.alen;have:=h00.R.tokens.2;omega
 have hz2:V.atl.length<=V.al.length:=by
  have:=yK (V.atl.map (fun p:Int × Int=>p.2)) (V.al.map PAns.t) (show (V.atl.map (fun p:Int × Int=>p.2)).Nodup from ha.once) (fun y hy=>by
   obtain ⟨p,hp,rfl⟩:=List.mem_map.1 hy
   obtain ⟨j,j1,j2,rfl⟩:=(ha.tl p).1 hp
   obtain ⟨b,hb',e,_⟩:=ha.reqs j j1 j2
   exact List.mem_map.2 ⟨b,hb',e⟩)
  simpa using this
 have hO:=Ox (now:=V.an) (t:=to) ha.once
 have hperm:(fE V.an to V.atl).Perm (V.atl.filter (fun p=>decide (p.1<=to))):=by
  unfold fE
  rw [uP uO]
  exact (fZ to _ V.atl rfl).2.1
 have hDl:(fE V.an to V.atl).length<=4294967296:=by
  rw [hperm.length_eq]
  have:=List.length_filter_le (fun p:Int × Int=>decide (p.1<=to)) V.atl
  omega
 have hD:∀ p∈fE V.an to V.atl,∃ a∈V.al,a.t=p.2:=fun p hp=>by
  obtain ⟨j,j1,j2,rfl⟩:=(ha.tl p).1 (List.mem_filter.1 (hperm.mem_iff.1 hp)).1
  obtain ⟨b,hb',e,_⟩:=ha.reqs j j1 j2
  exact ⟨b,hb',e⟩
 have hT:aT V.an to=to:=by unfold aT;rw [uP uO]
 refine (Xx x V.aw to (Zw V.an to) (fE V.an to V.atl) W own (pv x V) (QN x S last V to (fE V.an to V.atl)) (iA _ _) (fun j=>Pr _ _ _ _ _ _ _) hm hDl ?_ ?_ ?_).mono ?_
 ·rintro loc W' ⟨o1,⟨g,hp⟩,_⟩
  exact ⟨hp.xw,hp.cell 23 _ rfl⟩
 ·rintro loc W' ⟨o1,hp,a2,a3,a4⟩
  refine (YE hp to uO).mono ?_
  rintro e w' ⟨da,dc,rfl,hq⟩
  refine ⟨da,dc,rfl,sE a2 a3 a4 (tN hq (Ls (fun W1 o1 hp=>?_)))⟩
  exact ⟨_,hp,⟨hr.C,hr.now,hr.last,hr.tn,hr.once,hr.tl,hr.kin,hr.live,hr.ls,hr.ol,hr.turns,hr.sizes,hr.held,hr.sold,hr.lu,hr.cust⟩,ha.ls,fun a=>⟨fun c=>⟨c,fun i hi=>uO⟩,fun c=>c.1⟩,hT,rfl⟩
 ·intro da j hj loc W' hT'
  refine qS hw (oR (Pr _ _ _ _ _ _ _) (fun W1 o1 hp hd hdis=>?_)) W' hT'
  obtain ⟨V',q1,q2,q3,q4,q5,q6⟩:=hp
  obtain ⟨a,b1,b2⟩:=hD _ (gL hj)
  have hin:a∈V'.al:=(q4 a).2 ⟨b1,fun i hi e=>by
   have:=Oj hO (i:=i) (j:=j) uO hj (e.symm.trans b2)
   omega⟩
  obtain ⟨q,hq⟩:=List.mem_iff_getElem?.1 hin
  have hql:=(List.getElem?_eq_some_iff.1 hq).1
  obtain ⟨z,hz⟩:∃ z,V'.al[V'.al.length - 1]?=some z:=⟨V'.al[V'.al.length - 1],uD uO⟩
  have hl':V'.al.length<=V.al.length:=by
   have:=yK (V'.al.map PAns.t) (V.al.map PAns.t) q3.once (fun y hy=>by
    obtain ⟨p,hp,rfl⟩:=List.mem_map.1 hy
    exact List.mem_map.2 ⟨p,((q4 p).1 hp).1,rfl⟩)
   simpa using this
  rw [← b2]
  refine (Ac q1 q3 uO (fJ q3) hq hz).mono ?_
  rintro e w' ⟨rfl,rm,o2,p1,p2,p3⟩
  refine ⟨rfl,o2,⟨_,p1,⟨q2.C,q2.now,q2.last,q2.tn,q2.once,q2.tl,q2.kin,q2.live,q2.ls,q2.ol,q2.turns,q2.sizes,q2.held,q2.sold,q2.lu,q2.cust⟩,iT q3 hq hz,fun c=>?_,q5,q6⟩,p2,p3⟩
  show c∈oB V'.al q z↔_
  rw [sM q3.once hq hz,q4]
  constructor
  ·rintro ⟨⟨d1,d2⟩,d3⟩
   refine ⟨d1,fun i hi=>?_⟩
   by_cases ei:i=j
   ·rw [ei,← b2];exact d3
   ·exact d2 i uO
  ·rintro ⟨d1,d2⟩
   exact ⟨⟨d1,fun i hi=>d2 i uO⟩,by rw [b2];exact d2 j uO⟩
 ·rintro e w' ⟨rfl,hq⟩
  refine ⟨rfl,tN hq (fun W' o' hp=>?_)⟩
  obtain ⟨V',q1,q2,q3,q4,q5,q6⟩:=hp
  refine ⟨V',q1,?_,?_,q5⟩
  ·rw [Gt hnow hk];exact q2
  ·have:=ha.forget hle q3 (fun a=>(q4 a).trans ⟨fun c=>⟨c.1,fun d hd=>?_⟩,fun c=>⟨c.1,fun i hi=>c.2 _ (gL hi)⟩⟩)
   ·rw [q5,q6];exact this
   ·obtain ⟨i,hi,e⟩:=List.getElem_of_mem hd
    have:=c.2 i hi
    simpa [List.getD,uD hi,e] using this
theorem ZE {to:Int} (hJ:salJ S) (hR:restP S) (hto:S.now<=to) (hmax:to<=4611686018427387904) (h:QA S.now x S last W own) :
 Ca 47 #[pt x 0,iv to] W fun e w'=>e=.returned (.tuple #[])/\zQ (fun W o=>QA to x (S.tickTo to) last W o/\restP (S.tickTo to)) W w' own:=by
 refine Ba (σ:=Sal) x to (fun T=>QA S.now x T last) (fun T W o=>QA to x (T.tickTo to) last W o/\restP (T.tickTo to)) (QB S.now x last) (fun T=>yQ _ _ _ _) (fun T t=>ZI _ _ _ _ _) (fun T=>⟨fun h=>(yQ _ _ _ _).lt h.1,fun h hz hk=>⟨(yQ _ _ _ _).keep h.1 hz hk,h.2⟩⟩) (fun T=>(salJ T/\restP T)/\T.now<=to/\T.ansL=S.ansL/\T.C=S.C) (fun T=>qN T.tset) (fun T=>zB T.tset) (fun T=>T.round (qN T.tset).1) Sal.todo (fun T=>(qN T.tset).1<=to) (fun _=>Iff.rfl) Sal.now (fun T hT=>⟨hT.2.1,fun hb=>Int.le_of_lt ((mK hb).later hT.1.2.R)⟩) ?_ ?_ ?_ ?_ ?_ ?_ S W own ⟨⟨hJ,hR⟩,hto,rfl,rfl⟩ h
 ·rintro T ⟨⟨hJ',hR'⟩,h1,h2,h3⟩ W' o' ⟨V,⟨g,hm⟩,hr,ha,han⟩
  refine ⟨hm.ownx,fun t hlt=>?_⟩
  obtain ⟨o2,p1,p2,p3⟩:=hm.clock t
  refine ⟨o2,⟨_,p1,⟨hr.C,rfl,hr.last,Int.le_trans hr.tn hlt,hr.once,hr.tl,hr.kin,hr.live,hr.ls,hr.ol,hr.turns,hr.sizes,hr.held,hr.sold,hr.lu,hr.cust⟩,ha,han,hr.tn⟩,p2,p3⟩
 ·rintro T _ W' o' ⟨V,⟨g,hm⟩,_⟩
  exact ⟨hm.xw,⟨_,hm.cell 8 _ rfl⟩,qA hm.blk 8⟩
 ·rintro T ⟨⟨hJ',hR'⟩,h1,h2,h3⟩ W' o' ⟨V,⟨g,hm⟩,hr,ha,han⟩
  refine ⟨V.tw,hm.cell 10 _ rfl,fun W2 hb=>?_⟩
  have:=mB (Uy hm.tw hb)
  rw [(hr.firstK hR'.R).1,(hr.firstK hR'.R).2] at this
  exact this
 ·rintro T ⟨⟨hJ',hR'⟩,h1,h2,h3⟩ hb hc W' o' hp
  exact YJ hJ' hR' (mK hb) uO hp
 ·rintro T ⟨⟨hJ',hR'⟩,h1,h2,h3⟩ hb hc
  have hS:=mK hb
  have hlt:=hS.later hR'.R
  have h0:=hJ'.I.now
  obtain ⟨a,b,c,d⟩:=dH T (qN T.tset).1
  have ht:=Uf hR'.R h0.1 hc hS.alive
  refine ⟨⟨⟨Lq hJ' ⟨uO,uO⟩,Up hS hR'⟩,by rw [b];exact hc,c.trans h2,a.trans h3⟩,Mp hS hR'.R h0.1,?_⟩
  simp only [← ht]
 ·rintro T ⟨⟨hJ',hR'⟩,h1,h2,h3⟩ hc W' o' hp
  have hk:∀ i,T.knows i->to<(T.os.getD i qD).untl T.C:=fun i hi=>by
   cases hb:zB T.tset with
   | false=>exact absurd hi (Dz hb i)
   | true =>
     have:=(mK hb).min i hi
     have:=hc hb
     omega
  rw [show (fun W o=>QA to x (T.tickTo to) last W o/\restP (T.tickTo to))=(fun W o=>QA to x ({ T with now:=to }:Sal) last W o/\restP ({ T with now:=to }:Sal)) by rw [Nn hk]]
  refine (Tz hR h3 h2 hto h1 hk hp).mono ?_
  rintro e w' ⟨rfl,hq⟩
  exact ⟨rfl,tN hq (fun W o hp=>⟨hp,Gh h1 hk hR'⟩)⟩
end
end
theorem Ws (x:Nat) (n:Int) (w:World) (hn:n<0) :
 Ca 30 #[pt x 0,iv n] w fun e w'=>e=.returned (.tuple #[iv 0,iv 3])/\Below w.heap.size w w':=by
 go_enter Tryz.func30,Tryz.ntmps30
 go_wp2
 refine uK (v:=.tuple #[iv 0,iv 3]) (by simp [results,Tryz.results30,go_sem]) rfl ⟨rfl,bL⟩
theorem Ij (x:Nat) (n now to:Int) (w:World) (own:Nat->Prop) (P0 PE:World->(Nat->Prop)->Prop) (K0:Keeps P0) (KE:Keeps PE) (h:P0 w own) (hn:¬ n<0) (hn2:n<=9223372036854775807) (hb:0<=now/\now<=4611686018427387904)
 (hto:(n<4611686018427387904 - now/\to=now+n)\/(¬ n<4611686018427387904 - now/\to=4611686018427387904))
 (HX:Hid (∀ W o,P0 W o->x<W.heap.size/\W.cell? (aq x 8)=some (iv now)))
 (HY:Hid (∀ W o,PE W o->x<W.heap.size/\W.cell? (aq x 8)=some (iv to)))
 (HG:Hid (∀ W o,P0 W o->Ca 47 #[pt x 0,iv to] W fun e w'=>e=.returned (.tuple #[])/\zQ PE W w' o)) :
 Ca 30 #[pt x 0,iv n] w fun e w'=>e=.returned (.tuple #[iv to,iv 0])/\zQ PE w w' own:=by
 obtain ⟨hx,c8⟩:=HX.out w own h
 have hw1:IntKind.i64.wrap (4611686018427387904 - now)=4611686018427387904 - now:=yA uO uO
 obtain ⟨hb0,hb1⟩:=hb
 have hT0:Hid (zF P0 w own 0 w):=fR K0 h (uM _ _) (uA _)
 have HGs:Hid (∀ W,zF P0 w own 0 W->Ca 47 #[pt x 0,iv to] W fun e w'=>e=.returned (.tuple #[])/\zF PE w own 0 w'/\∀ b,w.heap.size<=b->b<w.heap.size+0->w'.heap[b]?=W.heap[b]?):=fun W hW=>oF (K0.lt h) HG.out W hW
 clear h HX HG
 rcases hto with ⟨hlt,rfl⟩|⟨hlt,rfl⟩
 ·have hw2:IntKind.i64.wrap (now+n)=now+n:=yA uO uO
  go_enter Tryz.func30,Tryz.ntmps30
  go_wp2_with fail
  refine (HGs.out _ (yP K0 hT0.out bL)).mono ?_
  rintro e W1 ⟨rfl,hT1,_⟩
  obtain ⟨hx1,d8⟩:x<W1.heap.size/\W1.cell? (aq x 8)=some (iv (now+n)):=by
   obtain ⟨o1,a1,_⟩:=hT1
   exact HY.out W1 o1 a1
  replace hT1:Hid _:=hT1
  clear hT0 c8 HY
  go_wp2
  refine uK (v:=.tuple #[iv (now+n),iv 0]) (by simp [results,Tryz.results30,go_sem]) rfl ⟨rfl,gD (yP KE hT1.out bL)⟩
 ·go_enter Tryz.func30,Tryz.ntmps30
  go_wp2_with fail
  refine (HGs.out _ (yP K0 hT0.out bL)).mono ?_
  rintro e W1 ⟨rfl,hT1,_⟩
  obtain ⟨hx1,d8⟩:x<W1.heap.size/\W1.cell? (aq x 8)=some (iv 4611686018427387904):=by
   obtain ⟨o1,a1,_⟩:=hT1
   exact HY.out W1 o1 a1
  replace hT1:Hid _:=hT1
  clear hT0 c8 HY
  go_wp2
  refine uK (v:=.tuple #[iv 4611686018427387904,iv 0]) (by simp [results,Tryz.results30,go_sem]) rfl ⟨rfl,gD (yP KE hT1.out bL)⟩
theorem Xa (S:Sal) (to:Int):(S.tickTo to).C=S.C/\(S.tickTo to).ansL=S.ansL/\(S.tickTo to).os.length=S.os.length:=aP _ S to
theorem Ok:∀ (n:Nat) (S:Sal) (to:Int),(gF n S to).now=to
 | 0,_,_=>rfl
 | n+1,S,to=>by
   unfold gF
   split
   ·rfl
   ·exact Ok n _ to
theorem Qr (S:Sal) (to:Int):(S.tickTo to).now=to:=Ok _ S to
theorem ZG:TickOK ZY where
 tick:=by
  intro w x own S n hn1 hn2 h hJ
  obtain ⟨hp,hR⟩:=h
  by_cases hn:n<0
  ·have e:S.tick n=((0,3),S):=by unfold Sal.tick;rw [uQ hn]
   rw [e]
   refine (Ws x n w hn).mono ?_
   rintro e w' ⟨rfl,hb⟩
   obtain ⟨o',a1,a2,a3⟩:=yY (yQ S.now x S S.os.length) hp hb
   exact ⟨rfl,o',⟨a1,hR⟩,a2,a3⟩
  ·have h0:=hJ.I.now
   obtain ⟨to,hto,e⟩:∃ to,((n<4611686018427387904 - S.now/\to=S.now+n)\/(¬ n<4611686018427387904 - S.now/\to=4611686018427387904))/\S.tick n=((to,0),S.tickTo to):=by
    unfold Sal.tick
    rw [uP hn]
    by_cases hlt:n<4611686018427387904 - S.now
    ·exact ⟨_,.inl ⟨hlt,rfl⟩,by rw [uQ hlt]⟩
    ·exact ⟨_,.inr ⟨hlt,rfl⟩,by rw [uP hlt]⟩
   have hto1:S.now<=to/\to<=4611686018427387904:=by rcases hto with ⟨a,rfl⟩|⟨a,rfl⟩<;>omega
   rw [e]
   have KE:Keeps (fun W o=>QA to x (S.tickTo to) S.os.length W o/\restP (S.tickTo to)):=⟨fun h=>(yQ _ _ _ _).lt h.1,fun h hz hk=>⟨(yQ _ _ _ _).keep h.1 hz hk,h.2⟩⟩
   refine (Ij x n S.now to w own (QA S.now x S S.os.length) _ (yQ _ _ _ _) KE hp hn hn2 h0 hto (fun W o hp=>⟨Sf hp,(dG hp).2.2.2.1⟩) (fun W o hp=>⟨Sf hp.1,?_⟩) (fun W o hp=>ZE hJ hR hto1.1 hto1.2 hp)).mono ?_
   ·have:=(dG hp.1).2.2.2.1
    rwa [Qr] at this
   ·rintro e w' ⟨rfl,o',a1,a2,a3⟩
    refine ⟨rfl,o',⟨?_,a1.2⟩,a2,a3⟩
    have:=a1.1
    show QA (S.tickTo to).now x (S.tickTo to) (S.tickTo to).os.length w' o'
    rw [Qr,(Xa S to).2.2]
    exact this
 clock:=by
  intro w x own S h hJ
  obtain ⟨hp,hR⟩:=h
  refine (Sl x S.now w (dG hp).2.2.2.1).mono ?_
  rintro e w' ⟨rfl,hb⟩
  obtain ⟨o',a1,a2,a3⟩:=yY (yQ S.now x S S.os.length) hp hb
  exact ⟨rfl,o',⟨a1,hR⟩,a2,a3⟩
section
open Go.ChangeShapes Go.WideShapes Go.ChangeAt Go.RowKit
set_option linter.unusedVariables false
theorem Ou {w:World} {B n:Nat} {T:TypeId} {a:Option Addr} {c:Nat} {L:List Value} (h:w.ownsRow B T 1 (.slice a n c) n L):∀ i,i<n->∃ rb,a=some (aq rb 0)/\w.cell? (aq rb i)=some (L.getD i undef):=fun i hi=>by
 rcases h.2 with ⟨_,h0⟩|⟨g,cap,cur,hv,_⟩
 ·omega
 ·have e1:a=some (aq g 0):=by simp only [Value.slice.injEq] at hv;exact hv.1
  subst e1
  have hl:i<L.length:=by have:=h.1;omega
  have:=h.cells (g:=g) rfl i (L.getD i undef) (by simp [List.getD,uD hl])
  exact ⟨g,rfl,by simpa [Addr.add_lit] using this⟩
theorem Ng (W:World) (ac:Option Addr) (lc cc:Nat) (hcf:cfgsAt W ac lc) (a:Option Addr) (len cap:Nat) (ops:List OpV) (bp bh:Nat) (hs:scriptAt W a len ops) (hok:∀ o∈ops,Bo o) (hlen:len * 64<=140737488351232) (hp:rowAt W bp [1,2,3,4,5,6,7,8,9,10,11,12,13,14,15,16]) (hh:rowAt W bh [1,2,3,4,5,6,7,8,9,10,11,12,13,14,15,16]) :
 Ca 17 #[.slice ac lc cc,.slice a len cap,.slice (some (aq bp 0)) 16 16,.slice (some (aq bh 0)) 16 16] W fun e w'=>e=.returned (.bool true)/\Below W.heap.size W w':=by
 refine Te (invA ZY W ac lc cc) (Ww W) W ac lc cc a len cap ops bp 16 bh 16 [1,2,3,4,5,6,7,8,9,10,11,12,13,14,15,16] [1,2,3,4,5,6,7,8,9,10,11,12,13,14,15,16] hs hlen hp hh (fun j σ w' b h hb=>St Zt h hb) (fun j σ w1 w2 h hb=>lZ Zt h hb) (fun j σ w1 h=>Xw h) (fun _ _ _ h=>h.S.bel) ⟨_,Lv W ac lc cc⟩ ?_ ?_
 ·intro j σ w1 o hj ho hk h
  have hk':1<=o.k/\o.k<=16:=by simp at hk;omega
  have hop:=hok o ho
  have hbB:=h.lenB
  by_cases h1:o.k=1
  ·have c0:w1.cell? (aq W.heap.size 0)=some (.slice ac lc cc):=cB h.S.world
   refine (Fa W.heap.size ac lc cc o w1 h1 hop.2.1 c0 (hcf.below h.S.bel (uA _))).mono ?_
   rintro e w2 ⟨rfl,b2⟩
   exact ⟨rfl,Kj Zt h b2⟩
  by_cases h2:o.k=2
  ·refine (Rj W.heap.size _ _ _ σ.vb _ σ.Lb o w1 h2 h.S.world h.B uO).mono ?_
   rintro e w2 ⟨rfl,A⟩
   exact ⟨rfl,An Zt h A⟩
  by_cases h3:o.k=3
  ·refine (Vj W.heap.size o w1 h3 hop.2.2.2.2.2.2).mono ?_
   rintro e w2 ⟨rfl,b2⟩
   exact ⟨rfl,Kj Zt h b2⟩
  by_cases h9:o.k<=9
  ·have hk9:4<=o.k/\o.k<=9:=uO
   refine Fw W.heap.size o w1 hk9 _ (fun w2 hb=>?_)
   have h':=lZ Zt h hb
   refine (Ty h'.T o hk9 hop uO).mono ?_
   rintro e w3 ⟨rfl,hi⟩
   obtain ⟨hi1,hi2⟩:=Hq Zt h' hi
   exact ⟨rfl,hi1,Same.trans (Same.of_below (own:=fun _=>False) hb) hi2 (fun k _ e=>e.elim False.elim id)⟩
  ·refine (Cr Zt ZK h.S hcf o hop uO ?_).mono ?_
   ·rcases (show o.k=10\/o.k=11\/o.k=12\/(o.k=13\/o.k=14)\/(o.k=15\/o.k=16) by omega) with c|c|c|c|c
    ·exact .inl c
    ·exact .inr (.inl c)
    ·exact .inr (.inr (.inl c))
    ·exact .inr (.inr (.inr (.inl ⟨c,ZM⟩)))
    ·exact .inr (.inr (.inr (.inr ⟨c,ZG⟩)))
   ·rintro e w2 ⟨rfl,hi⟩
    exact ⟨rfl,Tx h hi⟩
 ·intro j σ w1 hj h
  have c3:w1.cell? (aq W.heap.size 3)=some σ.vb:=cB h.S.world
  have c4:w1.cell? (aq W.heap.size 4)=some σ.T.vd:=cB h.S.world
  obtain ⟨ab,cb,hvb⟩:=yE h.B
  obtain ⟨ad,cd,hvd⟩:=yE h.T.dues
  have hB:=h.B
  have hD:=h.T.dues
  have l1:=h.lenB
  have l2:=h.T.lenD
  rw [hvb] at c3 hB
  rw [hvd] at c4 hD
  refine (Bb W.heap.size σ.Lb.length cb σ.T.Ld.length cd ab ad σ.Lb σ.T.Ld w1 c3 c4 uO uO (Ou hB) h.marks (Ou hD) h.T.marks).mono ?_
  rintro e w2 ⟨rfl,b2⟩
  exact ⟨rfl,lZ Zt h b2⟩
theorem Ih (ac:Option Addr) (lc cc:Nat) (a:Option Addr) (len cap:Nat) (ops:List OpV) (w:World) (hcf:cfgsAt w ac lc) (hs:scriptAt w a len ops) (hok:∀ o∈ops,Bo o) (hlen:len * 64<=140737488351232) :
 Ca 6 #[.slice ac lc cc,.slice a len cap] w fun e w'=>e=.returned (.bool true)/\Below w.heap.size w w':=by
 have HS:Hid (scriptAt w a len ops):=hs
 have HO:Hid (∀ o∈ops,Bo o):=hok
 have HC:Hid (cfgsAt w ac lc):=hcf
 clear hs hok hcf
 go_enter Tryz.func6,Tryz.ntmps6
 go_wp2_with fail
 have hW:Below w.heap.size w (w.alloc (.cells #[iv 1,iv 2,iv 3,iv 4,iv 5,iv 6,iv 7,iv 8,iv 9,iv 10,iv 11,iv 12,iv 13,iv 14,iv 15,iv 16] 3)):=(uM _ _).alloc (uA _) _
 have hrow:rowAt (w.alloc (.cells #[iv 1,iv 2,iv 3,iv 4,iv 5,iv 6,iv 7,iv 8,iv 9,iv 10,iv 11,iv 12,iv 13,iv 14,iv 15,iv 16] 3)) w.heap.size [1,2,3,4,5,6,7,8,9,10,11,12,13,14,15,16]:=⟨by simp,by simp,fun i hi=>by
  match i,hi with
  | 0,_=>simp [go_sem]
  | 1,_=>simp [go_sem]
  | 2,_=>simp [go_sem]
  | 3,_=>simp [go_sem]
  | 4,_=>simp [go_sem]
  | 5,_=>simp [go_sem]
  | 6,_=>simp [go_sem]
  | 7,_=>simp [go_sem]
  | 8,_=>simp [go_sem]
  | 9,_=>simp [go_sem]
  | 10,_=>simp [go_sem]
  | 11,_=>simp [go_sem]
  | 12,_=>simp [go_sem]
  | 13,_=>simp [go_sem]
  | 14,_=>simp [go_sem]
  | 15,_=>simp [go_sem]
  | n+16,h=>exact absurd h vS⟩
 refine (Ng _ ac lc cc (HC.out.below hW (uA _)) a len cap ops w.heap.size w.heap.size (HS.out.below hW (uA _)) HO.out hlen hrow hrow).mono ?_
 rintro e w2 ⟨rfl,b2⟩
 go_wp2
 go_ret
 exact ⟨rfl,hW.trans (b2.mono uS)⟩
theorem Hl (os:Os) (started:os.Started) (H:Type) (enc:TypeId × Value->H) :
 ReturnsInHanded {} Tryz.checked os 6 .any (Rows.allSpec.pre6 enc Tryz.prog Tryz.f6 Rows.allRow.domain false) (Rows.allSpec.post enc Tryz.prog Tryz.f6 false true false false):=by
 refine returnsInHanded_of_change_sized (C:=Tryz.checked) own started vK Tryz.func6
  (ChangeSpec.witness6 (enc:=enc) (C:=Tryz.checked) false ⟨#[],#[.slice none 0 0,.slice none 0 0],[]⟩ 8 vK vK vK vK) ?_
 intro W base args ds gs before hval0 hW hcnd hsz0 _
 have hval:∀ (j:Nat) t v,Tryz.f6.params[j]?=some t->args[j]?=some v->Value.okWide Tryz.prog W .any base t v:=hval0
 have hsz:(DataW.weightsEach Tryz.prog (Tryz.f6.params.toList++Rows.allSpec.plain.varTypes Tryz.prog) (ds++gs)).all (·<=reachBytes)=true:=hsz0
 have hW':=hW
 obtain ⟨p,q,hA0,hV,rfl,hfz,hnd⟩:=hW
 have hA:DataW.TrodAll enc Tryz.prog W 0 (fun _=>true) true Tryz.f6.params.toList args.toList ds p:=hA0
 rw [Tryz.params6] at hA hval hsz
 obtain ⟨v0,vs0,d0,ds0,p0,q0,hargs,rfl,rfl,h0,r0⟩:=trodAll_cons hA
 obtain ⟨v1,vs1,d1,ds1,p1,q1,rfl,rfl,rfl,h1,r1⟩:=trodAll_cons r0
 obtain ⟨rfl,rfl,rfl⟩:=trodAll_nil r1
 obtain rfl:args=#[v0,v1]:=by cases args;simp_all
 obtain ⟨rfl,rfl⟩:=trodVars_none hV
 have k0:=h0
 have k1:=h1
 have lt0:∀ x∈p0,x.block<W.heap.size:=by obtain ⟨m,hm⟩:=k0;exact DataW.trod_lt m _ _ _ hm
 have lt1:∀ x∈p1,x.block<W.heap.size:=by obtain ⟨m,hm⟩:=k1;exact DataW.trod_lt m _ _ _ hm
 have w0:QI 51 d0:=fun x hx=>by simpa using List.all_eq_true.1 hsz x (DataW.weights_mem_each (j:=0) rfl rfl x hx)
 have w1:QI 52 d1:=fun x hx=>by simpa using List.all_eq_true.1 hsz x (DataW.weights_mem_each (j:=1) rfl rfl x hx)
 obtain ⟨ac,lc,cc,rfl,hc⟩:=Tp (hval 0 51 v0 rfl rfl) h0 w0
 obtain ⟨a,len,cap,ops,rfl,hs,hok,hl⟩:=Vn (hval 1 52 v1 rfl rfl) h1 w1
 clear hA0 hval0
 refine (Ih ac lc cc a len cap ops W hc hs hok hl).mono fun e W' ⟨he,bel⟩=>?_
 subst he
 exact ⟨_,rfl,_,_,_,[],_,[],hW',trodAll_mk1 (shut_bool Tryz.underlying4 _),(trodAll_cons_mk (Below.trod To vK (of_decide_eq_true vK) k0 bel lt0) (trodAll_cons_mk (Below.trod To vK (of_decide_eq_true vK) k1 bel lt1) trodAll_mk0)),rfl,bel.frame _,fun h=>by cases h⟩
theorem all_holds:Rows.AllSaid :=
 OpenClaim.holds_of_wide 6 Tryz.f6 rfl rfl rfl rfl rfl rfl rfl ⟨rfl,rfl,rfl,rfl,rfl⟩ rfl rfl rfl rfl rfl vK Tryz.func6 vK
  (of_decide_eq_true vK) (by unfold Func.isWrapper;first|(rw [uQ (by decide +kernel)];kernel_rfl)|(rw [uP (by decide +kernel)];exact ⟨rfl,rfl⟩))
  (fun os started H enc _=>Hl os started H enc)
end
