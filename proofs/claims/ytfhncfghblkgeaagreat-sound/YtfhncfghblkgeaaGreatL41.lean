import Derived.Test.YtfhncfghblkgeaaGreatL38
import Derived.Test.YtfhncfghblkgeaaGreatL40
set_option maxRecDepth 100000
set_option maxHeartbeats 2000000
namespace Go.Proofs.YtfhncfghblkgeaaGreat
open Go.RowKit
section
theorem juh {P P':World->(Nat->Prop)->Prop} {da:Option Addr} {D:List (Int × Int)} (hp:∀ W o,P W o->P' W o) (W:World) (o:Nat->Prop) (h:jdj P da D W o):jdj P' da D W o:=by
 obtain ⟨o0,a1,a⟩:=h
 exact ⟨o0,hp _ _ a1,a⟩
theorem PMem.clock {W:World} {x:Nat} {own:Nat->Prop} {V:PV} {g:PG} (h:PMem W x own V g) (t:Int):jaz W (W.setCell (aq x 8) (iv t)) x own { V with now:=t }:=by
 have hs0:Same (fun k=>k=x) W (W.setCell (aq x 8) (iv t)):=jc8 (Same.of_below (Below.refl _ _)) x _ _ rfl
 have hs':Same (g.xs V x) W (W.setCell (aq x 8) (iv t)):=jce hs0 (fun k e=>.inl e)
 refine h.turn hs' (V':={ V with now:=t }) (g':=g) ?_ rfl ⟨rfl,rfl,rfl⟩ ⟨rfl,rfl,rfl,rfl⟩ ⟨rfl,rfl,rfl,rfl⟩ ⟨h.stay hs' h.ot.1,h.ot.2,fun _ e=>.inl e⟩ ⟨h.stay hs' h.qt.1,h.qt.2,fun _ e=>.inl e⟩ ⟨h.stay hs' h.qz.1,h.qz.2,fun _ e=>.inl e⟩ ⟨h.stay hs' h.lu.1,h.lu.2,fun _ e=>.inl e⟩ ⟨h.stay hs' h.att.1,h.att.2,fun _ e=>.inl e⟩ ⟨jad h.orow (fun k e=>Below.heap_setCell _ (aq x 8) _ _ (fun c=>jb3 h.orow h.blk (by decide) (by rw [e,show k=x from c]))),fun k e=>.inl e⟩ ⟨jad h.arow (fun k e=>Below.heap_setCell _ (aq x 8) _ _ (fun c=>jb3 h.arow h.blk (by decide) (by rw [e,show k=x from c]))),fun k e=>.inl e⟩
 rw [Joins.block_setCell h.blk]
 unfold jb9
 rfl
section
variable {w W:World} {x:Nat} {own:Nat->Prop} {V:PV} {S:Sal} {last:Nat} {an t:Int}
def paf (x:Nat) (S:Sal) (last:Nat) (V:PV) (to:Int) (D:List (Int × Int)) (j:Nat) (w:World) (own:Nat->Prop):Prop :=
 ∃ V',psm w x own V'/\relO V' ({ S with now:=to }:Sal) last S.knows/\Listed PAns.t V'.att V'.al/\(∀ a,a∈V'.al↔a∈V.al/\∀ i,i<j->a.t≠(D.getD i (0,0)).2)/\V'.an=to/\V'.atl=jsi V.an to V.atl
theorem qae (x:Nat) (S:Sal) (last:Nat) (V:PV) (to:Int) (D:List (Int × Int)) (j:Nat):Keeps (paf x S last V to D j):=⟨fun ⟨_,h,_⟩=>jes h,fun ⟨V,h,hr⟩ hz hk=>⟨V,jez h hz hk,hr⟩⟩
theorem jxx {S00:Sal} {to:Int} (h00:restP S00) (hC:S.C=S00.C) (hL:S.ansL=S00.ansL) (hn:S00.now<=to) (hnow:S.now<=to) (hk:∀ i,S.knows i->to<(S.os.getD i ja2).untl S.C) (h:pcx S00.now x last S to W own) :
 Calls Tryz.prog 105 #[pt x 23,iv to] W fun e w'=>e=.returned (.tuple #[])/\jar (psx to x ({ S with now:=to }:Sal) last) W w' own:=by
 obtain ⟨V,hm,hr,ha,han,htn⟩:=h
 have hw:=jes hm
 have hle:V.an<=to:=by rw [han];exact hn
 have ha0:relA S00.now V.atl V.att V.al S00.C.keep S00.ansL:=by rw [← han,← hC,← hL];exact ha
 have hcnt:=jfu ha0
 have hal:V.al.length<=4294967296:=by have:=h00.alen;have:=h00.R.tokens.2;omega
 have hz2:V.atl.length<=V.al.length:=by
  have:=jav (V.atl.map (fun p:Int × Int=>p.2)) (V.al.map PAns.t) (show (V.atl.map (fun p:Int × Int=>p.2)).Nodup from ha.once) (fun y hy=>by
   obtain ⟨p,hp,rfl⟩:=List.mem_map.1 hy
   obtain ⟨j,j1,j2,rfl⟩:=(ha.tl p).1 hp
   obtain ⟨b,hb',e,_⟩:=ha.reqs j j1 j2
   exact List.mem_map.2 ⟨b,hb',e⟩)
  simpa using this
 have hO:=jsb (now:=V.an) (t:=to) ha.once
 have hperm:(jgv V.an to V.atl).Perm (V.atl.filter (fun p=>decide (p.1<=to))):=by
  unfold jgv
  rw [if_neg (by omega)]
  exact (jff to _ V.atl rfl).2.1
 have hDl:(jgv V.an to V.atl).length<=4294967296:=by
  rw [hperm.length_eq]
  have:=List.length_filter_le (fun p:Int × Int=>decide (p.1<=to)) V.atl
  omega
 have hD:∀ p∈jgv V.an to V.atl,∃ a∈V.al,a.t=p.2:=fun p hp=>by
  obtain ⟨j,j1,j2,rfl⟩:=(ha.tl p).1 (List.mem_filter.1 (hperm.mem_iff.1 hp)).1
  obtain ⟨b,hb',e,_⟩:=ha.reqs j j1 j2
  exact ⟨b,hb',e⟩
 have hT:jw9 V.an to=to:=by unfold jw9;rw [if_neg (by omega)]
 refine (jq5 x V.aw to (jy9 V.an to) (jgv V.an to V.atl) W own (pv x V) (paf x S last V to (jgv V.an to V.atl)) (jla _ _) (fun j=>qae _ _ _ _ _ _ _) hm hDl ?_ ?_ ?_).mono ?_
 ·rintro loc W' ⟨o1,⟨g,hp⟩,_⟩
  exact ⟨hp.xw,hp.cell 23 _ rfl⟩
 ·rintro loc W' ⟨o1,hp,a2,a3,a4⟩
  refine (qcs hp to (by omega)).mono ?_
  rintro e w' ⟨da,dc,rfl,hq⟩
  refine ⟨da,dc,rfl,jmk a2 a3 a4 (jc4 hq (juh (fun W1 o1 hp=>?_)))⟩
  exact ⟨_,hp,⟨hr.C,hr.now,hr.last,hr.tn,hr.once,hr.tl,hr.kin,hr.live,hr.ls,hr.ol,hr.turns,hr.sizes,hr.held,hr.sold,hr.lu,hr.cust⟩,ha.ls,fun a=>⟨fun c=>⟨c,fun i hi=>by omega⟩,fun c=>c.1⟩,hT,rfl⟩
 ·intro da j hj loc W' hT'
  refine ja6 hw (jeh (qae _ _ _ _ _ _ _) (fun W1 o1 hp hd hdis=>?_)) W' hT'
  obtain ⟨V',q1,q2,q3,q4,q5,q6⟩:=hp
  obtain ⟨a,b1,b2⟩:=hD _ (jeb hj)
  have hin:a∈V'.al:=(q4 a).2 ⟨b1,fun i hi e=>by
   have:=jrv hO (i:=i) (j:=j) (by omega) hj (e.symm.trans b2)
   omega⟩
  obtain ⟨q,hq⟩:=List.mem_iff_getElem?.1 hin
  have hql:=(List.getElem?_eq_some_iff.1 hq).1
  obtain ⟨z,hz⟩:∃ z,V'.al[V'.al.length - 1]?=some z:=⟨V'.al[V'.al.length - 1],List.getElem?_eq_getElem (by omega)⟩
  have hl':V'.al.length<=V.al.length:=by
   have:=jav (V'.al.map PAns.t) (V.al.map PAns.t) q3.once (fun y hy=>by
    obtain ⟨p,hp,rfl⟩:=List.mem_map.1 hy
    exact List.mem_map.2 ⟨p,((q4 p).1 hp).1,rfl⟩)
   simpa using this
  rw [← b2]
  refine (jxv q1 q3 (by omega) (jfc q3) hq hz).mono ?_
  rintro e w' ⟨rfl,rm,o2,p1,p2,p3⟩
  refine ⟨rfl,o2,⟨_,p1,⟨q2.C,q2.now,q2.last,q2.tn,q2.once,q2.tl,q2.kin,q2.live,q2.ls,q2.ol,q2.turns,q2.sizes,q2.held,q2.sold,q2.lu,q2.cust⟩,jko q3 hq hz,fun c=>?_,q5,q6⟩,p2,p3⟩
  show c∈je4 V'.al q z↔_
  rw [jnj q3.once hq hz,q4]
  constructor
  ·rintro ⟨⟨d1,d2⟩,d3⟩
   refine ⟨d1,fun i hi=>?_⟩
   by_cases ei:i=j
   ·rw [ei,← b2];exact d3
   ·exact d2 i (by omega)
  ·rintro ⟨d1,d2⟩
   exact ⟨⟨d1,fun i hi=>d2 i (by omega)⟩,by rw [b2];exact d2 j (by omega)⟩
 ·rintro e w' ⟨rfl,hq⟩
  refine ⟨rfl,jc4 hq (fun W' o' hp=>?_)⟩
  obtain ⟨V',q1,q2,q3,q4,q5,q6⟩:=hp
  refine ⟨V',q1,?_,?_,q5⟩
  ·rw [jtd hnow hk];exact q2
  ·have:=ha.forget hle q3 (fun a=>(q4 a).trans ⟨fun c=>⟨c.1,fun d hd=>?_⟩,fun c=>⟨c.1,fun i hi=>c.2 _ (jeb hi)⟩⟩)
   ·rw [q5,q6];exact this
   ·obtain ⟨i,hi,e⟩:=List.getElem_of_mem hd
    have:=c.2 i hi
    simpa [List.getD,List.getElem?_eq_getElem hi,e] using this
theorem qd5 {to:Int} (hJ:salJ S) (hR:restP S) (hto:S.now<=to) (hmax:to<=4611686018427387904) (h:psx S.now x S last W own) :
 Calls Tryz.prog 66 #[pt x 0,iv to] W fun e w'=>e=.returned (.tuple #[])/\jar (fun W o=>psx to x (S.tickTo to) last W o/\restP (S.tickTo to)) W w' own:=by
 refine jvh (σ:=Sal) x to (fun T=>psx S.now x T last) (fun T W o=>psx to x (T.tickTo to) last W o/\restP (T.tickTo to)) (pcx S.now x last) (fun T=>jb6 _ _ _ _) (fun T t=>qdg _ _ _ _ _) (fun T=>⟨fun h=>(jb6 _ _ _ _).lt h.1,fun h hz hk=>⟨(jb6 _ _ _ _).keep h.1 hz hk,h.2⟩⟩) (fun T=>(salJ T/\restP T)/\T.now<=to/\T.ansL=S.ansL/\T.C=S.C) (fun T=>ja7 T.tset) (fun T=>jc9 T.tset) (fun T=>T.round (ja7 T.tset).1) Sal.todo (fun T=>(ja7 T.tset).1<=to) (fun _=>Iff.rfl) Sal.now (fun T hT=>⟨hT.2.1,fun hb=>Int.le_of_lt ((jgg hb).later hT.1.2.R)⟩) ?_ ?_ ?_ ?_ ?_ ?_ S W own ⟨⟨hJ,hR⟩,hto,rfl,rfl⟩ h
 ·rintro T ⟨⟨hJ',hR'⟩,h1,h2,h3⟩ W' o' ⟨V,⟨g,hm⟩,hr,ha,han⟩
  refine ⟨hm.ownx,fun t hlt=>?_⟩
  obtain ⟨o2,p1,p2,p3⟩:=hm.clock t
  refine ⟨o2,⟨_,p1,⟨hr.C,rfl,hr.last,Int.le_trans hr.tn hlt,hr.once,hr.tl,hr.kin,hr.live,hr.ls,hr.ol,hr.turns,hr.sizes,hr.held,hr.sold,hr.lu,hr.cust⟩,ha,han,hr.tn⟩,p2,p3⟩
 ·rintro T _ W' o' ⟨V,⟨g,hm⟩,_⟩
  exact ⟨hm.xw,⟨_,hm.cell 8 _ rfl⟩,ja0 hm.blk 8⟩
 ·rintro T ⟨⟨hJ',hR'⟩,h1,h2,h3⟩ W' o' ⟨V,⟨g,hm⟩,hr,ha,han⟩
  refine ⟨V.tw,hm.cell 10 _ rfl,fun W2 hb=>?_⟩
  have:=jgh (js0 hm.tw hb)
  rw [(hr.firstK hR'.R).1,(hr.firstK hR'.R).2] at this
  exact this
 ·rintro T ⟨⟨hJ',hR'⟩,h1,h2,h3⟩ hb hc W' o' hp
  exact qce hJ' hR' (jgg hb) (by omega) hp
 ·rintro T ⟨⟨hJ',hR'⟩,h1,h2,h3⟩ hb hc
  have hS:=jgg hb
  have hlt:=hS.later hR'.R
  have h0:=hJ'.I.now
  obtain ⟨a,b,c,d⟩:=jeq T (ja7 T.tset).1
  have ht:=jri hR'.R h0.1 hc hS.alive
  refine ⟨⟨⟨jsq hJ' ⟨by omega,by omega⟩,jrl hS hR'⟩,by rw [b];exact hc,c.trans h2,a.trans h3⟩,jvt hS hR'.R h0.1,?_⟩
  simp only [← ht]
 ·rintro T ⟨⟨hJ',hR'⟩,h1,h2,h3⟩ hc W' o' hp
  have hk:∀ i,T.knows i->to<(T.os.getD i ja2).untl T.C:=fun i hi=>by
   cases hb:jc9 T.tset with
   | false=>exact absurd hi (jts hb i)
   | true =>
     have:=(jgg hb).min i hi
     have:=hc hb
     omega
  rw [show (fun W o=>psx to x (T.tickTo to) last W o/\restP (T.tickTo to))=(fun W o=>psx to x ({ T with now:=to }:Sal) last W o/\restP ({ T with now:=to }:Sal)) by rw [jux hk]]
  refine (jxx hR h3 h2 hto h1 hk hp).mono ?_
  rintro e w' ⟨rfl,hq⟩
  exact ⟨rfl,jc4 hq (fun W o hp=>⟨hp,jt8 h1 hk hR'⟩)⟩
end
end
theorem qas (x:Nat) (n:Int) (w:World) (hn:n<0) :
 Calls Tryz.prog 36 #[pt x 0,iv n] w fun e w'=>e=.returned (.tuple #[iv 0,iv 3])/\Below w.heap.size w w':=by
 go_enter Tryz.func36,Tryz.ntmps36
 go_wp2
 refine bodyPost_ret (v:=.tuple #[iv 0,iv 3]) (by simp [results,Tryz.results36,go_sem]) rfl ⟨rfl,bL⟩
theorem jyj (x:Nat) (n now to:Int) (w:World) (own:Nat->Prop) (P0 PE:World->(Nat->Prop)->Prop) (K0:Keeps P0) (KE:Keeps PE) (h:P0 w own) (hn:¬ n<0) (hn2:n<=9223372036854775807) (hb:0<=now/\now<=4611686018427387904)
 (hto:(n<4611686018427387904 - now/\to=now+n)\/(¬ n<4611686018427387904 - now/\to=4611686018427387904))
 (HX:Hid (∀ W o,P0 W o->x<W.heap.size/\W.cell? (aq x 8)=some (iv now)))
 (HY:Hid (∀ W o,PE W o->x<W.heap.size/\W.cell? (aq x 8)=some (iv to)))
 (HG:Hid (∀ W o,P0 W o->Calls Tryz.prog 66 #[pt x 0,iv to] W fun e w'=>e=.returned (.tuple #[])/\jar PE W w' o)) :
 Calls Tryz.prog 36 #[pt x 0,iv n] w fun e w'=>e=.returned (.tuple #[iv to,iv 0])/\jar PE w w' own:=by
 obtain ⟨hx,c8⟩:=HX.out w own h
 have hw1:IntKind.i64.wrap (4611686018427387904 - now)=4611686018427387904 - now:=jag (by omega) (by omega)
 obtain ⟨hb0,hb1⟩:=hb
 have hT0:Hid (jb5 P0 w own 0 w):=jcw K0 h (Below.refl _ _) (Nat.le_refl _)
 have HGs:Hid (∀ W,jb5 P0 w own 0 W->Calls Tryz.prog 66 #[pt x 0,iv to] W fun e w'=>e=.returned (.tuple #[])/\jb5 PE w own 0 w'/\∀ b,w.heap.size<=b->b<w.heap.size+0->w'.heap[b]?=W.heap[b]?):=fun W hW=>jcb (K0.lt h) HG.out W hW
 clear h HX HG
 rcases hto with ⟨hlt,rfl⟩|⟨hlt,rfl⟩
 ·have hw2:IntKind.i64.wrap (now+n)=now+n:=jag (by omega) (by omega)
  go_enter Tryz.func36,Tryz.ntmps36
  go_wp2_with fail
  refine (HGs.out _ (jai K0 hT0.out bL)).mono ?_
  rintro e W1 ⟨rfl,hT1,_⟩
  obtain ⟨hx1,d8⟩:x<W1.heap.size/\W1.cell? (aq x 8)=some (iv (now+n)):=by
   obtain ⟨o1,a1,_⟩:=hT1
   exact HY.out W1 o1 a1
  replace hT1:Hid _:=hT1
  clear hT0 c8 HY
  go_wp2
  refine bodyPost_ret (v:=.tuple #[iv (now+n),iv 0]) (by simp [results,Tryz.results36,go_sem]) rfl ⟨rfl,jdg (jai KE hT1.out bL)⟩
 ·go_enter Tryz.func36,Tryz.ntmps36
  go_wp2_with fail
  refine (HGs.out _ (jai K0 hT0.out bL)).mono ?_
  rintro e W1 ⟨rfl,hT1,_⟩
  obtain ⟨hx1,d8⟩:x<W1.heap.size/\W1.cell? (aq x 8)=some (iv 4611686018427387904):=by
   obtain ⟨o1,a1,_⟩:=hT1
   exact HY.out W1 o1 a1
  replace hT1:Hid _:=hT1
  clear hT0 c8 HY
  go_wp2
  refine bodyPost_ret (v:=.tuple #[iv 4611686018427387904,iv 0]) (by simp [results,Tryz.results36,go_sem]) rfl ⟨rfl,jdg (jai KE hT1.out bL)⟩
theorem jq4 (S:Sal) (to:Int):(S.tickTo to).C=S.C/\(S.tickTo to).ansL=S.ansL/\(S.tickTo to).os.length=S.os.length:=jiu _ S to
theorem jkd:∀ (n:Nat) (S:Sal) (to:Int),(jdv n S to).now=to
 | 0,_,_=>rfl
 | n+1,S,to=>by
   unfold jdv
   split
   ·rfl
   ·exact jkd n _ to
theorem jik (S:Sal) (to:Int):(S.tickTo to).now=to:=jkd _ S to
theorem tickW:TickOK PSW where
 tick:=by
  intro w x own S n hn1 hn2 h hJ
  obtain ⟨hp,hR⟩:=h
  by_cases hn:n<0
  ·have e:S.tick n=((0,3),S):=by unfold Sal.tick;rw [if_pos hn]
   rw [e]
   refine (qas x n w hn).mono ?_
   rintro e w' ⟨rfl,hb⟩
   obtain ⟨o',a1,a2,a3⟩:=jbb (jb6 S.now x S S.os.length) hp hb
   exact ⟨rfl,o',⟨a1,hR⟩,a2,a3⟩
  ·have h0:=hJ.I.now
   obtain ⟨to,hto,e⟩:∃ to,((n<4611686018427387904 - S.now/\to=S.now+n)\/(¬ n<4611686018427387904 - S.now/\to=4611686018427387904))/\S.tick n=((to,0),S.tickTo to):=by
    unfold Sal.tick
    rw [if_neg hn]
    by_cases hlt:n<4611686018427387904 - S.now
    ·exact ⟨_,.inl ⟨hlt,rfl⟩,by rw [if_pos hlt]⟩
    ·exact ⟨_,.inr ⟨hlt,rfl⟩,by rw [if_neg hlt]⟩
   have hto1:S.now<=to/\to<=4611686018427387904:=by rcases hto with ⟨a,rfl⟩|⟨a,rfl⟩<;>omega
   rw [e]
   have KE:Keeps (fun W o=>psx to x (S.tickTo to) S.os.length W o/\restP (S.tickTo to)):=⟨fun h=>(jb6 _ _ _ _).lt h.1,fun h hz hk=>⟨(jb6 _ _ _ _).keep h.1 hz hk,h.2⟩⟩
   refine (jyj x n S.now to w own (psx S.now x S S.os.length) _ (jb6 _ _ _ _) KE hp hn hn2 h0 hto (fun W o hp=>⟨qbd hp,(jen hp).2.2.2.1⟩) (fun W o hp=>⟨qbd hp.1,?_⟩) (fun W o hp=>qd5 hJ hR hto1.1 hto1.2 hp)).mono ?_
   ·have:=(jen hp.1).2.2.2.1
    rwa [jik] at this
   ·rintro e w' ⟨rfl,o',a1,a2,a3⟩
    refine ⟨rfl,o',⟨?_,a1.2⟩,a2,a3⟩
    have:=a1.1
    show psx (S.tickTo to).now x (S.tickTo to) (S.tickTo to).os.length w' o'
    rw [jik,(jq4 S to).2.2]
    exact this
 clock:=by
  intro w x own S h hJ
  obtain ⟨hp,hR⟩:=h
  refine (qc1 x S.now w (jen hp).2.2.2.1).mono ?_
  rintro e w' ⟨rfl,hb⟩
  obtain ⟨o',a1,a2,a3⟩:=jbb (jb6 S.now x S S.os.length) hp hb
  exact ⟨rfl,o',⟨a1,hR⟩,a2,a3⟩
section
structure PSK (w:World) (x:Nat) (own:Nat->Prop) (S:Sal):Prop where
 ps:PSW w x own S
 J:salJ S
 I:keepI S
def juv (x:Nat) (S:Sal) (W:World) (o:Nat->Prop):Prop:=PSK W x o S
theorem jh6 (x:Nat) (S:Sal):Keeps (juv x S):=⟨fun h=>sendW.lt h.ps,fun h hz hk=>⟨sendW.keep h.ps hz hk,h.J,h.I⟩⟩
theorem jll (x:Nat) (S:Sal):Keeps (fun W o=>PSW W x o S):=⟨fun h=>sendW.lt h,fun h hz hk=>sendW.keep h hz hk⟩
section
variable {w:World} {x:Nat} {own:Nat->Prop} {S:Sal}
theorem jsa (h:PSK w x own S) (p:Stp) (hp:p.fine) :
 Calls Tryz.prog 15 #[pt x 0,p.val] w fun e w'=>e=.returned (.tuple #[(S.does p).1.val,.bool true])/\jar (juv x (S.does p).2) w w' own:=by
 obtain ⟨h1,hJ,hI⟩:=h
 obtain ⟨⟨n1,n2⟩,⟨k1,k2⟩,⟨t1,t2⟩,⟨c1,c2⟩,⟨u1,u2⟩,⟨o1,o2⟩⟩:=hp
 have hR:=h1.2
 have h0:=hJ.I.now
 unfold Sal.does
 by_cases hs:0<=p.k/\p.k<256
 ·have hS:∀ W,Calls Tryz.prog 32 #[.agg #[iv p.k,iv p.t,iv p.c,iv p.u,iv p.o]] W fun e w'=>e=.returned (.bool true)/\Below W.heap.size W w':=fun W=>by
   have:=jpf p.k p.t p.c p.u p.o W
   rw [decide_eq_true hs.1,decide_eq_true hs.2] at this
   exact this
  rw [if_pos hs]
  by_cases hk:p.k=0
  ·rw [if_pos hk]
   obtain ⟨n,k,t,c,u,o⟩:=p
   simp only at *
   subst hk
   have hJ':=jxj hJ n
   refine (jy8 x n t c u o S.now (S.tick n).2.now (S.tick n).1.1 (S.tick n).1.2 w own (fun W o=>PSW W x o S) (fun W o=>PSW W x o (S.tick n).2) (jll _ _) (jll _ _) h1 h0 ?_ hS (fun W o hp=>tickW.clock hp hJ) (fun W o hp=>tickW.tick n n1 (by omega) hp hJ) (fun W o hp=>tickW.clock hp hJ')).mono ?_
   ·unfold Sal.tick
    by_cases hn:n<0
    ·rw [if_pos hn];exact .inl ⟨hn,rfl,rfl,rfl⟩
    ·rw [if_neg hn]
     by_cases hlt:n<4611686018427387904 - S.now
     ·rw [if_pos hlt];exact .inr (.inl ⟨hn,hlt,rfl,rfl,jik _ _⟩)
     ·rw [if_neg hlt];exact .inr (.inr ⟨hn,hlt,rfl,rfl,jik _ _⟩)
   ·rintro e w' ⟨rfl,hq⟩
    exact ⟨rfl,jc4 hq (fun W o hp=>⟨hp,hJ',jth hI n⟩)⟩
  ·rw [if_neg hk]
   have hbne:(p.k != 0)=true:=by simpa using hk
   have HF:∀ W,Calls Tryz.prog 34 #[.agg #[iv p.k,iv p.t,iv p.c,iv p.u,iv p.o]] W fun e w'=>∃ ba bl bc,e=.returned (.slice ba bl bc)/\jah w' ba bl bc p.bytes/\Below W.heap.size W w':=fun W=>by
    refine (jwp p.k p.t p.c p.u p.o W hs.1 hs.2 t2 c2 u2 o2).mono ?_
    rintro e w' ⟨v,rfl,hown,hb⟩
    obtain ⟨g,cap,rfl,hs'⟩:=jib (jn6 hown (by unfold jak;simp)) (p.bytes_byte hs)
    exact ⟨_,_,_,rfl,hs',hb⟩
   have hSend:∀ W o ba bl bc,PSW W x o S->jah W ba bl bc p.bytes->Calls Tryz.prog 33 #[pt x 0,.slice ba bl bc] W fun e w'=>e=.returned (S.sendK p).1.val/\jar (fun W o=>PSW W x o (S.sendK p).2) W w' o:=fun W o ba bl bc hps hsl=>by
    unfold Sal.sendK
    rcases p.un with ⟨hb,hun⟩|⟨hb,hun⟩
    ·rw [if_pos hb]
     exact sendW.send hps hJ hsl hun
    ·rw [if_neg (by rw [hb];decide)]
     have:=sendW.send hps hJ hsl hun
     unfold Sal.send at this
     rw [if_pos (by decide)] at this
     exact this
   have hfit:∀ W,Calls Tryz.prog 35 #[.agg #[iv p.k,iv p.t,iv p.c,iv p.u,iv p.o],.agg #[iv (S.sendK p).1.kind,iv (S.sendK p).1.order,iv (S.sendK p).1.cents,iv (S.sendK p).1.upto]] W fun e w'=>e=.returned (.bool true)/\Below W.heap.size W w':=fun W=>by
    cases hb:p.ok
    ·have e:(S.sendK p).1=⟨1,0,0,0⟩:=by unfold Sal.sendK;rw [hb];rfl
     rw [e]
     exact qbo p.k p.t p.c p.u p.o W hb
    ·exact jzr p.k p.t p.c p.u p.o _ _ _ _ W hb (jom hI hR h0.1 hb).1
   have hI':keepI (S.sendK p).2:=by
    cases hb:p.ok
    ·have e:(S.sendK p).2=S:=by unfold Sal.sendK;rw [hb];rfl
     rw [e];exact hI
    ·exact (jom hI hR h0.1 hb).2
   refine (jwf x p.n p.k p.t p.c p.u p.o (S.sendK p).1.kind (S.sendK p).1.order (S.sendK p).1.cents (S.sendK p).1.upto w own (fun W o=>PSW W x o S) (fun W o=>PSW W x o (S.sendK p).2) (jll _ _) (jll _ _) h1 hbne (fun W ba bl bc=>jah W ba bl bc p.bytes) hS HF hSend hfit).mono ?_
   rintro e w' ⟨rfl,hq⟩
   exact ⟨rfl,jc4 hq (fun W o hp=>⟨hp,ju5 hJ p,hI'⟩)⟩
 ·rw [if_neg hs]
  refine (jz9 x p.n p.k p.t p.c p.u p.o w own (fun W o=>PSW W x o S) (jll _ _) h1 (fun W=>?_)).mono ?_
  ·have:=jpf p.k p.t p.c p.u p.o W
   rw [show (decide (0<=p.k) && decide (p.k<256))=false by simpa using hs] at this
   exact this
  ·rintro e w' ⟨rfl,hq⟩
   exact ⟨rfl,jc4 hq (fun W o hp=>⟨hp,hJ,hI⟩)⟩
end
end
theorem jqh (n0 n1 n2 n3 n4 n5 n6:Int) (a:Option Addr) (len cap:Nat) (ts:List (Int × Int)) (w:World) (h:tiersAt w a len cap ts) :
 Calls Tryz.prog 27 #[.agg #[iv n0,iv n1,iv n2,iv n3,iv n4,iv n5,iv n6,.slice a len cap]] w fun e w'=>e=.returned (.bool (jgk [n0,n1,n2,n3,n4,n5,n6] ts))/\Below w.heap.size w w':=by
 have HC:Hid (∀ W,Below w.heap.size w W->Calls Tryz.prog 57 #[.agg #[iv n0,iv n1,iv n2,iv n3,iv n4,iv n5,iv n6,.slice a len cap]] W fun e w'=>e=.returned (iv (juu (jgk [n0,n1,n2,n3,n4,n5,n6] ts)))/\Below W.heap.size W w'):=fun W hW=>jt1 n0 n1 n2 n3 n4 n5 n6 a len cap ts W (h.below hW (Nat.le_refl _))
 clear h
 generalize jgk [n0,n1,n2,n3,n4,n5,n6] ts=bb at HC ⊢
 cases bb
 all_goals
  simp only [juu,if_true,Bool.false_eq_true,if_false] at HC
  go_enter Tryz.func27,Tryz.ntmps27
  go_wp2_with fail
  refine (HC.out _ bL).mono ?_
  rintro e w1 ⟨rfl,b1⟩
  have hb1:Below w.heap.size w w1:=Below.trans (show Below w.heap.size w _ from bL) (b1.mono (by simp))
  clear b1
  go_wp2
  go_ret
  exact ⟨rfl,bL⟩
theorem jin {w:World} {R:Nat} {c0 c1 c2 c3 c4 c5 c6 c7 c8:Value} {T:TypeId} (h:w.heap[R]?=some (.cells #[c0,c1,c2,c3,c4,c5,c6,c7,c8] T (0,0))):w.cell? (aq R 0)=some c0/\w.cell? (aq R 1)=some c1/\w.cell? (aq R 2)=some c2/\w.cell? (aq R 3)=some c3/\w.cell? (aq R 4)=some c4/\w.cell? (aq R 5)=some c5/\w.cell? (aq R 6)=some c6/\w.cell? (aq R 7)=some c7/\w.cell? (aq R 8)=some c8:=by
 refine ⟨?_,?_,?_,?_,?_,?_,?_,?_,?_⟩<;>rw [Joins.cell_of_block h]<;>rfl
theorem Same.toBelow {own:Nat->Prop} {B:Nat} {w w':World} (h:Same own w w') (hB:B<=w.heap.size) (ho:∀ k,own k->B<=k):Below B w w':=⟨h.os,h.tape,h.output,h.size,fun k hk=>h.block k (by omega) (fun e=>by have:=ho k e;omega)⟩
theorem jua (n0 n1 n2 n3 n4 n5 n6 f0 c0:Int) (b off len cap:Nat) (w:World) (hb:b<w.heap.size) (hl:1<=len) (hl4:len<=4) (hp0:w.cell? (aq b off)=some (iv f0)) (hp1:w.cell? (aq b (off+1))=some (iv c0)) (P0 P1:Nat->World->(Nat->Prop)->Prop) (K0:∀ x,Keeps (P0 x)) (Fr:World->Option Addr->Nat->Nat->Prop)
 (HO:Hid (∀ W,Below w.heap.size w W->Calls Tryz.prog 26 #[.agg #[iv n0,iv n1,iv n2,iv n3,iv n4,iv n5,iv n6,.slice (some (aq b off)) len cap]] W fun e w'=>∃ x own,e=.returned (.tuple #[pt x 0,iv 0])/\P0 x w' own/\(∀ k,own k->W.heap.size<=k)/\Below W.heap.size W w'))
 (HF:Hid (∀ W,Calls Tryz.prog 34 #[.agg #[iv 1,iv 1,iv 1,iv 1,iv 0]] W fun e w'=>∃ ba bl bc,e=.returned (.slice ba bl bc)/\Fr w' ba bl bc/\Below W.heap.size W w'))
 (HSend:Hid (∀ x W o ba bl bc,P0 x W o->Fr W ba bl bc->Calls Tryz.prog 33 #[pt x 0,.slice ba bl bc] W fun e w'=>e=.returned (.agg #[iv 2,iv 1,iv c0,iv n3])/\jar (P1 x) W w' o)) :
 Calls Tryz.prog 28 #[.agg #[iv n0,iv n1,iv n2,iv n3,iv n4,iv n5,iv n6,.slice (some (aq b off)) len cap]] w fun e w'=>e=.returned (.bool true)/\Below w.heap.size w w':=by
 have HP0:Hid _:=hp0
 have HP1:Hid _:=hp1
 go_enter Tryz.func28,Tryz.ntmps28
 go_wp2_with fail
 refine (HO.out _ bL).mono ?_
 rintro e w1 ⟨x,own,rfl,hp,hfr,b1⟩
 have hz1:w.heap.size+1<=w1.heap.size:=Nat.le_trans (by simp) b1.size
 have hb1:Below w.heap.size w w1:=Below.trans (show Below w.heap.size w _ from bL) (b1.mono (by simp))
 have hfr1:Hid (∀ k,own k->w.heap.size+1<=k):=fun k e=>Nat.le_trans (by simp) (hfr k e)
 have cb1:=(b1.block w.heap.size (by simp)).trans (heap_alloc_new w _)
 have q0:=(hb1.cell (p:=(aq b off)) hb).trans hp0
 have q1:=(hb1.cell (p:=(aq b (off+1))) hb).trans hp1
 replace hp:Hid (P0 x w1 own):=hp
 replace hb1:Hid _:=hb1
 have e3:w1.cell? (aq w.heap.size 3)=some (iv n3):=by rw [Joins.cell_of_block cb1];rfl
 have e7:w1.cell? (aq w.heap.size 7)=some (.slice (some (aq b off)) len cap):=by rw [Joins.cell_of_block cb1];rfl
 replace cb1:Hid _:=cb1
 have bl0:¬ (len:Int)=0:=by omega
 have bl1:(0:Int)<(len:Int):=by omega
 have hbw1:b<w1.heap.size:=Nat.lt_of_lt_of_le hb hb1.out.size
 clear b1 hfr HO
 go_wp2_with fail
 refine (HF.out _).mono ?_
 rintro e w2 ⟨ba,bl,bc,rfl,hFr,b2⟩
 have hp2:Hid (P0 x w2 own):=(K0 x).keep hp.out b2.size (fun k e=>b2.block k ((K0 x).lt hp.out k e))
 have hb2:Hid (Below w.heap.size w w2):=hb1.out.trans (b2.mono hb1.out.size)
 have cb2:Hid _:=(b2.block _ (blt cb1.out)).trans cb1.out
 clear e3 e7 q0 q1 hbw1 hp cb1 hb1 b2 HF hp0 hp1
 go_wp2_with fail
 refine (HSend.out x _ own ba bl bc hp2.out hFr).mono ?_
 rintro e w3 ⟨rfl,o3,_,hs3,_⟩
 have hb3:Hid (Below w.heap.size w w3):=hb2.out.trans (hs3.toBelow hb2.out.size (fun k e=>by have:=hfr1.out k e;omega))
 have cb3:Hid _:=(hs3.block w.heap.size (blt cb2.out) (fun e=>by have:=hfr1.out _ e;omega)).trans cb2.out
 have e3:w3.cell? (aq w.heap.size 3)=some (iv n3):=by rw [Joins.cell_of_block cb3.out];rfl
 have e7:w3.cell? (aq w.heap.size 7)=some (.slice (some (aq b off)) len cap):=by rw [Joins.cell_of_block cb3.out];rfl
 have q0:=(hb3.out.cell (p:=(aq b off)) hb).trans HP0.out
 have q1:=(hb3.out.cell (p:=(aq b (off+1))) hb).trans HP1.out
 have hbw3:b<w3.heap.size:=Nat.lt_of_lt_of_le hb hb3.out.size
 have hww3:w.heap.size<w3.heap.size:=(blt cb3.out)
 clear hs3 hFr hp2 hb2 cb2 HSend
 go_wp2_with fail
 go_quiet (fail)
 go_wp2
 refine bodyPost_ret (v:=.bool true) (by simp [results,Tryz.results28,go_sem]) rfl ⟨rfl,?_⟩
 repeat (first|exact hb3.out|refine Below.drew ?_|refine jae ?_|refine Below.alloc ?_ (by omega) _)
theorem jy7 (n0 n1 n2 n3 n4 n5 n6:Int) (a sa:Option Addr) (len cap sl sc:Nat) (w:World)
 (HO:Hid (∀ W,Below w.heap.size w W->Calls Tryz.prog 26 #[.agg #[iv n0,iv n1,iv n2,iv n3,iv n4,iv n5,iv n6,.slice a len cap]] W fun e w'=>e=.returned (.tuple #[.pointer none,iv 1])/\Below W.heap.size W w'))
 (HR:Hid (∀ W,Below w.heap.size w W->Calls Tryz.prog 27 #[.agg #[iv n0,iv n1,iv n2,iv n3,iv n4,iv n5,iv n6,.slice a len cap]] W fun e w'=>e=.returned (.bool false)/\Below W.heap.size W w')) :
 Calls Tryz.prog 13 #[.agg #[iv n0,iv n1,iv n2,iv n3,iv n4,iv n5,iv n6,.slice a len cap,.slice sa sl sc]] w fun e w'=>e=.returned (.tuple #[.pointer none,.bool true])/\Below w.heap.size w w':=by
 go_enter Tryz.func13,Tryz.ntmps13
 go_wp2_with fail
 refine (HO.out _ bL).mono ?_
 rintro e w1 ⟨rfl,b1⟩
 have hb1:Hid (Below w.heap.size w w1):=Below.trans (show Below w.heap.size w _ from bL) (b1.mono (by simp))
 have cb1:=(b1.block w.heap.size (by simp)).trans (heap_alloc_new w _)
 obtain ⟨k0,k1,k2,k3,k4,k5,k6,k7,k8⟩:=jin cb1
 have l1:w.heap.size<w1.heap.size:=(blt cb1)
 clear b1 HO cb1
 go_wp2_with fail
 refine (HR.out _ hb1.out).mono ?_
 rintro e w2 ⟨rfl,b2⟩
 have hb2:Hid (Below w.heap.size w w2):=hb1.out.trans (b2.mono hb1.out.size)
 clear b2 hb1 HR k0 k1 k2 k3 k4 k5 k6 k7 k8
 go_wp2
 refine bodyPost_ret (v:=.tuple #[.pointer none,.bool true]) (by simp [results,Tryz.results13,go_sem]) rfl ⟨rfl,?_⟩
 repeat (first|exact hb2.out|refine Below.drew ?_|refine jae ?_)
theorem jy2 (n0 n1 n2 n3 n4 n5 n6:Int) (a sa:Option Addr) (len cap sl sc:Nat) (w:World) (P0:Nat->World->(Nat->Prop)->Prop) (K0:∀ x,Keeps (P0 x))
 (HO:Hid (∀ W,Below w.heap.size w W->Calls Tryz.prog 26 #[.agg #[iv n0,iv n1,iv n2,iv n3,iv n4,iv n5,iv n6,.slice a len cap]] W fun e w'=>∃ x own,e=.returned (.tuple #[pt x 0,iv 0])/\P0 x w' own/\(∀ k,own k->W.heap.size<=k)/\Below W.heap.size W w'))
 (HR:Hid (∀ W,Below w.heap.size w W->Calls Tryz.prog 27 #[.agg #[iv n0,iv n1,iv n2,iv n3,iv n4,iv n5,iv n6,.slice a len cap]] W fun e w'=>e=.returned (.bool true)/\Below W.heap.size W w'))
 (HS:Hid (∀ W,Below w.heap.size w W->Calls Tryz.prog 28 #[.agg #[iv n0,iv n1,iv n2,iv n3,iv n4,iv n5,iv n6,.slice a len cap]] W fun e w'=>e=.returned (.bool true)/\Below W.heap.size W w')) :
 Calls Tryz.prog 13 #[.agg #[iv n0,iv n1,iv n2,iv n3,iv n4,iv n5,iv n6,.slice a len cap,.slice sa sl sc]] w fun e w'=>∃ x own,e=.returned (.tuple #[pt x 0,.bool true])/\P0 x w' own/\(∀ k,own k->w.heap.size<=k)/\Below w.heap.size w w':=by
 go_enter Tryz.func13,Tryz.ntmps13
 go_wp2_with fail
 refine (HO.out _ bL).mono ?_
 rintro e w1 ⟨x,own,rfl,hp,hfr,b1⟩
 have hb1:Hid (Below w.heap.size w w1):=Below.trans (show Below w.heap.size w _ from bL) (b1.mono (by simp))
 have hfr1:Hid (∀ k,own k->w.heap.size<=k):=fun k e=>Nat.le_trans (by simp) (hfr k e)
 have cb1:=(b1.block w.heap.size (by simp)).trans (heap_alloc_new w _)
 obtain ⟨k0,k1,k2,k3,k4,k5,k6,k7,k8⟩:=jin cb1
 have l1:w.heap.size<w1.heap.size:=(blt cb1)
 replace hp:Hid (P0 x w1 own):=hp
 replace cb1:Hid _:=cb1
 clear b1 HO hfr
 go_wp2_with fail
 refine (HR.out _ hb1.out).mono ?_
 rintro e w2 ⟨rfl,b2⟩
 have hb2:Hid (Below w.heap.size w w2):=hb1.out.trans (b2.mono hb1.out.size)
 have hp2:Hid (P0 x w2 own):=(K0 x).keep hp.out b2.size (fun k e=>b2.block k ((K0 x).lt hp.out k e))
 have cb2:=(b2.block w.heap.size l1).trans cb1.out
 clear b2 hb1 HR k0 k1 k2 k3 k4 k5 k6 k7 k8 hp l1 cb1
 obtain ⟨k0,k1,k2,k3,k4,k5,k6,k7,k8⟩:=jin cb2
 have l2:w.heap.size<w2.heap.size:=(blt cb2)
 clear cb2
 go_wp2_with fail
 refine (HS.out _ hb2.out).mono ?_
 rintro e w3 ⟨rfl,b3⟩
 have hb3:Hid (Below w.heap.size w w3):=hb2.out.trans (b3.mono hb2.out.size)
 have hp3:Hid (P0 x w3 own):=(K0 x).keep hp2.out b3.size (fun k e=>b3.block k ((K0 x).lt hp2.out k e))
 clear b3 hb2 hp2 k0 k1 k2 k3 k4 k5 k6 k7 k8 HS
 go_wp2
 refine bodyPost_ret (v:=.tuple #[pt x 0,.bool true]) (by simp [results,Tryz.results13,go_sem]) rfl ⟨x,own,rfl,hp3.out,hfr1.out,?_⟩
 exact hb3.out
structure OpenOK (PS:World->Nat->(Nat->Prop)->Sal->Prop):Prop where
 no:∀ {w:World} {n0 n1 n2 n3 n4 n5 n6:Int} {a:Option Addr} {len cap:Nat} {ts:List (Int × Int)},tiersAt w a len cap ts->jgk [n0,n1,n2,n3,n4,n5,n6] ts=false->Calls Tryz.prog 26 #[.agg #[iv n0,iv n1,iv n2,iv n3,iv n4,iv n5,iv n6,.slice a len cap]] w fun e w'=>e=.returned (.tuple #[.pointer none,iv 1])/\Below w.heap.size w w'
 yes:∀ {w:World} {n0 n1 n2 n3 n4 n5 n6:Int} {a:Option Addr} {len cap:Nat} {ts:List (Int × Int)},tiersAt w a len cap ts->jgk [n0,n1,n2,n3,n4,n5,n6] ts=true->Calls Tryz.prog 26 #[.agg #[iv n0,iv n1,iv n2,iv n3,iv n4,iv n5,iv n6,.slice a len cap]] w fun e w'=>∃ x own,e=.returned (.tuple #[pt x 0,iv 0])/\PS w' x own ⟨⟨n0,n1,n2,n3,n4,n5,n6,ts⟩,0,[],[]⟩/\(∀ k,own k->w.heap.size<=k)/\Below w.heap.size w w'
end Go.Proofs.YtfhncfghblkgeaaGreat
