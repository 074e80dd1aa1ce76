import Derived.Test.YtfhncfghblkgeabGreatL04
set_option maxRecDepth 100000
set_option maxHeartbeats 2000000
namespace Go.Proofs.YtfhncfghblkgeabGreat
open Go.RowKit
theorem sS (R:Nat) (v:Value) (L:List (Int × Int)) (w:World) (h1:w.cell? (aq R 1)=some v) (hd:Uv w v L) (hl:L.length * 16<=140737488351232) :
 Ca 116 #[pt R 0] w fun e w'=>e=.returned (iv (qW L L.length))/\Below w.heap.size w w':=by
 obtain ⟨a,c,rfl,hc⟩:=hd
 have hRw:R<w.heap.size:=uC w _ h1
 have HC:Hid (0<L.length->∃ g,a=some (aq g 0)/\g<w.heap.size/\∀ i,i<L.length->w.cell? (aq g (i * 2))=some (iv (L.getD i (0,0)).1)/\w.cell? (aq g (i * 2+1))=some (iv (L.getD i (0,0)).2)):=hc
 have H1:Hid (w.cell? (aq R 1)=some (.slice a L.length c)):=h1
 clear hc h1
 go_enter Tryz.func116,Tryz.ntmps116
 go_wp2_with fail
 go_loopw [3,4] (fun k i wr=>∃ j:Nat,j<=L.length/\i=iv j/\k=iv (qW L j)/\Below w.heap.size w wr) (fun _ i _=>L.length - (intOf i).toNat)
 case atStart=>exact ⟨0,Nat.zero_le _,rfl,rfl,uM _ _⟩
 case round =>
  obtain ⟨j,hj,rfl,rfl,hbel⟩:=hrel
  have k1:wr.cell? (aq R 1)=some (.slice a L.length c):=(hbel.cell (p:=(aq R 1)) hRw).trans H1.out
  have hlb:=vJ L j
  by_cases hlt:j<L.length
  ·obtain ⟨g,rfl,hgw,hcell⟩:=HC.out uO
   have hgwr:g<wr.heap.size:=uB hgw hbel.size
   have hRwr:R<wr.heap.size:=uB hRw hbel.size
   by_cases hneg:qW L j<0
   ·have HL:Hid (qW L (j+1)=j):=by unfold Hid;rw [qW,uQ hneg]
    have hm1:qW L j=-1:=uO
    rw [hm1]
    clear hcell hneg hm1 hlb
    go_wp2
    go_quiet (fail)
    go_wp2
    go_roundw
    case rel=>exact ⟨j+1,uO,vN,by rw [HL.out],qY hbel⟩
    case measure=>simp [intOf];omega
   ·obtain ⟨q,hq⟩:=Int.eq_ofNat_of_zero_le (show 0<=qW L j by omega)
    have hql:q<L.length:=uO
    have HL:Hid (qW L (j+1)=if qR (L.getD j (0,0)) (L.getD q (0,0)) then (j:Int) else (q:Int)):=by unfold Hid;rw [qW,uP hneg,hq,Int.toNat_natCast]
    have c0:=(hbel.cell (p:=(aq g (j * 2))) hgw).trans (hcell j hlt).1
    have c1:=(hbel.cell (p:=(aq g (j * 2+1))) hgw).trans (hcell j hlt).2
    have d0:=(hbel.cell (p:=(aq g (q * 2))) hgw).trans (hcell q hql).1
    have d1:=(hbel.cell (p:=(aq g (q * 2+1))) hgw).trans (hcell q hql).2
    rw [hq]
    clear hcell hneg hlb hq
    generalize L.getD j (0,0)=x at c0 c1 HL
    generalize L.getD q (0,0)=y at d0 d1 HL
    obtain ⟨x0,x1⟩:=x
    obtain ⟨y0,y1⟩:=y
    simp only at c0 c1 d0 d1
    have hqi:(q:Int)<(L.length:Int):=uO
    have hqn:decide ((q:Int)<0)=false:=by simp
    have HA:Hid (∀ w':World,Ca 142 #[.agg #[iv x0,iv x1],.agg #[iv y0,iv y1]] w' fun e w2=>e=.returned (.bool (qR (x0,x1) (y0,y1)))/\Below w'.heap.size w' w2):=fun w'=>Hg (x0,x1) (y0,y1) w'
    generalize qR (x0,x1) (y0,y1)=ah at HL HA
    go_wp2
    go_region_held3 (fun w'=>w'.cell? (aq R 1)=some (.slice (some (aq g 0)) L.length c)/\w'.cell? (aq g (j * 2))=some (iv x0)/\w'.cell? (aq g (j * 2+1))=some (iv x1)/\w'.cell? (aq g (q * 2))=some (iv y0)/\w'.cell? (aq g (q * 2+1))=some (iv y1)) (simp [go_sem, *])
     (first
       | (go_at_call 142;refine (HA.out _).mono ?_;rintro e w2 ⟨rfl,b2⟩
          have e0:=(b2.cell (p:=(aq R 1)) uT).trans (uN:_=some (.slice (some (aq g 0)) L.length c))
          have e1:=(b2.cell (p:=(aq g (j * 2))) uT).trans (uN:_=some (iv x0))
          have e2:=(b2.cell (p:=(aq g (j * 2+1))) uT).trans (uN:_=some (iv x1))
          have e3:=(b2.cell (p:=(aq g (q * 2))) uT).trans (uN:_=some (iv y0))
          have e4:=(b2.cell (p:=(aq g (q * 2+1))) uT).trans (uN:_=some (iv y1))))
    have hbel2:Below w.heap.size w w2:=uL hbel.drew (b2.mono (by simp;exact hbel.size))
    clear e0 e1 e2 e3 e4 c0 c1 d0 d1 b2
    cases ah
    ·go_wp2
     go_roundw
     case rel=>exact ⟨j+1,uO,vN,by rw [HL.out];rfl,hbel2⟩
     case measure=>simp [intOf];omega
    ·go_wp2
     go_roundw
     case rel=>exact ⟨j+1,uO,vN,by rw [HL.out];rfl,hbel2⟩
     case measure=>simp [intOf];omega
  ·have hje:j=L.length:=uO
   subst hje
   go_wp2
   go_ret
   exact ⟨rfl,hbel⟩
def fC (w:World) (B R:Nat) (now:Int) (v:Value) (L:List (Int × Int)):Prop :=
 w.heap[R]?=some (.cells #[iv now,v] 159)/\w.ownsRow B 123 2 v L.length (qV L)
def rwAns (w w':World) (B R:Nat) (v:Value) (now:Int) (L:List (Int × Int)):Prop :=
 ∃ v',fC w' B R now v' L/\Same (fun b=>b=R\/v.ownBlock=some b) w w'/\∀ k,v'.ownBlock=some k->v.ownBlock=some k\/w.heap.size<=k
theorem Ct {w:World} {B R:Nat} {now:Int} {v:Value} {L:List (Int × Int)} (h:fC w B R now v L):v.ownBlock≠some R:=by
 intro e
 rcases h.2.2 with ⟨rfl,_⟩|⟨g,c,cur,rfl,_,hh,_⟩
 ·simp [Value.ownBlock] at e
 ·simp [Value.ownBlock] at e
  subst e
  rw [h.1] at hh
  simp at hh
theorem Dj {w:World} {B R:Nat} {now:Int} {v:Value} {L:List (Int × Int)} (h:fC w B R now v L):∃ a c,v=.slice a L.length c:=by
 rcases h.2.2 with ⟨rfl,h0⟩|⟨g,cap,cur,rfl,_⟩
 ·exact ⟨none,0,by rw [h0]⟩
 ·exact ⟨_,_,rfl⟩
theorem rwAns.same {w:World} {B R:Nat} {now:Int} {v:Value} {L:List (Int × Int)} (h:fC w B R now v L) {w':World} (hb:Bl w w'):rwAns w w' B R v now L :=
 ⟨v,⟨(hb.block R (blt h.1)).trans h.1,qH h.2 hb (uA _)⟩,Same.of_below hb,fun _ hk=>.inl hk⟩
theorem Em {w w3:World} {B R:Nat} {now:Int} {v v':Value} {L:List (Int × Int)} {p:Int × Int} {O:Obj} (h:fC w B R now v L) (hown3:w3.ownsRow B 123 2 v' (L.length+1) (qV L++[iv p.1,iv p.2])) (hg:(w.alloc O).grownBy w3 v.ownBlock) (hat:v'.ownBlock=v.ownBlock\/v'.ownBlock=some (w.alloc O).heap.size) :
 rwAns w (w3.sc R 1 v') B R v now (L++[p]):=by
 have hR:R<w.heap.size:=(blt h.1)
 have hkeep:∀ k,k<w.heap.size->v.ownBlock≠some k->w3.heap[k]?=w.heap[k]?:=fun k hk hn=>(hg.block k uT (fun e=>hn e.symm)).trans (uE w O k hk)
 have hR3:w3.heap[R]?=some (.cells #[iv now,v] 159):=(hkeep R hR (Ct h)).trans h.1
 have hne:v'.ownBlock≠some R:=by
  intro e
  rcases hat with e'|e'
  ·exact Ct h (e'.symm.trans e)
  ·rw [e] at e';simp at e';omega
 refine ⟨v',⟨?_,?_⟩,?_,?_⟩
 ·rw [uH hR3];rfl
 ·rw [fM,List.length_append,List.length_singleton]
  refine ⟨hown3.1,hown3.2.imp id ?_⟩
  rintro ⟨g,cap,cur,hv,hb,hh,hr⟩
  refine ⟨g,cap,cur,hv,hb,?_,hr⟩
  rw [uG _ (aq R 1) _ _ (fun e=>hne (by rw [hv];simp [Value.ownBlock];exact e))]
  exact hh
 ·have hsz:w.heap.size<=w3.heap.size:=by have:=hg.size;simp at this;omega
  refine ⟨hg.os,hg.tape,hg.output,by simpa [World.setCell] using hsz,fun k hk hn=>?_⟩
  rw [uG _ (aq R 1) _ _ (fun e=>hn (.inl e)),hkeep k hk (fun e=>hn (.inr e))]
 ·intro k hk
  rcases hat with e'|e'
  ·exact .inl (e'.symm.trans hk)
  ·rw [e'] at hk;simp at hk;exact .inr uO
theorem Iz (B R:Nat) (now:Int) (v:Value) (L:List (Int × Int)) (id at':Int) (w:World) (h:fC w B R now v L) (hB:B<=w.heap.size) (hl:L.length * 16+16<=140737488351232) :
 Ca 80 #[pt R 0,iv id,iv at'] w fun e w'=>e=.returned (iv (Xk now L id at'))/\rwAns w w' B R v now (vI now L id at'):=by
 obtain ⟨i0,hi,hz0,hz1,hz2⟩:=info_parts Tryz.infoDue
 have HR:Hid (fC w B R now v L):=h
 obtain ⟨k0,k1⟩:=jH h.1
 have hRw:R<w.heap.size:=(blt h.1)
 have HN:Hid (rwAns w w B R v now L):=rwAns.same h (uM _ _)
 by_cases ha:at'<=now
 ·have HE:Hid (Xk now L id at'=3/\vI now L id at'=L):=by simp [Hid,Xk,vI,ha]
  clear h
  go_enter Tryz.func80,Tryz.ntmps80
  go_wp2
  go_ret
  exact ⟨by rw [HE.out.1];rfl,by rw [HE.out.2];exact HN.out⟩
 ·have HX:Hid (Ca 113 #[pt R 0,iv id] w fun e w'=>e=.returned (iv (gY L id))/\w=w'):=pZ R v L id w k1 (xX h.2) uO
  have ha':decide (at'<=now)=false:=by simpa using ha
  by_cases hx:0<=gY L id
  ·have HE:Hid (Xk now L id at'=4/\vI now L id at'=L):=by simp [Hid,Xk,vI,ha,hx]
   clear h
   generalize gY L id=x at HX hx
   go_enter Tryz.func80,Tryz.ntmps80
   go_wp2_with (go_at_call 113;refine HX.out.mono ?_;rintro e w1 ⟨rfl,rfl⟩)
   go_wp2
   go_ret
   exact ⟨by rw [HE.out.1];rfl,by rw [HE.out.2];exact HN.out⟩
  ·have HE:Hid (Xk now L id at'=0/\vI now L id at'=L++[(at',id)]):=by simp [Hid,Xk,vI,ha,hx]
   obtain ⟨va,vc,rfl⟩:=Dj h
   have hown:=h.2
   have pf:=qA h.1 1
   generalize gY L id=x at HX hx
   clear h
   go_enter Tryz.func80,Tryz.ntmps80
   go_wp2_with (first|(go_at_call 113;refine HX.out.mono ?_;rintro e w1 ⟨rfl,rfl⟩)|(at_builtin;refine wpList_append_own_at _ rfl _ _ 121 rfl B 123 i0 (.agg #[iv 0,iv 0]) 2 16 Tryz.underlying121 hi hz0 hz1 hz2 rfl vO _ _ _ rfl (hown.alloc _) (aq w.heap.size 0) 1 1 [iv at',iv id] rfl rfl ?c1 ?c2 ?c3 ?c4 ?c5 ?_))
   case c1=>exact wY
   case c2=>intro u hu;simp at hu;rcases hu with rfl|rfl<;>rfl
   case c3=>unfold maxLen;omega
   case c4=>omega
   case c5=>simp;omega
   intro v' w3 hown3 hgrow _ hat
   obtain ⟨g3,cap3,rfl⟩:∃ g3 cap3,v'=.slice (some (aq g3 0)) (L.length+1) cap3:=by
    rcases hown3.2 with ⟨_,h0⟩|⟨g,cap,cur,hv,_⟩
    ·omega
    ·exact ⟨_,_,hv⟩
   have hR3:w3.heap[R]?=some (.cells #[iv now,.slice va L.length vc] 159):=(hgrow.block R uT (fun e=>Ct HR.out e.symm)).trans ((uE _ _ _ hRw).trans HR.out.1)
   obtain ⟨_,q1⟩:=jH hR3
   have qf:=qA hR3 1
   have HA:Hid (rwAns w (w3.sc R 1 (.slice (some (aq g3 0)) (L.length+1) cap3)) B R (.slice va L.length vc) now (L++[(at',id)])):=Em HR.out hown3 hgrow (by simpa using hat)
   clear hown3 hgrow hR3 hown hat
   go_wp2
   go_ret
   exact ⟨by rw [HE.out.1];rfl,by rw [HE.out.2];exact HA.out⟩
theorem Rd {w w1:World} {B R:Nat} {now:Int} {v v':Value} {L L':List (Int × Int)} (h:fC w B R now v L) (hB:B<=w.heap.size) (hown:w1.ownsRow w.heap.size 123 2 v' L'.length (qV L')) (hb:Bl w w1) :
 rwAns w (w1.sc R 1 v') B R v now L':=by
 have hR:R<w.heap.size:=(blt h.1)
 have hR1:w1.heap[R]?=some (.cells #[iv now,v] 159):=(hb.block R hR).trans h.1
 refine ⟨v',⟨?_,?_⟩,?_,?_⟩
 ·rw [uH hR1];rfl
 ·refine ⟨hown.1,hown.2.imp id ?_⟩
  rintro ⟨g,cap,cur,hv,hg,hh,hr⟩
  refine ⟨g,cap,cur,hv,uO,?_,hr⟩
  rw [uG _ (aq R 1) _ _ (by show g≠R;omega)]
  exact hh
 ·refine ⟨hb.os,hb.tape,hb.output,by simpa [World.setCell] using hb.size,fun k hk hn=>?_⟩
  rw [uG _ (aq R 1) _ _ (fun e=>hn (.inl e)),hb.block k hk]
 ·exact fun k hk=>.inr (uJ hown k hk).1
theorem He (B R:Nat) (now:Int) (v:Value) (L:List (Int × Int)) (id:Int) (w:World) (h:fC w B R now v L) (hB:B<=w.heap.size) (hl:L.length * 16<=140737488351232) :
 Ca 82 #[pt R 0,iv id] w fun e w'=>e=.returned (iv (gT L id))/\rwAns w w' B R v now (yL L id):=by
 have HR:Hid (fC w B R now v L):=h
 obtain ⟨k0,k1⟩:=jH h.1
 have hRw:R<w.heap.size:=(blt h.1)
 have HN:Hid (rwAns w w B R v now L):=rwAns.same h (uM _ _)
 have HX:Hid (Ca 113 #[pt R 0,iv id] w fun e w'=>e=.returned (iv (gY L id))/\w=w'):=pZ R v L id w k1 (xX h.2) uO
 by_cases hx:gY L id<0
 ·have HE:Hid (gT L id=5/\yL L id=L):=by simp [Hid,gT,yL,hx]
  clear h
  generalize gY L id=x at HX hx
  go_enter Tryz.func82,Tryz.ntmps82
  go_wp2_with (go_at_call 113;refine HX.out.mono ?_;rintro e w1 ⟨rfl,rfl⟩)
  go_wp2
  go_ret
  exact ⟨by rw [HE.out.1];rfl,by rw [HE.out.2];exact HN.out⟩
 ·obtain ⟨q,hq⟩:=Int.eq_ofNat_of_zero_le (show 0<=gY L id by omega)
  have HE:Hid (gT L id=0/\yL L id=L.eraseIdx q):=by simp [Hid,gT,yL,hq];intro hc;omega
  have HW:Hid (Ca 115 #[pt R 0,iv q] w fun e w'=>∃ v',e=.returned v'/\w'.ownsRow w.heap.size 123 2 v' (L.eraseIdx q).length (qV (L.eraseIdx q))/\Below w.heap.size w w'):=bS R v L q w k1 (xX h.2) hl
  rw [hq] at HX
  clear h hx hq
  go_enter Tryz.func82,Tryz.ntmps82
  go_wp2_with (go_at_call 113;refine HX.out.mono ?_;rintro e w1 ⟨rfl,rfl⟩)
  go_wp2_with (go_at_call 115;refine HW.out.mono ?_;rintro e w1 ⟨v',rfl,ho,hb⟩
               have HA:Hid (rwAns w (w1.sc R 1 v') B R v now (L.eraseIdx q)):=Rd HR.out hB ho hb
               obtain ⟨va,vc,rfl⟩:=yE ho
               have hR1:w1.heap[R]?=some (.cells #[iv now,v] 159):=(hb.block R hRw).trans HR.out.1
               have q1:=(jH hR1).2
               have qf:=qA hR1 1
               clear hR1 ho hb)
  go_wp2
  go_ret
  exact ⟨by rw [HE.out.1];rfl,by rw [HE.out.2];exact HA.out⟩
theorem Li (B R:Nat) (now:Int) (v:Value) (L:List (Int × Int)) (w:World) (h:fC w B R now v L) (hl:L.length * 16<=140737488351232) :
 Ca 83 #[pt R 0] w fun e w'=>e=.returned (.tuple #[.agg #[iv (qN L).1,iv (qN L).2],.bool (zB L)])/\Below w.heap.size w w':=by
 obtain ⟨k0,k1⟩:=jH h.1
 have hRw:R<w.heap.size:=(blt h.1)
 have HX:Hid (∀ O,Ca 116 #[pt R 0] (w.alloc O) fun e w'=>e=.returned (iv (qW L L.length))/\Below (w.heap.size+1) (w.alloc O) w'):=by
  intro O
  have:=sS R v L (w.alloc O) (by rw [World.cell?_alloc_past _ _ _ hRw];exact k1) (xX (h.2.alloc O)) hl
  simpa using this
 have hlb:=vJ L L.length
 by_cases hx:qW L L.length<0
 ·have HE:Hid (qN L=(0,0)/\zB L=false):=by simp [Hid,qN,zB,hx]
  generalize qW L L.length=x at HX hx
  clear h hlb
  go_enter Tryz.func83,Tryz.ntmps83
  go_wp2_with fail
  refine (HX.out _).mono ?_
  rintro e w1 ⟨rfl,b1⟩
  have n0:w1.heap[w.heap.size]?=some (.cells #[iv 0,iv 0] 123):=(b1.block _ (Nat.lt_succ_self _)).trans (uF w _)
  obtain ⟨r0,r1⟩:=jH n0
  have f0:=qA n0 0
  have f1:=qA n0 1
  have w01:Bl w w1:=((uM _ _).alloc (uA _) _).trans (b1.mono uO)
  go_wp2
  refine uK (v:=.tuple #[.agg #[iv 0,iv 0],.bool false]) (by simp [results,Tryz.results83,go_sem,r0,r1]) rfl ⟨by rw [HE.out.1,HE.out.2],?_⟩
  exact ((w01.setCell (p:=(aq w.heap.size 0)) (uA _) _).setCell (p:=(aq w.heap.size 1)) (uA _) _)
 ·obtain ⟨q,hq⟩:=Int.eq_ofNat_of_zero_le (show 0<=qW L L.length by omega)
  have hql:q<L.length:=uO
  have HE:Hid (qN L=L.getD q (0,0)/\zB L=true):=by simp [Hid,qN,zB,hq];intro hc;omega
  obtain ⟨a,c,rfl,hc⟩:=xX h.2
  obtain ⟨g,rfl,hgw,hcell⟩:=hc uO
  obtain ⟨d0,d1⟩:=hcell q hql
  rw [hq] at HX
  generalize L.getD q (0,0)=p at d0 d1 HE
  obtain ⟨p0,p1⟩:=p
  simp only at d0 d1
  clear h hx hq hlb hc hcell
  go_enter Tryz.func83,Tryz.ntmps83
  go_wp2_with fail
  refine (HX.out _).mono ?_
  rintro e w1 ⟨rfl,b1⟩
  have n0:w1.heap[w.heap.size]?=some (.cells #[iv 0,iv 0] 123):=(b1.block _ (Nat.lt_succ_self _)).trans (uF w _)
  obtain ⟨r0,r1⟩:=jH n0
  have f0:=qA n0 0
  have f1:=qA n0 1
  have w01:Bl w w1:=((uM _ _).alloc (uA _) _).trans (b1.mono uO)
  have e1:=(w01.cell (p:=(aq R 1)) hRw).trans k1
  have e2:=(w01.cell (p:=(aq g (q * 2))) hgw).trans d0
  have e3:=(w01.cell (p:=(aq g (q * 2+1))) hgw).trans d1
  go_wp2
  refine uK (v:=.tuple #[.agg #[iv p0,iv p1],.bool true]) (by simp [results,Tryz.results83,go_sem,r0,r1]) rfl ⟨by rw [HE.out.1,HE.out.2],?_⟩
  exact ((w01.setCell (p:=(aq w.heap.size 0)) (uA _) _).setCell (p:=(aq w.heap.size 1)) (uA _) _)
def mR (w w':World) (B R:Nat) (v:Value) (now:Int) (out:Value) (o L:List (Int × Int)):Prop :=
 w'.ownsRow w.heap.size 123 2 out o.length (qV o)/\∃ v',fC w' B R now v' L/\Same (fun b=>b=R) w w'/\(∀ k,v'.ownBlock=some k->v.ownBlock=some k\/w.heap.size<=k)/\(∀ k,out.ownBlock=some k->v'.ownBlock≠some k)
theorem YV {w:World} {B n R:Nat} {v:Value} {xs:List Value} {C:Array Value} (h:w.ownsRow B 123 2 v n xs) (hR:w.heap[R]?=some (.cells C 159)):v.ownBlock≠some R:=by
 intro e
 rcases h.2 with ⟨rfl,_⟩|⟨g,c,cur,rfl,_,hh,_⟩
 ·simp [Value.ownBlock] at e
 ·simp [Value.ownBlock] at e
  subst e
  rw [hR] at hh
  simp at hh
theorem Af {w wr w2 w3 w4:World} {B R:Nat} {v0 v' out out':Value} {to:Int} {o L:List (Int × Int)} {L':List (Int × Int)} {p:Int × Int} {O:Obj} (hB:B<=w.heap.size) (h:mR w wr B R v0 to out o L) (hb2:Below wr.heap.size wr w2)
 (hown3:w3.ownsRow w.heap.size 123 2 out' (o.length+1) (qV o++[iv p.1,iv p.2])) (hg:(w2.alloc O).grownBy w3 out.ownBlock) (hat:out'.ownBlock=out.ownBlock\/out'.ownBlock=some (w2.alloc O).heap.size)
 (hown4:w4.ownsRow w3.heap.size 123 2 v' L'.length (qV L')) (hb4:Below w3.heap.size w3 w4) :
 mR w (w4.sc R 1 v') B R v0 to out' (o++[p]) L':=by
 obtain ⟨ho,v1,hr,hs,hv,hd⟩:=h
 have hRr:R<wr.heap.size:=(blt hr.1)
 have hsz2:=hb2.size
 have hsz3:w2.heap.size+1<=w3.heap.size:=by have:=hg.size;simpa using this
 have hsz4:=hb4.size
 have hszr:=hs.size
 have hRo:out.ownBlock≠some R:=by
  intro e
  rcases ho.2 with ⟨rfl,_⟩|⟨g,c,cur,rfl,_,hh,_⟩
  ·simp [Value.ownBlock] at e
  ·simp [Value.ownBlock] at e
   subst e
   rw [hr.1] at hh
   simp at hh
 have hkeep:∀ k,k<wr.heap.size->out.ownBlock≠some k->w4.heap[k]?=wr.heap[k]?:=fun k hk hn =>
  (hb4.block k uO).trans ((hg.block k uT (fun e=>hn e.symm)).trans ((uE w2 O k uO).trans (hb2.block k hk)))
 have hR4:w4.heap[R]?=some (.cells #[iv to,v1] 159):=(hkeep R hRr hRo).trans hr.1
 have hv':=uJ hown4
 have hout':=uJ hown3
 have hne':∀ k,out'.ownBlock=some k->k≠R:=by
  intro k hk e
  rcases hat with e'|e'
  ·exact hRo (e'.symm.trans (e▸hk))
  ·rw [hk] at e';simp at e';omega
 refine ⟨?_,v',⟨?_,?_⟩,?_,?_,?_⟩
 ·rw [fM,List.length_append,List.length_singleton]
  have h4:=qH hown3 hb4 (uA _)
  refine ⟨h4.1,h4.2.imp id ?_⟩
  rintro ⟨g,cap,cur,hv,hb,hh,hr⟩
  refine ⟨g,cap,cur,hv,hb,?_,hr⟩
  rw [uG _ (aq R 1) _ _ (by show g≠R;exact hne' g (by rw [hv];rfl))]
  exact hh
 ·rw [uH hR4];rfl
 ·refine ⟨hown4.1,hown4.2.imp id ?_⟩
  rintro ⟨g,cap,cur,hv,hg',hh,hr⟩
  refine ⟨g,cap,cur,hv,uO,?_,hr⟩
  rw [uG _ (aq R 1) _ _ (by show g≠R;omega)]
  exact hh
 ·refine ⟨hb4.os.trans (hg.os.trans (hb2.os.trans hs.os)),hb4.tape.trans (hg.tape.trans (hb2.tape.trans hs.tape)),hb4.output.trans (hg.output.trans (hb2.output.trans hs.output)),?_,fun k hk hn=>?_⟩
  ·have:w.heap.size<=w4.heap.size:=uO
   simpa [World.setCell] using this
  ·rw [uG _ (aq R 1) _ _ hn,hkeep k uO (fun e=>by have:=(uJ ho k e).1;omega)]
   exact hs.block k hk hn
 ·intro k hk
  have:=(hv' k hk).1
  exact .inr uO
 ·intro k hk hk'
  have h1:=(hv' k hk').1
  have h2:=(hout' k hk).2
  omega
theorem Xn (B R:Nat) (now:Int) (v:Value) (L:List (Int × Int)) (to:Int) (w:World) (h:fC w B R now v L) (hB:B<=w.heap.size) (hl:L.length * 16+16<=140737488351232) :
 Ca 117 #[pt R 0,iv to] w fun e w'=>∃ out,e=.returned (.tuple #[out,iv (Zw now to)])/\mR w w' B R v (aT now to) out (fE now to L) (mU now to L):=by
 obtain ⟨i0,hi,hz0,hz1,hz2⟩:=info_parts Tryz.infoDue
 have HR:Hid (fC w B R now v L):=h
 obtain ⟨k0,k1⟩:=jH h.1
 have kf:=qA h.1 0
 have hRw:R<w.heap.size:=(blt h.1)
 by_cases ht:to<now
 ·have HE:Hid (Zw now to=3/\fE now to L=[]/\mU now to L=L/\aT now to=now):=by simp [Hid,Zw,fE,mU,aT,ht]
  clear h
  go_enter Tryz.func117,Tryz.ntmps117
  go_wp2
  go_ret2
  obtain ⟨e1,e2,e3,e4⟩:=HE.out
  rw [e1,e2,e3,e4]
  exact ⟨.slice none 0 0,rfl,World.ownsRow_nil _ _ _ _,v,HR.out,⟨rfl,rfl,rfl,uA _,fun _ _ _=>rfl⟩,fun _ hk=>.inl hk,fun k hk=>by simp [Value.ownBlock] at hk⟩
 ·have HE:Hid (Zw now to=0/\fE now to L=(ZV to L).1/\mU now to L=(ZV to L).2/\aT now to=to):=by simp [Hid,Zw,fE,mU,aT,ht]
  have ht':decide (to<now)=false:=by simpa using ht
  clear h
  go_enter Tryz.func117,Tryz.ntmps117
  go_wp2_with fail
  go_loopw [6] (fun out wr=>∃ o L',Hid (mR w wr B R v to out o L')/\o.length+L'.length=L.length/\Hid (o++(ZV to L').1=(ZV to L).1/\(ZV to L').2=(ZV to L).2)) (fun out _=>L.length - lenOf out)
  case atStart =>
   refine ⟨[],L,⟨World.ownsRow_nil _ _ _ _,v,⟨?_,?_⟩,?_,fun _ hk=>.inl hk,fun k hk=>by simp [Value.ownBlock] at hk⟩,by simp,by simp,rfl⟩
   ·rw [uH HR.out.1];rfl
   ·refine ⟨HR.out.2.1,HR.out.2.2.imp id ?_⟩
    rintro ⟨g,cap,cur,hv,hg,hh,hr⟩
    refine ⟨g,cap,cur,hv,hg,?_,hr⟩
    rw [uG _ (aq R 0) _ _ (fun e=>Ct HR.out (by rw [hv];simp [Value.ownBlock];exact e))]
    exact hh
   ·refine ⟨rfl,rfl,rfl,by simp [World.setCell],fun k hk hn=>?_⟩
    rw [uG _ (aq R 0) _ _ hn]
  case round =>
   obtain ⟨o,L',hA,hlen,hsp⟩:=hrel
   obtain ⟨ho,v1,hr,hs,hv,hd⟩:=hA.out
   obtain ⟨q0,q1⟩:=jH hr.1
   have hRr:R<wr.heap.size:=(blt hr.1)
   have HX:Hid (Ca 116 #[pt R 0] wr fun e w'=>e=.returned (iv (qW L' L'.length))/\Below wr.heap.size wr w'):=sS R v1 L' wr q1 (xX hr.2) uO
   have hlb:=vJ L' L'.length
   have HFIN:Hid (∀ w2,Below wr.heap.size wr w2->ZV to L'=([],L')->mR w w2 B R v (aT now to) u6 (fE now to L) (mU now to L)):=by
    intro w2 b2 he
    obtain ⟨e1,e2,e3,e4⟩:=HE.out
    rw [e2,e3,e4,← hsp.out.1,← hsp.out.2,he]
    simp only [List.append_nil]
    exact ⟨qH ho b2 (uA _),v1,⟨(b2.block R hRr).trans hr.1,qH hr.2 b2 (uA _)⟩,⟨b2.os.trans hs.os,b2.tape.trans hs.tape,b2.output.trans hs.output,uX hs.size b2.size,fun k hk hn=>(b2.block k (uB hk hs.size)).trans (hs.block k hk hn)⟩,hv,hd⟩
   obtain ⟨oa,oc,rfl⟩:=yE ho
   by_cases hx:qW L' L'.length<0
   ·have HST:Hid (ZV to L'=([],L')):=cU (.inl hx)
    generalize qW L' L'.length=x at HX hx
    clear ho hr hs hv hd hlb
    go_wp2_with (go_at_call 116;refine HX.out.mono ?_;rintro e w2 ⟨rfl,b2⟩)
    go_wp2
    go_ret2
    exact ⟨_,by rw [HE.out.1];rfl,HFIN.out _ b2 HST.out⟩
   ·obtain ⟨q,hq⟩:=Int.eq_ofNat_of_zero_le (show 0<=qW L' L'.length by omega)
    have hql:q<L'.length:=uO
    have HQ:Hid (qW L' L'.length=q):=hq
    obtain ⟨a,c,rfl,hc⟩:=xX hr.2
    obtain ⟨g,rfl,hgw,hcell⟩:=hc uO
    obtain ⟨d0,d1⟩:=hcell q hql
    have hqi:(q:Int)<(L'.length:Int):=uO
    have hqn:decide ((q:Int)<0)=false:=by simp
    have HGO:Hid ((L'.getD q (0,0)).1<=to->ZV to L'=(L'.getD q (0,0) :: (ZV to (L'.eraseIdx q)).1,(ZV to (L'.eraseIdx q)).2)):=fun h=>Ta hq hql h
    have HST:Hid (to<(L'.getD q (0,0)).1->ZV to L'=([],L')):=fun h=>cU (.inr (by rw [hq,Int.toNat_natCast];exact h))
    rw [hq] at HX
    generalize L'.getD q (0,0)=p at d0 d1 HGO HST
    obtain ⟨p0,p1⟩:=p
    simp only at d0 d1 HGO HST
    have HRR:Hid (fC wr B R to (.slice (some (aq g 0)) L'.length c) L'):=hr
    have HO:Hid (wr.ownsRow w.heap.size 123 2 (.slice oa o.length oc) o.length (qV o)):=ho
    have HD:Hid (∀ k,Value.ownBlock (.slice oa o.length oc)=some k->Value.ownBlock (.slice (some (aq g 0)) L'.length c)≠some k):=hd
    have hsz:=hs.size
    clear ho hr hs hv hd hlb hc hcell hx hq
    by_cases hto:to<p0
    ·go_wp2_with (go_at_call 116;refine HX.out.mono ?_;rintro e w2 ⟨rfl,b2⟩
                  have e1:=(b2.cell (p:=(aq R 1)) hRr).trans q1
                  have e2:=(b2.cell (p:=(aq g (q * 2))) hgw).trans d0)
     go_wp2
     go_ret2
     exact ⟨_,by rw [HE.out.1];rfl,HFIN.out _ b2 (HST.out hto)⟩
    ·have hto':decide (to<p0)=false:=by simpa using hto
     go_wp2_with (first|(go_at_call 116;refine HX.out.mono ?_;rintro e w2 ⟨rfl,b2⟩
                         have e1:=(b2.cell (p:=(aq R 1)) hRr).trans q1
                         have e2:=(b2.cell (p:=(aq g (q * 2))) hgw).trans d0
                         have e3:=(b2.cell (p:=(aq g (q * 2+1))) hgw).trans d1)
                       | (at_builtin;refine wpList_append_own_at _ rfl _ _ 121 rfl w.heap.size 123 i0 (.agg #[iv 0,iv 0]) 2 16 Tryz.underlying121 hi hz0 hz1 hz2 rfl vO _ _ _ rfl ((qH HO.out b2 (uA _)).alloc _) (aq w2.heap.size 0) 1 1 [iv p0,iv p1] rfl rfl ?c1 ?c2 ?c3 ?c4 ?c5 ?_))
     case c1=>exact wY
     case c2=>intro u hu;simp at hu;rcases hu with rfl|rfl<;>rfl
     case c3=>unfold maxLen;omega
     case c4=>omega
     case c5=>have:=b2.size;simp;omega
     intro out' w3 hown3 hgrow _ hat
     have hk3:∀ k,k<wr.heap.size->Value.ownBlock (.slice oa o.length oc)≠some k->w3.heap[k]?=wr.heap[k]?:=fun k hk hn=>(hgrow.block k (by have:=b2.size;simp;omega) (fun e=>hn e.symm)).trans ((uE w2 _ k (by have:=b2.size;omega)).trans (b2.block k hk))
     have hRo:Value.ownBlock (.slice oa o.length oc)≠some R:=YV HO.out HRR.out.1
     have hr3:fC w3 B R to (.slice (some (aq g 0)) L'.length c) L':=by
      refine ⟨(hk3 R hRr hRo).trans HRR.out.1,HRR.out.2.1,HRR.out.2.2.imp id ?_⟩
      rintro ⟨g',cap,cur,hv,hg,hh,hr⟩
      refine ⟨g',cap,cur,hv,hg,?_,hr⟩
      rw [hk3 g' (blt hh) (fun e=>HD.out g' e (by rw [hv];rfl))]
      exact hh
     have f1:=(jH hr3.1).2
     have hR3:R<w3.heap.size:=(blt hr3.1)
     have HW:Hid (Ca 115 #[pt R 0,iv q] w3 fun e w'=>∃ v',e=.returned v'/\w'.ownsRow w3.heap.size 123 2 v' (L'.eraseIdx q).length (qV (L'.eraseIdx q))/\Below w3.heap.size w3 w'):=bS R _ L' q w3 f1 (xX hr3.2) uO
     have HR3:Hid (w3.heap[R]?=some (.cells #[iv to,.slice (some (aq g 0)) L'.length c] 159)):=hr3.1
     have HA:Hid (∀ v' w4,w4.ownsRow w3.heap.size 123 2 v' (L'.eraseIdx q).length (qV (L'.eraseIdx q))->Below w3.heap.size w3 w4->mR w (w4.sc R 1 v') B R v to out' (o++[(p0,p1)]) (L'.eraseIdx q)):=fun v' w4 h4 hb4=>Af hB hA.out b2 hown3 hgrow (by simpa using hat) h4 hb4
     obtain ⟨oa',oc',rfl⟩:=yE hown3
     clear hown3 hgrow hat hk3 hRo hr3 b2 e1 e2 e3
     go_wp2_with (go_at_call 115;refine HW.out.mono ?_;rintro e w4 ⟨v',rfl,ho4,hb4⟩
                  have HA4:=HA.out v' w4 ho4 hb4
                  obtain ⟨va,vc,rfl⟩:=yE ho4
                  have hR4:w4.heap[R]?=some (.cells #[iv to,.slice (some (aq g 0)) L'.length c] 159):=(hb4.block R hR3).trans HR3.out
                  have g1:=(jH hR4).2
                  have gf:=qA hR4 1
                  have HA5:Hid (mR w (w4.sc R 1 (.slice va (L'.eraseIdx q).length vc)) B R v to (.slice oa' (o.length+1) oc') (o++[(p0,p1)]) (L'.eraseIdx q)):=HA4
                  clear HA4 hR4 ho4 hb4)
     have hle:(L'.eraseIdx q).length=L'.length - 1:=List.length_eraseIdx_of_lt hql
     go_roundw
     case rel =>
      refine ⟨o++[(p0,p1)],L'.eraseIdx q,HA5,by simp;omega,?_⟩
      have hg:=HGO.out hto
      have h1:=hsp.out
      rw [hg] at h1
      simp only at h1
      exact ⟨by rw [← h1.1];simp,h1.2⟩
     case measure=>simp [lenOf];omega
abbrev Ent:=(Int × Int) × Int
def srt (l:List Ent):Prop:=l.Pairwise (fun x y=>qR x.1 y.1=true)
theorem vY (a b:Int × Int):qR a b=true↔a.1<b.1\/(a.1=b.1/\a.2<b.2):=aY
theorem kR {a b:Int × Int} (h:qR a b=true):qR b a=false:=by
 rw [← Bool.not_eq_true,vY];rw [vY] at h;omega
theorem zJ {a b:Int × Int} (h:qR a b=true):a≠b:=by
 rintro rfl;rw [vY] at h;omega
theorem kE {a b c:Int × Int} (h1:qR a b=true) (h2:qR b c=true):qR a c=true:=by
 rw [vY] at *;omega
theorem rJ {a b:Int × Int} (h1:qR a b=false) (h2:qR b a=false):a=b :=
 fG (by simp [h1]) (by simp [h2])
theorem aG (a:Int × Int):qR a a=false:=by
 rw [← Bool.not_eq_true,vY];omega
theorem zN {A B:List Ent} {x:Ent}:srt (A++x :: B)↔srt A/\srt B/\(∀ a∈A,qR a.1 x.1=true)/\(∀ b∈B,qR x.1 b.1=true):=by
 unfold srt
 rw [List.pairwise_append,List.pairwise_cons]
 constructor
 ·rintro ⟨h1,⟨h2,h3⟩,h4⟩
  exact ⟨h1,h3,fun a ha=>h4 a ha x vS,h2⟩
 ·rintro ⟨h1,h2,h3,h4⟩
  refine ⟨h1,⟨h4,h2⟩,fun a ha b hb=>?_⟩
  rcases List.mem_cons.1 hb with rfl|hb
  ·exact h3 a ha
  ·exact kE (h3 a ha) (h4 b hb)
def zD (k:Int × Int) (v:Int) (l:List Ent):List Ent:=l.filter (fun e=>qR e.1 k)++(k,v) :: l.filter (fun e=>qR k e.1)
def xC (k:Int × Int) (l:List Ent):List Ent:=l.filter (fun e=>e.1 != k)
def yO (k:Int × Int) (l:List Ent):Option Int:=(l.find? (fun e=>e.1==k)).map (·.2)
theorem gS {α:Type} {p:α->Bool} {l:List α} (h:∀ a∈l,p a=false):l.filter p=[]:=by
 rw [List.filter_eq_nil_iff];intro a ha;simp [h a ha]
theorem zV {α:Type} {p:α->Bool} {l:List α} (h:∀ a∈l,p a=true):l.filter p=l:=by
 rw [List.filter_eq_self];exact h
theorem bK {α:Type} {p:α->Bool} {l:List α} (h:∀ a∈l,p a=false):l.find? p=none:=by
 rw [List.find?_eq_none];intro a ha;simp [h a ha]
theorem Er {A B:List Ent} {x:Ent} {k:Int × Int} {v:Int} (hs:srt (A++x :: B)) (h:qR k x.1=true):zD k v (A++x :: B)=zD k v A++x :: B:=by
 obtain ⟨_,_,_,hB⟩:=zN.1 hs
 have hb:∀ b∈x :: B,qR k b.1=true:=fun b hb=>by
  rcases List.mem_cons.1 hb with rfl|hb
  ·exact h
  ·exact kE h (hB b hb)
 unfold zD
 rw [List.filter_append,List.filter_append,gS (l:=x :: B) (fun b m=>kR (hb b m)),zV (l:=x :: B) hb]
 simp
theorem Mx {A B:List Ent} {x:Ent} {k:Int × Int} {v:Int} (hs:srt (A++x :: B)) (h:qR x.1 k=true):zD k v (A++x :: B)=A++x :: zD k v B:=by
 obtain ⟨_,_,hA,_⟩:=zN.1 hs
 have ha:∀ a∈A,qR a.1 k=true:=fun a m=>kE (hA a m) h
 unfold zD
 rw [List.filter_append,List.filter_append,zV ha,gS (l:=A) (p:=fun e=>qR k e.1) (fun b m=>kR (ha b m))]
 rw [List.filter_cons_of_pos (by simpa using h),List.filter_cons_of_neg (by simpa using kR h)]
 simp
theorem Oq {A B:List Ent} {x:Ent} {k:Int × Int} {v:Int} (hs:srt (A++x :: B)) (h:x.1=k):zD k v (A++x :: B)=A++(k,v) :: B:=by
 obtain ⟨_,_,hA,hB⟩:=zN.1 hs
 subst h
 unfold zD
 rw [List.filter_append,List.filter_append,zV hA,gS (l:=A) (p:=fun e=>qR x.1 e.1) (fun b m=>kR (hA b m))]
 rw [List.filter_cons_of_neg (by simp [aG]),List.filter_cons_of_neg (by simp [aG]),gS (l:=B) (fun b m=>kR (hB b m)),zV hB]
 simp
theorem Ex {A B:List Ent} {x:Ent} {k:Int × Int} (hs:srt (A++x :: B)) (h:qR k x.1=true):xC k (A++x :: B)=xC k A++x :: B:=by
 obtain ⟨_,_,_,hB⟩:=zN.1 hs
 unfold xC
 rw [List.filter_append,zV (l:=x :: B)]
 intro b hb
 rcases List.mem_cons.1 hb with rfl|hb
 ·simpa using (zJ h).symm
 ·simpa using (zJ (kE h (hB b hb))).symm
theorem Ms {A B:List Ent} {x:Ent} {k:Int × Int} (hs:srt (A++x :: B)) (h:qR x.1 k=true):xC k (A++x :: B)=A++x :: xC k B:=by
 obtain ⟨_,_,hA,_⟩:=zN.1 hs
 unfold xC
 rw [List.filter_append,zV (l:=A),List.filter_cons_of_pos (by simpa using zJ h)]
 intro a ha
 simpa using zJ (kE (hA a ha) h)
theorem Zc {A B:List Ent} {x:Ent} {k:Int × Int} (hs:srt (A++x :: B)) (h:x.1=k):xC k (A++x :: B)=A++B:=by
 obtain ⟨_,_,hA,hB⟩:=zN.1 hs
 subst h
 unfold xC
 rw [List.filter_append,zV (l:=A) (fun a m=>by simpa using zJ (hA a m)),List.filter_cons_of_neg vS,zV (l:=B) (fun b m=>by simpa using (zJ (hB b m)).symm)]
theorem Ib {A B:List Ent} {x:Ent} {k:Int × Int} (hs:srt (A++x :: B)) (h:qR k x.1=true):yO k (A++x :: B)=yO k A:=by
 obtain ⟨_,_,_,hB⟩:=zN.1 hs
 unfold yO
 rw [List.find?_append,bK (l:=x :: B)]
 ·simp
 ·intro b hb
  rcases List.mem_cons.1 hb with rfl|hb
  ·simpa using (zJ h).symm
  ·simpa using (zJ (kE h (hB b hb))).symm
theorem Bf {A B:List Ent} {x:Ent} {k:Int × Int} (hs:srt (A++x :: B)) (h:qR x.1 k=true):yO k (A++x :: B)=yO k B:=by
 obtain ⟨_,_,hA,_⟩:=zN.1 hs
 unfold yO
 rw [List.find?_append,bK (l:=A),List.find?_cons_of_neg (by simpa using zJ h)]
 ·simp
 ·intro a ha
  simpa using zJ (kE (hA a ha) h)
theorem Ec {A B:List Ent} {x:Ent} {k:Int × Int} (hs:srt (A++x :: B)) (h:x.1=k):yO k (A++x :: B)=some x.2:=by
 obtain ⟨_,_,hA,_⟩:=zN.1 hs
 subst h
 unfold yO
 rw [List.find?_append,bK (l:=A),List.find?_cons_of_pos vS]
 ·simp
 ·intro a ha
  simpa using zJ (hA a ha)
theorem aQ {l:List Ent} (k:Int × Int) (h:srt l):srt (xC k l):=List.Pairwise.sublist List.filter_sublist h
theorem gC {l:List Ent} (k:Int × Int) (v:Int) (h:srt l):srt (zD k v l):=by
 unfold zD
 rw [zN]
 refine ⟨List.Pairwise.sublist List.filter_sublist h,List.Pairwise.sublist List.filter_sublist h,fun a ha=>?_,fun b hb=>?_⟩
 ·exact (List.mem_filter.1 ha).2
 ·exact (List.mem_filter.1 hb).2
theorem vV {l:List Ent} {k:Int × Int}:yO k l=none↔∀ e∈l,e.1≠k:=by
 unfold yO;simp [List.find?_eq_none]
theorem gG {l:List Ent} {k:Int × Int} {v:Int} (h:yO k l=some v):(k,v)∈l:=by
 unfold yO at h
 rw [Option.map_eq_some_iff] at h
 obtain ⟨e,he,rfl⟩:=h
 have:=List.find?_some he
 simp at this
 rw [← this]
 exact List.mem_of_find?_eq_some he
theorem Og {l:List Ent} {k:Int × Int} {v:Int} (hn:yO k l=none):(zD k v l).Perm ((k,v) :: l):=by
 rw [vV] at hn
 unfold zD
 refine List.perm_middle.trans (List.Perm.cons _ ?_)
 have:l.filter (fun e=>qR k e.1)=l.filter (fun e=>!qR e.1 k):=by
  apply List.filter_congr
  intro e he
  cases h1:qR e.1 k
  ·cases h2:qR k e.1
   ·exact absurd (rJ h1 h2) (hn e he)
   ·rfl
  ·simp [kR h1]
 rw [this]
 exact List.filter_append_perm _ l
inductive Tr where
 | leaf:Tr
 | node (p:Nat) (l:Tr) (k:Int × Int) (v h:Int) (r:Tr):Tr
def Tr.addr:Tr->Option Addr
 | .leaf=>none
 | .node p ..=>some (aq p 0)
theorem Tr.addr_leaf:Tr.leaf.addr=none:=rfl
theorem Tr.addr_node (p:Nat) (l r:Tr) (k:Int × Int) (v h:Int):(Tr.node p l k v h r).addr=some (aq p 0):=rfl
abbrev Tr.ptr (t:Tr):Value:=.pointer t.addr
def Tr.toL:Tr->List Ent
 | .leaf=>[]
 | .node _ l k v _ r=>l.toL++(k,v) :: r.toL
def Tr.has:Tr->Nat->Prop
 | .leaf,_=>False
 | .node p l _ _ _ r,n=>n=p\/l.has n\/r.has n
def Tr.at (w:World):Tr->Prop
 | .leaf=>True
 | .node p l k v h r=>w.heap[p]?=some (.cells #[l.ptr,r.ptr,iv k.1,iv k.2,iv v,iv h] 178)/\l.at w/\r.at w
theorem Tr.at_lt {w:World} {n:Nat}:∀ {t:Tr},t.at w->t.has n->n<w.heap.size
 | .leaf,_,hh=>hh.elim
 | .node _ _ _ _ _ _,⟨hp,hl,hr⟩,hh=>by
   rcases hh with rfl|hh|hh
   ·exact (blt hp)
   ·exact at_lt hl hh
   ·exact at_lt hr hh
theorem Tr.at_keep {w w':World}:∀ {t:Tr},t.at w->(∀ n,t.has n->w'.heap[n]?=w.heap[n]?)->t.at w'
 | .leaf,_,_=>trivial
 | .node p _ _ _ _ _,⟨hp,hl,hr⟩,hk=>⟨(hk p (.inl rfl)).trans hp,at_keep hl (fun n hn=>hk n (.inr (.inl hn))),at_keep hr (fun n hn=>hk n (.inr (.inr hn)))⟩
theorem Tr.at_below {w w':World} {t:Tr} (h:t.at w) (hb:Bl w w'):t.at w':=t.at_keep h (fun n hn=>hb.block n (t.at_lt h hn))
theorem Tr.at_type {w:World} {n:Nat}:∀ {t:Tr},t.at w->t.has n->∃ C,w.heap[n]?=some (.cells C 178)
 | .leaf,_,hh=>hh.elim
 | .node _ _ _ _ _ _,⟨hp,hl,hr⟩,hh=>by
   rcases hh with rfl|hh|hh
   ·exact ⟨_,hp⟩
   ·exact at_type hl hh
   ·exact at_type hr hh
def mk (w w':World) (S:Nat->Prop) (l:List Ent) (t:Tr):Prop:=t.at w'/\t.toL=l/\Below w.heap.size w w'/\∀ n,t.has n->S n\/w.heap.size<=n
theorem oQ (a b:Int × Int) (w:World) :
 Ca 93 #[.agg #[iv a.1,iv a.2],.agg #[iv b.1,iv b.2]] w fun e w'=>e=.returned (.bool (qR a b))/\Below w.heap.size w w':=by
 obtain ⟨a1,a2⟩:=a
 obtain ⟨b1,b2⟩:=b
 simp only
 by_cases h1:a1=b1
 ·subst h1
  go_enter Tryz.func93,Tryz.ntmps93
  go_wp2
  go_ret
  exact ⟨by simp [qR],bL⟩
 ·have d2:(a1==b1)=false:=by simpa using h1
  go_enter Tryz.func93,Tryz.ntmps93
  go_wp2
  go_ret
  exact ⟨by simp [qR,d2],bL⟩
def Tr.height:Tr->Int
 | .leaf=>0
 | .node _ _ _ _ h _=>h
theorem jN {w:World} {R:Nat} {c0 c1 c2 c3 c4 c5:Value} {T:TypeId} (h:w.heap[R]?=some (.cells #[c0,c1,c2,c3,c4,c5] T)) :
 w.cell? (aq R 0)=some c0/\w.cell? (aq R 1)=some c1/\w.cell? (aq R 2)=some c2/\w.cell? (aq R 3)=some c3/\w.cell? (aq R 4)=some c4/\w.cell? (aq R 5)=some c5 :=
 ⟨cB h,cB h,cB h,cB h,cB h,cB h⟩
theorem aM (t:Tr) (w:World) (h:t.at w) :
 Ca 169 #[t.ptr] w fun e w'=>e=.returned (iv t.height)/\w=w':=by
 cases t with
 | leaf =>
   simp only [Tr.ptr,Tr.addr,Tr.height]
   go_enter Tryz.func169,Tryz.ntmps169
   go_wp2
   go_ret
   exact ⟨rfl,rfl⟩
 | node p l k v hh r =>
   obtain ⟨c0,c1,c2,c3,c4,c5⟩:=jN h.1
   simp only [Tr.ptr,Tr.addr,Tr.height]
   clear h
   go_enter Tryz.func169,Tryz.ntmps169
   go_wp2
   go_ret
   exact ⟨rfl,rfl⟩
theorem Tr.at_alloc {t:Tr} {w:World} (h:t.at w) (O:Obj):t.at (w.alloc O):=t.at_below h ((uM _ _).alloc (uA _) _)
theorem Su {w w1:World} {l r:Tr} {k:Int × Int} {v h:Int} (hl:l.at w) (hr:r.at w) (hb:Bl w w1) {O:Obj} (hO:O=.cells #[l.ptr,r.ptr,iv k.1,iv k.2,iv v,iv h] 178) :
 mk w (w1.alloc O) (fun n=>l.has n\/r.has n) (l.toL++(k,v) :: r.toL) (.node w1.heap.size l k v h r):=by
 have hb2:Bl w (w1.alloc O):=hb.alloc hb.size _
 refine ⟨⟨?_,l.at_below hl hb2,r.at_below hr hb2⟩,rfl,hb2,?_⟩
 ·rw [uF,hO]
 ·rintro n (rfl|hn)
  ·exact .inr hb.size
  ·exact .inl hn
theorem Ea (l r:Tr) (k:Int × Int) (v:Int) (w:World) (hl:l.at w) (hr:r.at w) :
 Ca 158 #[l.ptr,.agg #[iv k.1,iv k.2,iv v],r.ptr] w fun e w'=>∃ t,e=.returned t.ptr/\mk w w' (fun n=>l.has n\/r.has n) (l.toL++(k,v) :: r.toL) t:=by
 have HH:Hid (∀ (O:Obj) (u:Value),u=l.ptr\/u=r.ptr->Ca 169 #[u] (w.alloc O) fun e w'=>(∃ a,e=.returned (iv a))/\w.alloc O=w'):=by
  rintro O u (rfl|rfl)
  ·exact (aM l _ (l.at_alloc hl O)).mono (by rintro e w' ⟨rfl,rfl⟩;exact ⟨⟨_,rfl⟩,rfl⟩)
  ·exact (aM r _ (r.at_alloc hr O)).mono (by rintro e w' ⟨rfl,rfl⟩;exact ⟨⟨_,rfl⟩,rfl⟩)
 have HM:Hid (∀ (O O':Obj) (h:Int),O'=.cells #[l.ptr,r.ptr,iv k.1,iv k.2,iv v,iv h] 178->mk w ((w.alloc O).alloc O') (fun n=>l.has n\/r.has n) (l.toL++(k,v) :: r.toL) (.node (w.heap.size+1) l k v h r)):=by
  intro O O' h hO
  have:=Su (w:=w) (w1:=w.alloc O) hl hr ((uM _ _).alloc (uA _) _) hO
  simpa using this
 clear hl hr
 simp only [Tr.ptr] at HH HM ⊢
 generalize l.addr=lp at HH HM
 generalize r.addr=rp at HH HM
 generalize k.1=k1 at HM
 generalize k.2=k2 at HM
 generalize (l.toL++(k,v) :: r.toL)=LL at HM
 go_enter Tryz.func158,Tryz.ntmps158
 go_wp2_with (go_at_call 169;refine (HH.out _ _ ?_).mono ?_;(first|exact .inl rfl|exact .inr rfl);rintro e w1 ⟨⟨a,rfl⟩,rfl⟩)
 all_goals (go_ret;exact ⟨_,rfl,HM.out _ _ _ rfl⟩)
section
theorem Tr.at_unique {w:World}:∀ {t t':Tr},t.at w->t'.at w->t.addr=t'.addr->t=t'
 | .leaf,.leaf,_,_,_=>rfl
 | .leaf,.node ..,_,_,e=>by simp [Tr.addr] at e
 | .node ..,.leaf,_,_,e=>by simp [Tr.addr] at e
 | .node p l k v h r,.node p' l' k' v' h' r',⟨a1,a2,a3⟩,⟨b1,b2,b3⟩,e=>by
   simp only [Tr.addr,Option.some.injEq,Addr.mk.injEq,and_true] at e
   subst e
   rw [a1] at b1
   simp only [Option.some.injEq,Obj.cells.injEq,Array.mk.injEq,List.cons.injEq,Value.pointer.injEq,Value.int.injEq,and_true,true_and] at b1
   obtain ⟨e1,e2,e3,e4,e5,e6⟩:=b1
   have hl:=Tr.at_unique a2 b2 e1
   have hr:=Tr.at_unique a3 b3 e2
   subst hl hr e5 e6
   have:k=k':=Prod.ext e3 e4
   subst this
   rfl
def Tr.size:Tr->Nat
 | .leaf=>0
 | .node _ l _ _ _ r=>l.size+r.size+1
open Classical in
noncomputable def sizeAt (w:World) (v:Value):Nat:=if h:∃ t:Tr,t.at w/\v=.pointer t.addr then (Classical.choose h).size else 0
theorem lJ {w:World} {t:Tr} (h:t.at w):sizeAt w (.pointer t.addr)=t.size:=by
 have hx:∃ t':Tr,t'.at w/\Value.pointer t.addr=.pointer t'.addr:=⟨t,h,rfl⟩
 unfold sizeAt
 rw [dif_pos hx]
 have hc:=Classical.choose_spec hx
 have:=Tr.at_unique h hc.1 (by simpa using hc.2)
 rw [← this]
def dM (t:Tr):Ent:=t.toL.headD ((0,0),0)
theorem Ni (p:Nat) (k:Int × Int) (v h:Int) (r:Tr):dM (.node p .leaf k v h r)=(k,v):=rfl
theorem Bj (p q:Nat) (k lk:Int × Int) (v h lv lh:Int) (ll lr r:Tr):dM (.node p (.node q ll lk lv lh lr) k v h r)=dM (.node q ll lk lv lh lr):=by
 simp only [dM,Tr.toL]
 cases ll.toL<;>simp
theorem iM (p:Nat) (l r:Tr) (k:Int × Int) (v h:Int) (w:World) (ha:Tr.at w (.node p l k v h r)) :
 Ca 132 #[pt p 0] w fun e w'=>e=.returned (.agg #[iv (dM (.node p l k v h r)).1.1,iv (dM (.node p l k v h r)).1.2,iv (dM (.node p l k v h r)).2])/\Below w.heap.size w w':=by
 generalize hF:dM (.node p l k v h r)=F
 have HA:Hid (Tr.at w (.node p l k v h r)/\dM (.node p l k v h r)=F):=⟨ha,hF⟩
 clear ha hF
 go_enter Tryz.func132,Tryz.ntmps132
 go_wp2_with fail
 go_loop [0] (fun n=>∃ p l k v h r,n=pt p 0/\Hid (Tr.at w (.node p l k v h r)/\dM (.node p l k v h r)=F)) (fun n=>sizeAt w n)
 case atStart=>exact ⟨p,l,k,v,h,r,rfl,HA⟩
 case round =>
  obtain ⟨p,l,k,v,h,r,rfl,HB⟩:=hrel
  obtain ⟨hp,h1,h2⟩:=HB.out.1
  have hpw:p<w.heap.size:=(blt hp)
  obtain ⟨c0,c1,c2,c3,c4,-⟩:=jN hp
  cases l with
  | leaf =>
    have hF:=HB.out.2
    rw [Ni] at hF
    subst hF
    simp only [Tr.ptr,Tr.addr_leaf] at c0
    clear hp h1 h2 HA
    go_wp2
    refine uK (v:=.agg #[iv k.1,iv k.2,iv v]) (by simp [results,Tryz.results132,go_sem]) rfl ⟨rfl,?_⟩
    exact bL
  | node q ll lk lv lh lr =>
    have HC:Hid (Tr.at w (.node q ll lk lv lh lr)/\dM (.node q ll lk lv lh lr)=F):=⟨h1,(Bj ..).symm.trans HB.out.2⟩
    have HM:Hid (sizeAt w (pt q 0)<sizeAt w (pt p 0)):=by
     have e1:=lJ HB.out.1
     have e2:=lJ h1
     simp only [Tr.addr_node,Tr.size] at e1 e2
     rw [Hid,e1,e2]
     omega
    simp only [Tr.ptr,Tr.addr_node] at c0
    clear hp h1 h2 HA HB
    go_wp2
    go_round
    case rel=>exact ⟨_,_,_,_,_,_,rfl,HC⟩
    case measure=>exact HM.out
theorem kP {w:World} {R:Nat} {c0 c1:Value} {T:TypeId} (h:w.heap[R]?=some (.cells #[c0,c1] T)):w.cell? (aq R 0)=some c0/\w.cell? (aq R 1)=some c1:=jH h
theorem Tr.toL_node (p:Nat) (l r:Tr) (k:Int × Int) (v h:Int):(Tr.node p l k v h r).toL=l.toL++(k,v) :: r.toL:=rfl
theorem xE (x o:Nat) (t:Tr) (k1 k2:Int) (w:World) (hx:w.cell? (aq x o)=some (.pointer t.addr)) (ht:t.at w) (hs:srt t.toL) :
 Ca 62 #[pt x o,.agg #[iv k1,iv k2]] w fun e w'=>e=.returned (.tuple #[iv ((yO (k1,k2) t.toL).getD 0),.bool (yO (k1,k2) t.toL).isSome])/\Below w.heap.size w w':=by
 generalize hG:yO (k1,k2) t.toL=G
 have HA:Hid (t.at w/\srt t.toL/\yO (k1,k2) t.toL=G):=⟨ht,hs,hG⟩
 have hxw:x<w.heap.size:=uC w _ hx
 clear ht hs hG
 go_enter Tryz.func62,Tryz.ntmps62
 go_wp2_with fail
 go_loopw [6] (fun n wr=>∃ t:Tr,n=.pointer t.addr/\Hid (t.at w/\srt t.toL/\yO (k1,k2) t.toL=G)/\Below w.heap.size w wr/\wr.heap[w.heap.size]?=some (.cells #[iv k1,iv k2] 136)) (fun n _=>sizeAt w n)
 case atStart=>exact ⟨t,rfl,HA,bL,uF _ _⟩
 case round =>
  obtain ⟨t,rfl,HB,hbel,hkey⟩:=hrel
  have hsz:w.heap.size<wr.heap.size:=(blt hkey)
  cases t with
  | leaf =>
    have hG:=HB.out.2.2
    simp only [Tr.toL,yO,List.find?_nil,Option.map_none] at hG
    subst hG
    simp only [Tr.addr_leaf]
    clear HA HB
    go_wp2
    go_ret2
    exact ⟨rfl,hbel⟩
  | node p l k v h r =>
    obtain ⟨⟨hp,h1,h2⟩,hs,hG⟩:=HB.out
    rw [Tr.toL_node] at hs hG
    have hpw:p<w.heap.size:=(blt hp)
    obtain ⟨z0,z1,z2,z3,z4,-⟩:=jN hp
    simp only [Tr.ptr] at z0 z1
    have HL:Hid (qR (k1,k2) k=true->l.at w/\srt l.toL/\yO (k1,k2) l.toL=G):=fun ha=>⟨h1,(zN.1 hs).1,by rw [← hG,Ib hs ha]⟩
    have HR:Hid (qR k (k1,k2)=true->r.at w/\srt r.toL/\yO (k1,k2) r.toL=G):=fun ha=>⟨h2,(zN.1 hs).2.1,by rw [← hG,Bf hs ha]⟩
    have HE:Hid (qR (k1,k2) k=false->qR k (k1,k2)=false->G=some v):=fun ha hb=>by rw [← hG,Ec hs (rJ hb ha)]
    have HM:Hid (sizeAt w (.pointer l.addr)<sizeAt w (pt p 0)/\sizeAt w (.pointer r.addr)<sizeAt w (pt p 0)):=by
     have e1:=lJ HB.out.1
     have e2:=lJ h1
     have e3:=lJ h2
     simp only [Tr.addr_node,Tr.size] at e1
     rw [Hid,e1,e2,e3]
     omega
    obtain ⟨a1,a2⟩:=k
    have HB1:Hid (∀ W,Below w.heap.size w W->Ca 93 #[.agg #[iv k1,iv k2],.agg #[iv a1,iv a2]] W fun e w'=>e=.returned (.bool (qR (k1,k2) (a1,a2)))/\Below W.heap.size W w'):=fun W _=>oQ (k1,k2) (a1,a2) W
    have HB2:Hid (∀ W,Below w.heap.size w W->Ca 93 #[.agg #[iv a1,iv a2],.agg #[iv k1,iv k2]] W fun e w'=>e=.returned (.bool (qR (a1,a2) (k1,k2)))/\Below W.heap.size W w'):=fun W _=>oQ (a1,a2) (k1,k2) W
    obtain ⟨q0,q1⟩:=kP hkey
    have c0:=(hbel.cell (p:=(aq p 0)) hpw).trans z0
    have c1:=(hbel.cell (p:=(aq p 1)) hpw).trans z1
    have c2:=(hbel.cell (p:=(aq p 2)) hpw).trans z2
    have c3:=(hbel.cell (p:=(aq p 3)) hpw).trans z3
    have c4:=(hbel.cell (p:=(aq p 4)) hpw).trans z4
    have hpwr:p<wr.heap.size:=uB hpw hbel.size
    simp only [Tr.addr_node]
    generalize qR (k1,k2) (a1,a2)=ah at HL HE HB1
    generalize qR (a1,a2) (k1,k2)=ah2 at HR HE HB2
    clear hp h1 h2 hs hG HA HB
    go_wp2_with fail
    go_region_held3 (fun w'=>w'.cell? (aq w.heap.size 0)=some (iv k1)/\w'.cell? (aq w.heap.size 1)=some (iv k2)/\w'.cell? (aq p 2)=some (iv a1)/\w'.cell? (aq p 3)=some (iv a2)) (simp [go_sem, *])
     (first|(go_at_call 93;refine (HB1.out _ bL).mono ?_;rintro e w1 ⟨rfl,b⟩
             have e0:=(b.cell (p:=(aq w.heap.size 0)) uS).trans (uN:_=some (iv k1))
             have e1:=(b.cell (p:=(aq w.heap.size 1)) uS).trans (uN:_=some (iv k2))
             have e2:=(b.cell (p:=(aq p 2)) uS).trans (uN:_=some (iv a1))
             have e3:=(b.cell (p:=(aq p 3)) uS).trans (uN:_=some (iv a2))))
    have hb1:Below w.heap.size w w1:=uL (show Below w.heap.size w _ from bL) (b.mono uT)
    have hk1:w1.heap[w.heap.size]?=some (.cells #[iv k1,iv k2] 136):=(b.block _ uT).trans hkey
    have d0:=(hb1.cell (p:=(aq p 0)) hpw).trans z0
    have d1:=(hb1.cell (p:=(aq p 1)) hpw).trans z1
    have d2:=(hb1.cell (p:=(aq p 2)) hpw).trans z2
    have d3:=(hb1.cell (p:=(aq p 3)) hpw).trans z3
    have d4:=(hb1.cell (p:=(aq p 4)) hpw).trans z4
    have hpw1:p<w1.heap.size:=uB hpw hb1.size
    have hsz1:w.heap.size<w1.heap.size:=(blt hk1)
    obtain ⟨r0,r1⟩:=kP hk1
    clear b c0 c1 c2 c3 c4 hbel hkey q0 q1 e0 e1 e2 e3
    cases ah
    ·go_wp2_with fail
     go_region_held3 (fun w'=>w'.cell? (aq w.heap.size 0)=some (iv k1)/\w'.cell? (aq w.heap.size 1)=some (iv k2)/\w'.cell? (aq p 2)=some (iv a1)/\w'.cell? (aq p 3)=some (iv a2)) (simp [go_sem, *])
      (first|(go_at_call 93;refine (HB2.out _ bL).mono ?_;rintro e w2 ⟨rfl,b⟩
              have e0:=(b.cell (p:=(aq w.heap.size 0)) uS).trans (uN:_=some (iv k1))
              have e1:=(b.cell (p:=(aq w.heap.size 1)) uS).trans (uN:_=some (iv k2))
              have e2:=(b.cell (p:=(aq p 2)) uS).trans (uN:_=some (iv a1))
              have e3:=(b.cell (p:=(aq p 3)) uS).trans (uN:_=some (iv a2))))
     have hb2:Below w.heap.size w w2:=uL (show Below w.heap.size w _ from bL) (b.mono uT)
     have hk2:w2.heap[w.heap.size]?=some (.cells #[iv k1,iv k2] 136):=(b.block _ uT).trans hk1
     have f1:=(hb2.cell (p:=(aq p 1)) hpw).trans z1
     have f4:=(hb2.cell (p:=(aq p 4)) hpw).trans z4
     have hpw2:p<w2.heap.size:=uB hpw hb2.size
     clear b d0 d1 d2 d3 d4 r0 r1 hb1 hk1 e0 e1 e2 e3 z0 z1 z2 z3 z4
     cases ah2
     ·have hG:G=some v:=by simpa using HE.out
      subst hG
      go_wp2
      go_ret2
      exact ⟨rfl,hb2⟩
     ·go_wp2
      go_roundw
      case rel=>exact ⟨r,rfl,HR.out rfl,hb2,hk2⟩
      case measure=>exact HM.out.2
    ·go_wp2
     go_roundw
     case rel=>exact ⟨l,rfl,HL.out rfl,hb1,hk1⟩
     case measure=>exact HM.out.1
end
