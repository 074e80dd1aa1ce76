import Derived.Test.YtfhncfghblkgeabGreatL38
set_option maxRecDepth 100000
set_option maxHeartbeats 2000000
namespace Go.Proofs.YtfhncfghblkgeabGreat
open Go.RowKit
section
def Bq (w:World) (da:Option Addr) (D:List (Int × Int)):Prop:=∀ i,i<D.length->∃ b,da=some (aq b 0)/\b<w.heap.size/\w.cell? (aq b (i * 2))=some (iv (D.getD i (0,0)).1)/\w.cell? (aq b (i * 2+1))=some (iv (D.getD i (0,0)).2)
theorem Na {w:World} {B:Nat} {v:Value} {D:List (Int × Int)} (h:w.ownsRow B 123 2 v D.length (qV D)):∃ da dc,v=.slice da D.length dc/\Bq w da D/\∀ b off,da=some (aq b off)->B<=b/\b<w.heap.size/\v.ownBlock=some b:=by
 rcases h.2 with ⟨hv,h0⟩|⟨b,cap,cur,hv,hB,hh,h1,h2,h3,h4⟩
 ·exact ⟨none,0,by rw [hv,h0],fun i hi=>uO,fun b off e=>by cases e⟩
 ·refine ⟨some (aq b 0),cap,hv,fun i hi=>?_,fun b' off e=>?_⟩
  ·rw [hv] at h
   have c:∀ k,k<2->∀ u,(qV D)[i * 2+k]?=some u->w.cell? (aq b (i * 2+k))=some u:=fun k hk u hu=>by
    have:=h.cells (g:=b) rfl _ _ hu
    rwa [Addr.add_lit,Nat.zero_add] at this
   have f:=dV D i hi
   exact ⟨b,rfl,(blt hh),c 0 uO _ f.1,c 1 uO _ f.2⟩
  ·simp only [Option.some.injEq,Addr.mk.injEq] at e
   obtain ⟨rfl,_⟩:=e
   exact ⟨hB,(blt hh),by rw [hv];rfl⟩
theorem iL {w w':World} {own:Nat->Prop} {da:Option Addr} {D:List (Int × Int)} (h:Bq w da D) (hs:Same own w w') (hn:∀ b off,da=some (aq b off)->¬ own b):Bq w' da D:=fun i hi=>by
 obtain ⟨b,e,hb,c0,c1⟩:=h i hi
 have k:=hs.block b hb (hn b 0 e)
 exact ⟨b,e,uB hb hs.size,(uV (a:=(aq b (i * 2))) k).trans c0,(uV (a:=(aq b (i * 2+1))) k).trans c1⟩
def kM (P:World->(Nat->Prop)->Prop) (da:Option Addr) (D:List (Int × Int)) (W:World) (o:Nat->Prop):Prop:=∃ o0,P W o0/\(∀ k,o0 k->o k)/\Bq W da D/\(∀ k,(∃ off,da=some (aq k off))↔(o k/\¬ o0 k))/\∀ k,o k->k<W.heap.size
section
variable {P P':World->(Nat->Prop)->Prop} {w W W':World} {own loc:Nat->Prop} {da:Option Addr} {D:List (Int × Int)}
theorem Yr (K:Keeps P) (da:Option Addr) (D:List (Int × Int)):Keeps (kM P da D):=by
 refine ⟨fun {W o} h=>?_,fun {W W' o} h hz hk=>?_⟩
 ·obtain ⟨o0,a1,a2,a3,a4,a5⟩:=h
  exact a5
 ·obtain ⟨o0,a1,a2,a3,a4,a5⟩:=h
  refine ⟨o0,K.keep a1 hz (fun k e=>hk k (a2 k e)),a2,fun i hi=>?_,a4,fun k e=>uB (a5 k e) hz⟩
  obtain ⟨b,e,hb,c0,c1⟩:=a3 i hi
  have k:=hk b ((a4 b).1 ⟨0,e⟩).1
  exact ⟨b,e,uB hb hz,(uV (a:=(aq b (i * 2))) k).trans c0,(uV (a:=(aq b (i * 2+1))) k).trans c1⟩
theorem oR (K':Keeps P') {f:FuncId} {args:Array Value} {v:Value} (h:∀ W o0,P W o0->Bq W da D->(∀ b off,da=some (aq b off)->¬ o0 b)->Ca f args W fun e w'=>e=.returned v/\zQ P' W w' o0) (W:World) (o:Nat->Prop) (hp:kM P da D W o) :
 Ca f args W fun e w'=>e=.returned v/\zQ (kM P' da D) W w' o:=by
 obtain ⟨o0,a1,a2,a3,a4,a5⟩:=hp
 have hn:∀ b off,da=some (aq b off)->¬ o0 b:=fun b off e=>((a4 b).1 ⟨off,e⟩).2
 refine (h W o0 a1 a3 hn).mono ?_
 rintro e w' ⟨rfl,o1,b1,b2,b3⟩
 refine ⟨rfl,fun k=>o1 k\/∃ off,da=some (aq k off),⟨o1,b1,fun k e=>.inl e,iL a3 b2 hn,fun k=>⟨fun e=>⟨.inr e,fun c=>?_⟩,fun e=>e.1.elim (fun c=>absurd c e.2) id⟩,fun k e=>e.elim (K'.lt b1 k) (fun e=>uB (a5 k ((a4 k).1 e).1) b2.size)⟩,jO b2 a2,fun k e=>e.elim (fun e=>(b3 k e).imp (a2 k) id) (fun e=>.inl ((a4 k).1 e).1)⟩
 rcases b3 k c with c|c
 ·exact ((a4 k).1 e).2 c
 ·have:=a5 k ((a4 k).1 e).1;omega
theorem ZN (h:qX (kM P da D) w own loc W):Bq W da D:=by
 obtain ⟨o1,⟨o0,_,_,a3,_⟩,_⟩:=h
 exact a3
theorem wL (h:qX (kM P da D) w own loc W):zQ P w W own:=by
 obtain ⟨o1,⟨o0,a1,a2,_⟩,b2,b3,_⟩:=h
 exact ⟨o0,a1,b2,fun k e=>(b3 k (a2 k e)).imp id (fun e=>e.1)⟩
theorem iO (K:Keeps P) (h:qX P w own loc W) (hb:Below W.heap.size W W') {p:Nat} (h1:W.heap.size<=p) (h2:p<W'.heap.size):qX P w own (fun k=>k=p) W':=by
 obtain ⟨o1,a1,a2,a3,a4⟩:=h
 have z:=a2.size
 exact ⟨o1,K.keep a1 hb.size (fun k e=>hb.block k (K.lt a1 k e)),Same.trans a2 (Same.of_below (own:=own) hb) (fun k _ e=>e.elim id id),fun k e=>(a3 k e).imp id (fun c=>⟨c.1,fun d=>by have:=K.lt a1 k e;omega⟩),fun k e=>by subst e;exact ⟨uO,h2⟩⟩
theorem jD (h:qX P w own loc W):qX P w own (fun _=>False) W:=by
 obtain ⟨o1,a1,a2,a3,a4⟩:=h
 exact ⟨o1,a1,a2,fun k e=>(a3 k e).imp id (fun c=>⟨c.1,id⟩),fun _ e=>e.elim⟩
theorem kJ (h:qX P w own loc W) (hp:∀ W o,P W o->P' W o):qX P' w own loc W:=by
 obtain ⟨o1,a1,a⟩:=h
 exact ⟨o1,hp _ _ a1,a⟩
theorem sK (h:qX P w own loc W):Same own w W:=by
 obtain ⟨o1,a1,a2,_⟩:=h
 exact a2
end
theorem Dq (num cust units st cents upto:Int) (w:World) :
 Ca 133 #[.agg #[iv num,iv cust,iv units,iv st,iv cents,iv upto]] w fun e w'=>e=.returned (.bool (st != 13 && st != 12))/\Below w.heap.size w w':=by
 go_enter Tryz.func133,Tryz.ntmps133
 go_wp2
 all_goals refine uK (v:=.bool (st != 13 && st != 12)) ?_ rfl ⟨rfl,bL⟩
 all_goals first|(simp [results,Tryz.results133,go_sem];done)|(simp [results,Tryz.results133,go_sem];intros;omega)
theorem Js (x dc:Nat) (da:Option Addr) (D:List (Int × Int)) (w:World) (own:Nat->Prop) (Q:Nat->World->(Nat->Prop)->Prop) (KQ:∀ j,Keeps (Q j)) (o:Nat->POrd) (kn:Nat->Bool) (en:Nat->Bool) (h:Q 0 w own) (hn:D.length<=4294967296)
 (HX:Hid (∀ j loc W,qX (Q j) w own loc W->x<W.heap.size))
 (HD:Hid (∀ W,Same own w W->Bq W da D))
 (HG:Hid (∀ j loc W,j<D.length->qX (Q j) w own loc W->Ca 95 #[pt x 11,iv (D.getD j (0,0)).2] W fun e w'=>e=.returned (.tuple #[.agg #[iv (o j).num,iv (o j).cust,iv (o j).units,iv (o j).st,iv (o j).cents,iv (o j).upto],.bool (kn j)])/\Below W.heap.size W w'))
 (HE:Hid (∀ j W,j<D.length->Ca 133 #[.agg #[iv (o j).num,iv (o j).cust,iv (o j).units,iv (o j).st,iv (o j).cents,iv (o j).upto]] W fun e w'=>e=.returned (.bool (en j))/\Below W.heap.size W w'))
 (HR:Hid (∀ j,j<D.length->kn j=true->en j=true->jX w own (Q j) (Q (j+1)) 134 #[pt x 11,iv (o j).num] (.tuple #[])))
 (HN:Hid (∀ j,j<D.length->¬ (kn j=true/\en j=true)->∀ W o,Q j W o->Q (j+1) W o)) :
 Ca 102 #[pt x 0,.slice da D.length dc] w fun e w'=>e=.returned (.tuple #[])/\zQ (Q D.length) w w' own:=by
 have hT0:Hid (qX (Q 0) w own (fun _=>False) w):=yH (KQ 0) h (uM _ _) (fun _ e=>e.elim)
 clear h
 go_enter Tryz.func102,Tryz.ntmps102
 go_wp2_with fail
 go_loopw [4] (fun i wr=>∃ j:Nat,j<=D.length/\i=iv j/\Hid (qX (Q j) w own (fun _=>False) wr)) (fun i _=>D.length - (intOf i).toNat)
 case atStart=>exact ⟨0,Nat.zero_le _,rfl,hT0⟩
 case round =>
  obtain ⟨j,hj,rfl,HK⟩:=hrel
  clear hT0
  by_cases hlt:j<D.length
  ·obtain ⟨g,rfl,hb,c0,c1⟩:=HD.out wr (sK HK.out) j hlt
   have hx:=HX.out _ _ _ HK.out
   have HGj:=fun loc W hT=>HG.out j loc W hlt hT
   have HRj:=HR.out j hlt
   have HNj:=HN.out j hlt
   have HEj:=fun W=>HE.out j W hlt
   have KJ:=KQ j
   have KJ1:=KQ (j+1)
   have HNX:Hid (∀ wr',qX (Q (j+1)) w own (fun _=>False) wr'->∃ j':Nat,j'<=D.length/\Value.int .i64 ((j:Int)+1)=iv j'/\Hid (qX (Q j') w own (fun _=>False) wr')):=fun wr' h=>⟨j+1,uO,by simp,h⟩
   replace HGj:Hid _:=HGj
   replace HRj:Hid _:=HRj
   replace HNj:Hid _:=HNj
   replace HEj:Hid _:=HEj
   have b0:(0:Int)<=(j:Int):=uO
   have b1:(j:Int)<(D.length:Int):=uO
   have hwj:IntKind.i64.wrap ((j:Int)+1)=(j:Int)+1:=yA uO uO
   generalize kn j=kj at HGj HRj HNj
   generalize en j=ej at HRj HNj HEj
   generalize o j=oj at HGj HRj HNj HEj
   obtain ⟨num,cust,units,st,cents,upto⟩:=oj
   simp only at HGj HRj HNj HEj
   generalize D.getD j (0,0)=dj at c0 c1 HGj
   obtain ⟨dt,di⟩:=dj
   simp only at c0 c1 HGj
   clear HG HR HN HD HX HE
   go_wp2_with fail
   go_region_with
    (first
      | (go_at_call 95;refine (HGj.out _ _ (qI KJ HK.out bL)).mono ?_;rintro e W1 ⟨rfl,b⟩
         have hb1:Below wr.heap.size wr W1:=by first|exact b|exact uL (show Below wr.heap.size wr _ from bL) (b.mono vS)
         first
            | (have nb:Hid (W1.heap[wr.heap.size]?=some (.cells #[iv 0,iv 0,iv 0,iv 0,iv 0,iv 0] 142)):=(b.block wr.heap.size (by simp;done)).trans (uF wr _)
               have e0:=qA nb.out 0
               have e1:=qA nb.out 1
               have e2:=qA nb.out 2
               have e3:=qA nb.out 3
               have e4:=qA nb.out 4
               have e5:=qA nb.out 5
               obtain ⟨n0,n1,n2,n3,n4,n5⟩:=qB nb.out
               have ln:wr.heap.size<W1.heap.size:=(blt nb.out))
            | skip
         have hbl1:Hid (Below wr.heap.size wr W1):=hb1
         have q0:=(hb1.cell (p:=(aq g (j * 2))) hb).trans c0
         have q1:=(hb1.cell (p:=(aq g (j * 2+1))) hb).trans c1
         have hzr:=hb1.size
         clear b hb1))
   all_goals clear c0 c1 hb
   all_goals (first
    | (have ob2:Hid (((((((W1.setCell (aq wr.heap.size 0) (iv num)).setCell (aq wr.heap.size 1) (iv cust)).setCell (aq wr.heap.size 2) (iv units)).setCell (aq wr.heap.size 3) (iv st)).setCell (aq wr.heap.size 4) (iv cents)).setCell (aq wr.heap.size 5) (iv upto)).heap[wr.heap.size]?=some (.cells #[iv num,iv cust,iv units,iv st,iv cents,iv upto] 142)):=gA nb.out _ _ _ _ _ _
       have hb2:Hid (Below wr.heap.size wr ((((((W1.setCell (aq wr.heap.size 0) (iv num)).setCell (aq wr.heap.size 1) (iv cust)).setCell (aq wr.heap.size 2) (iv units)).setCell (aq wr.heap.size 3) (iv st)).setCell (aq wr.heap.size 4) (iv cents)).setCell (aq wr.heap.size 5) (iv upto))):=zL hbl1.out (uA _)
       have hp:wr.heap.size<=wr.heap.size:=uA _
       clear e0 e1 e2 e3 e4 e5 n0 n1 n2 n3 n4 n5 nb ln
       generalize ((((((W1.setCell (aq wr.heap.size 0) (iv num)).setCell (aq wr.heap.size 1) (iv cust)).setCell (aq wr.heap.size 2) (iv units)).setCell (aq wr.heap.size 3) (iv st)).setCell (aq wr.heap.size 4) (iv cents)).setCell (aq wr.heap.size 5) (iv upto))=W2 at ob2 hb2 ⊢
       generalize hpz:wr.heap.size=p at ob2 ⊢
       replace hp:wr.heap.size<=p:=Nat.le_of_eq hpz
       clear hpz)
    | (have ob2:Hid ((W1.alloc (.cells #[iv num,iv cust,iv units,iv st,iv cents,iv upto] 142)).heap[W1.heap.size]?=some (.cells #[iv num,iv cust,iv units,iv st,iv cents,iv upto] 142)):=uF W1 _
       have hb2:Hid (Below wr.heap.size wr (W1.alloc (.cells #[iv num,iv cust,iv units,iv st,iv cents,iv upto] 142))):=hbl1.out.alloc uO _
       have hp:wr.heap.size<=W1.heap.size:=uO
       generalize W1.alloc (.cells #[iv num,iv cust,iv units,iv st,iv cents,iv upto] 142)=W2 at ob2 hb2 ⊢
       generalize W1.heap.size=p at hp ob2 ⊢))
   all_goals
    have hT2:Hid (qX (Q j) w own (fun k=>k=p) W2):=iO KJ HK.out hb2.out hp (blt ob2.out)
    have hpz:p<W2.heap.size:=(blt ob2.out)
    have hx2:x<W2.heap.size:=uB hx hb2.out.size
    obtain ⟨s0,s1,s2,s3,s4,s5⟩:=qB ob2.out
    clear hb2 hbl1 q0 q1 hzr hp
   all_goals (try simp only [Act.put,lA,lB,lC,lD,lE,lF])
   all_goals
    cases kj with
    | false =>
      go_wp2_with fail
      go_roundw
      case rel=>first|exact HNX.out _ (jD (kJ (qI KJ hT2.out bL) (HNj.out vS)))|(rw [hwj];exact HNX.out _ (jD (kJ (qI KJ hT2.out bL) (HNj.out vS))))
      case measure=>simp [intOf];omega
    | true =>
      cases ej with
      | false =>
        go_wp2_with (go_at_call 133;refine (HEj.out _).mono ?_;rintro e W3 ⟨rfl,b3⟩
                     have hT3:Hid (qX (Q j) w own (fun k=>k=p) W3):=qI KJ (qI KJ hT2.out bL) b3
                     have t0:=(b3.cell (p:=(aq p 0)) hpz).trans s0
                     have hpz3:=uB hpz b3.size
                     have hx3:=uB hx2 b3.size
                     clear b3)
        go_roundw
        case rel=>first|exact HNX.out _ (jD (kJ (qI KJ hT3.out bL) (HNj.out vS)))|(rw [hwj];exact HNX.out _ (jD (kJ (qI KJ hT3.out bL) (HNj.out vS))))
        case measure=>simp [intOf];omega
      | true =>
        go_wp2_with (go_at_call 133;refine (HEj.out _).mono ?_;rintro e W3 ⟨rfl,b3⟩
                     have hT3:Hid (qX (Q j) w own (fun k=>k=p) W3):=qI KJ (qI KJ hT2.out bL) b3
                     have t0:=(b3.cell (p:=(aq p 0)) hpz).trans s0
                     have hpz3:=uB hpz b3.size
                     have hx3:=uB hx2 b3.size
                     clear b3)
        clear s0 s1 s2 s3 s4 s5 hpz hx2 hT2
        go_region_held3 (fun w'=>w'.cell? (aq p 0)=some (iv num)) (simp [go_sem, *])
           (first
             | (go_at_call 134;refine (HRj.out (by first|rfl|trivial) (by first|rfl|trivial) _ _ (qI KJ hT3.out bL)).mono ?_;rintro e W4 ⟨rfl,hT4,hk⟩
                replace hT4:Hid (qX (Q (j+1)) w own (fun k=>k=p) W4):=hT4
                have u0:=(uV (a:=(aq p 0)) (hk p rfl)).trans t0
                clear hk))
        go_wp2_with fail
        go_roundw
        case rel=>first|exact HNX.out _ (jD (qI KJ1 hT4.out bL))|(rw [hwj];exact HNX.out _ (jD (qI KJ1 hT4.out bL)))
        case measure=>simp [intOf];omega
  ·have hje:j=D.length:=uO
   subst hje
   go_wp2_with fail
   first|go_end0|refine uK (uR rfl _ _ _) rfl ?_
   exact ⟨rfl,zE (qI (KQ _) HK.out bL)⟩
theorem Bg (x dc:Nat) (da:Option Addr) (D:List (Int × Int)) (fr into:Int) (w:World) (own:Nat->Prop) (Q:Nat->World->(Nat->Prop)->Prop) (KQ:∀ j,Keeps (Q j)) (o:Nat->POrd) (kn:Nat->Bool) (vv:Nat->Value) (h:Q 0 w own) (hn:D.length<=4294967296)
 (HX:Hid (∀ j loc W,qX (Q j) w own loc W->x<W.heap.size))
 (HD:Hid (∀ W,Same own w W->Bq W da D))
 (HG:Hid (∀ j loc W,j<D.length->qX (Q j) w own loc W->Ca 95 #[pt x 11,iv (D.getD j (0,0)).2] W fun e w'=>e=.returned (.tuple #[.agg #[iv (o j).num,iv (o j).cust,iv (o j).units,iv (o j).st,iv (o j).cents,iv (o j).upto],.bool (kn j)])/\Below W.heap.size W w'))
 (HR:Hid (∀ j,j<D.length->kn j=true->((o j).st==fr)=true->jX w own (Q j) (Q (j+1)) 129 #[pt x 0,.agg #[iv (o j).num,iv (o j).cust,iv (o j).units,iv (o j).st,iv (o j).cents,iv (o j).upto],iv into] (vv j)))
 (HN:Hid (∀ j,j<D.length->¬ (kn j=true/\((o j).st==fr)=true)->∀ W o,Q j W o->Q (j+1) W o)) :
 Ca 103 #[pt x 0,.slice da D.length dc,iv fr,iv into] w fun e w'=>e=.returned (.tuple #[])/\zQ (Q D.length) w w' own:=by
 have hT0:Hid (qX (Q 0) w own (fun _=>False) w):=yH (KQ 0) h (uM _ _) (fun _ e=>e.elim)
 clear h
 go_enter Tryz.func103,Tryz.ntmps103
 go_wp2_with fail
 go_loopw [8] (fun i wr=>∃ j:Nat,j<=D.length/\i=iv j/\Hid (qX (Q j) w own (fun _=>False) wr)) (fun i _=>D.length - (intOf i).toNat)
 case atStart=>exact ⟨0,Nat.zero_le _,rfl,hT0⟩
 case round =>
  obtain ⟨j,hj,rfl,HK⟩:=hrel
  clear hT0
  by_cases hlt:j<D.length
  ·obtain ⟨g,rfl,hb,c0,c1⟩:=HD.out wr (sK HK.out) j hlt
   have hx:=HX.out _ _ _ HK.out
   have HGj:=fun loc W hT=>HG.out j loc W hlt hT
   have HRj:=HR.out j hlt
   have HNj:=HN.out j hlt
   have KJ:=KQ j
   have KJ1:=KQ (j+1)
   have HNX:Hid (∀ wr',qX (Q (j+1)) w own (fun _=>False) wr'->∃ j':Nat,j'<=D.length/\Value.int .i64 ((j:Int)+1)=iv j'/\Hid (qX (Q j') w own (fun _=>False) wr')):=fun wr' h=>⟨j+1,uO,by simp,h⟩
   replace HGj:Hid _:=HGj
   replace HRj:Hid _:=HRj
   replace HNj:Hid _:=HNj
   have b0:(0:Int)<=(j:Int):=uO
   have b1:(j:Int)<(D.length:Int):=uO
   have hwj:IntKind.i64.wrap ((j:Int)+1)=(j:Int)+1:=yA uO uO
   generalize kn j=kj at HGj HRj HNj
   generalize vv j=vj at HRj
   generalize o j=oj at HGj HRj HNj
   obtain ⟨num,cust,units,st,cents,upto⟩:=oj
   simp only at HGj HRj HNj
   generalize D.getD j (0,0)=dj at c0 c1 HGj
   obtain ⟨dt,di⟩:=dj
   simp only at c0 c1 HGj
   clear HG HR HN HD HX
   go_wp2_with fail
   go_region_with
    (first
      | (go_at_call 95;refine (HGj.out _ _ (qI KJ HK.out bL)).mono ?_;rintro e W1 ⟨rfl,b⟩
         have hb1:Below wr.heap.size wr W1:=by first|exact b|exact uL (show Below wr.heap.size wr _ from bL) (b.mono vS)
         first
            | (have nb:Hid (W1.heap[wr.heap.size]?=some (.cells #[iv 0,iv 0,iv 0,iv 0,iv 0,iv 0] 142)):=(b.block wr.heap.size (by simp;done)).trans (uF wr _)
               have e0:=qA nb.out 0
               have e1:=qA nb.out 1
               have e2:=qA nb.out 2
               have e3:=qA nb.out 3
               have e4:=qA nb.out 4
               have e5:=qA nb.out 5
               obtain ⟨n0,n1,n2,n3,n4,n5⟩:=qB nb.out
               have ln:wr.heap.size<W1.heap.size:=(blt nb.out))
            | skip
         have hbl1:Hid (Below wr.heap.size wr W1):=hb1
         have q0:=(hb1.cell (p:=(aq g (j * 2))) hb).trans c0
         have q1:=(hb1.cell (p:=(aq g (j * 2+1))) hb).trans c1
         have hzr:=hb1.size
         clear b hb1))
   all_goals clear c0 c1 hb
   all_goals (first
    | (have ob2:Hid (((((((W1.setCell (aq wr.heap.size 0) (iv num)).setCell (aq wr.heap.size 1) (iv cust)).setCell (aq wr.heap.size 2) (iv units)).setCell (aq wr.heap.size 3) (iv st)).setCell (aq wr.heap.size 4) (iv cents)).setCell (aq wr.heap.size 5) (iv upto)).heap[wr.heap.size]?=some (.cells #[iv num,iv cust,iv units,iv st,iv cents,iv upto] 142)):=gA nb.out _ _ _ _ _ _
       have hb2:Hid (Below wr.heap.size wr ((((((W1.setCell (aq wr.heap.size 0) (iv num)).setCell (aq wr.heap.size 1) (iv cust)).setCell (aq wr.heap.size 2) (iv units)).setCell (aq wr.heap.size 3) (iv st)).setCell (aq wr.heap.size 4) (iv cents)).setCell (aq wr.heap.size 5) (iv upto))):=zL hbl1.out (uA _)
       have hp:wr.heap.size<=wr.heap.size:=uA _
       clear e0 e1 e2 e3 e4 e5 n0 n1 n2 n3 n4 n5 nb ln
       generalize ((((((W1.setCell (aq wr.heap.size 0) (iv num)).setCell (aq wr.heap.size 1) (iv cust)).setCell (aq wr.heap.size 2) (iv units)).setCell (aq wr.heap.size 3) (iv st)).setCell (aq wr.heap.size 4) (iv cents)).setCell (aq wr.heap.size 5) (iv upto))=W2 at ob2 hb2 ⊢
       generalize hpz:wr.heap.size=p at ob2 ⊢
       replace hp:wr.heap.size<=p:=Nat.le_of_eq hpz
       clear hpz)
    | (have ob2:Hid ((W1.alloc (.cells #[iv num,iv cust,iv units,iv st,iv cents,iv upto] 142)).heap[W1.heap.size]?=some (.cells #[iv num,iv cust,iv units,iv st,iv cents,iv upto] 142)):=uF W1 _
       have hb2:Hid (Below wr.heap.size wr (W1.alloc (.cells #[iv num,iv cust,iv units,iv st,iv cents,iv upto] 142))):=hbl1.out.alloc uO _
       have hp:wr.heap.size<=W1.heap.size:=uO
       generalize W1.alloc (.cells #[iv num,iv cust,iv units,iv st,iv cents,iv upto] 142)=W2 at ob2 hb2 ⊢
       generalize W1.heap.size=p at hp ob2 ⊢))
   all_goals
    have hT2:Hid (qX (Q j) w own (fun k=>k=p) W2):=iO KJ HK.out hb2.out hp (blt ob2.out)
    have hpz:p<W2.heap.size:=(blt ob2.out)
    have hx2:x<W2.heap.size:=uB hx hb2.out.size
    obtain ⟨s0,s1,s2,s3,s4,s5⟩:=qB ob2.out
    clear hb2 hbl1 q0 q1 hzr hp
   all_goals (try simp only [Act.put,lA,lB,lC,lD,lE,lF])
   all_goals
    cases kj with
    | false =>
      go_wp2_with fail
      go_roundw
      case rel=>first|exact HNX.out _ (jD (kJ (qI KJ hT2.out bL) (HNj.out vS)))|(rw [hwj];exact HNX.out _ (jD (kJ (qI KJ hT2.out bL) (HNj.out vS))))
      case measure=>simp [intOf];omega
    | true =>
      by_cases hst:(st==fr)=true
      ·go_wp2_with (go_at_call 129;refine (HRj.out rfl hst _ _ (qI KJ hT2.out bL)).mono ?_;rintro e W4 ⟨rfl,hT4,hk⟩
                    replace hT4:Hid (qX (Q (j+1)) w own (fun k=>k=p) W4):=hT4
                    clear hk)
       go_roundw
       case rel=>first|exact HNX.out _ (jD (qI KJ1 hT4.out bL))|(rw [hwj];exact HNX.out _ (jD (qI KJ1 hT4.out bL)))
       case measure=>simp [intOf];omega
      ·replace hst:(st==fr)=false:=by simpa using hst
       go_wp2_with fail
       go_roundw
       case rel=>first|exact HNX.out _ (jD (kJ (qI KJ hT2.out bL) (HNj.out (by simp [hst]))))|(rw [hwj];exact HNX.out _ (jD (kJ (qI KJ hT2.out bL) (HNj.out (by simp [hst])))))
       case measure=>simp [intOf];omega
  ·have hje:j=D.length:=uO
   subst hje
   go_wp2_with fail
   first|go_end0|refine uK (uR rfl _ _ _) rfl ?_
   exact ⟨rfl,zE (qI (KQ _) HK.out bL)⟩
end
