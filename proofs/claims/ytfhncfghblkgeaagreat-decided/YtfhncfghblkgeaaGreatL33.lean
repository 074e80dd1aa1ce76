import Derived.Test.YtfhncfghblkgeaaGreatL27
set_option maxRecDepth 100000
set_option maxHeartbeats 2000000
namespace Go.Proofs.YtfhncfghblkgeaaGreat
open Go.RowKit
section
def qap (w:World) (da:Option Addr) (D:List (Int × Int)):Prop:=∀ i,i<D.length->∃ b,da=some (aq b 0)/\b<w.heap.size/\w.cell? (aq b (i * 2))=some (iv (D.getD i (0,0)).1)/\w.cell? (aq b (i * 2+1))=some (iv (D.getD i (0,0)).2)
theorem jxr {w:World} {B:Nat} {v:Value} {D:List (Int × Int)} (h:w.ownsRow B 131 2 v D.length (jdq D)):∃ da dc,v=.slice da D.length dc/\qap w da D/\∀ b off,da=some (aq b off)->B<=b/\b<w.heap.size/\v.ownBlock=some b:=by
 rcases h.2 with ⟨hv,h0⟩|⟨b,cap,cur,hv,hB,hh,h1,h2,h3,h4⟩
 ·exact ⟨none,0,by rw [hv,h0],fun i hi=>by omega,fun b off e=>by cases e⟩
 ·refine ⟨some (aq b 0),cap,hv,fun i hi=>?_,fun b' off e=>?_⟩
  ·rw [hv] at h
   have c:∀ k,k<2->∀ u,(jdq D)[i * 2+k]?=some u->w.cell? (aq b (i * 2+k))=some u:=fun k hk u hu=>by
    have:=h.cells (g:=b) rfl _ _ hu
    rwa [Addr.add_lit,Nat.zero_add] at this
   have f:=jla D i hi
   exact ⟨b,rfl,(blt hh),c 0 (by omega) _ f.1,c 1 (by omega) _ f.2⟩
  ·simp only [Option.some.injEq,Addr.mk.injEq] at e
   obtain ⟨rfl,_⟩:=e
   exact ⟨hB,(blt hh),by rw [hv];rfl⟩
theorem jlq {w w':World} {own:Nat->Prop} {da:Option Addr} {D:List (Int × Int)} (h:qap w da D) (hs:Same own w w') (hn:∀ b off,da=some (aq b off)->¬ own b):qap w' da D:=fun i hi=>by
 obtain ⟨b,e,hb,c0,c1⟩:=h i hi
 have k:=hs.block b hb (hn b 0 e)
 exact ⟨b,e,Nat.lt_of_lt_of_le hb hs.size,(World.cell?_of_block (a:=(aq b (i * 2))) k).trans c0,(World.cell?_of_block (a:=(aq b (i * 2+1))) k).trans c1⟩
def jds (P:World->(Nat->Prop)->Prop) (da:Option Addr) (D:List (Int × Int)) (W:World) (o:Nat->Prop):Prop:=∃ o0,P W o0/\(∀ k,o0 k->o k)/\qap W da D/\(∀ k,(∃ off,da=some (aq k off))↔(o k/\¬ o0 k))/\∀ k,o k->k<W.heap.size
section
variable {P P':World->(Nat->Prop)->Prop} {w W W':World} {own loc:Nat->Prop} {da:Option Addr} {D:List (Int × Int)}
theorem jow (K:Keeps P) (da:Option Addr) (D:List (Int × Int)):Keeps (jds P da D):=by
 refine ⟨fun {W o} h=>?_,fun {W W' o} h hz hk=>?_⟩
 ·obtain ⟨o0,a1,a2,a3,a4,a5⟩:=h
  exact a5
 ·obtain ⟨o0,a1,a2,a3,a4,a5⟩:=h
  refine ⟨o0,K.keep a1 hz (fun k e=>hk k (a2 k e)),a2,fun i hi=>?_,a4,fun k e=>Nat.lt_of_lt_of_le (a5 k e) hz⟩
  obtain ⟨b,e,hb,c0,c1⟩:=a3 i hi
  have k:=hk b ((a4 b).1 ⟨0,e⟩).1
  exact ⟨b,e,Nat.lt_of_lt_of_le hb hz,(World.cell?_of_block (a:=(aq b (i * 2))) k).trans c0,(World.cell?_of_block (a:=(aq b (i * 2+1))) k).trans c1⟩
theorem jf2 (K':Keeps P') {f:FuncId} {args:Array Value} {v:Value} (h:∀ W o0,P W o0->qap W da D->(∀ b off,da=some (aq b off)->¬ o0 b)->Calls Tryz.prog f args W fun e w'=>e=.returned v/\jap P' W w' o0) (W:World) (o:Nat->Prop) (hp:jds P da D W o) :
 Calls Tryz.prog f args W fun e w'=>e=.returned v/\jap (jds P' da D) W w' o:=by
 obtain ⟨o0,a1,a2,a3,a4,a5⟩:=hp
 have hn:∀ b off,da=some (aq b off)->¬ o0 b:=fun b off e=>((a4 b).1 ⟨off,e⟩).2
 refine (h W o0 a1 a3 hn).mono ?_
 rintro e w' ⟨rfl,o1,b1,b2,b3⟩
 refine ⟨rfl,fun k=>o1 k\/∃ off,da=some (aq k off),⟨o1,b1,fun k e=>.inl e,jlq a3 b2 hn,fun k=>⟨fun e=>⟨.inr e,fun c=>?_⟩,fun e=>e.1.elim (fun c=>absurd c e.2) id⟩,fun k e=>e.elim (K'.lt b1 k) (fun e=>Nat.lt_of_lt_of_le (a5 k ((a4 k).1 e).1) b2.size)⟩,jci b2 a2,fun k e=>e.elim (fun e=>(b3 k e).imp (a2 k) id) (fun e=>.inl ((a4 k).1 e).1)⟩
 rcases b3 k c with c|c
 ·exact ((a4 k).1 e).2 c
 ·have:=a5 k ((a4 k).1 e).1;omega
theorem qgs (h:ja7 (jds P da D) w own loc W):qap W da D:=by
 obtain ⟨o1,⟨o0,_,_,a3,_⟩,_⟩:=h
 exact a3
theorem jou (h:ja7 (jds P da D) w own loc W):jap P w W own:=by
 obtain ⟨o1,⟨o0,a1,a2,_⟩,b2,b3,_⟩:=h
 exact ⟨o0,a1,b2,fun k e=>(b3 k (a2 k e)).imp id (fun e=>e.1)⟩
theorem jlt (K:Keeps P) (h:ja7 P w own loc W) (hb:Below W.heap.size W W') {p:Nat} (h1:W.heap.size<=p) (h2:p<W'.heap.size):ja7 P w own (fun k=>k=p) W':=by
 obtain ⟨o1,a1,a2,a3,a4⟩:=h
 have z:=a2.size
 exact ⟨o1,K.keep a1 hb.size (fun k e=>hb.block k (K.lt a1 k e)),Same.trans a2 (Same.of_below (own:=own) hb) (fun k _ e=>e.elim id id),fun k e=>(a3 k e).imp id (fun c=>⟨c.1,fun d=>by have:=K.lt a1 k e;omega⟩),fun k e=>by subst e;exact ⟨by omega,h2⟩⟩
theorem jc3 (h:ja7 P w own loc W):ja7 P w own (fun _=>False) W:=by
 obtain ⟨o1,a1,a2,a3,a4⟩:=h
 exact ⟨o1,a1,a2,fun k e=>(a3 k e).imp id (fun c=>⟨c.1,id⟩),fun _ e=>e.elim⟩
theorem jdo (h:ja7 P w own loc W) (hp:∀ W o,P W o->P' W o):ja7 P' w own loc W:=by
 obtain ⟨o1,a1,a⟩:=h
 exact ⟨o1,hp _ _ a1,a⟩
theorem jag (h:ja7 P w own loc W):Same own w W:=by
 obtain ⟨o1,a1,a2,_⟩:=h
 exact a2
end
theorem jup (num cust units st cents upto:Int) (w:World) :
 Calls Tryz.prog 159 #[.agg #[iv num,iv cust,iv units,iv st,iv cents,iv upto]] w fun e w'=>e=.returned (.bool (st != 13 && st != 12))/\Below w.heap.size w w':=by
 go_enter Tryz.func159,Tryz.ntmps159
 go_wp2
 all_goals refine bodyPost_ret (v:=.bool (st != 13 && st != 12)) ?_ rfl ⟨rfl,bL⟩
 all_goals first|(simp [results,Tryz.results159,go_sem];done)|(simp [results,Tryz.results159,go_sem];intros;omega)
theorem jqk (x dc:Nat) (da:Option Addr) (D:List (Int × Int)) (w:World) (own:Nat->Prop) (Q:Nat->World->(Nat->Prop)->Prop) (KQ:∀ j,Keeps (Q j)) (o:Nat->POrd) (kn:Nat->Bool) (en:Nat->Bool) (h:Q 0 w own) (hn:D.length<=4294967296)
 (HX:Hid (∀ j loc W,ja7 (Q j) w own loc W->x<W.heap.size))
 (HD:Hid (∀ W,Same own w W->qap W da D))
 (HG:Hid (∀ j loc W,j<D.length->ja7 (Q j) w own loc W->Calls Tryz.prog 131 #[pt x 11,iv (D.getD j (0,0)).2] W fun e w'=>e=.returned (.tuple #[.agg #[iv (o j).num,iv (o j).cust,iv (o j).units,iv (o j).st,iv (o j).cents,iv (o j).upto],.bool (kn j)])/\Below W.heap.size W w'))
 (HE:Hid (∀ j W,j<D.length->Calls Tryz.prog 159 #[.agg #[iv (o j).num,iv (o j).cust,iv (o j).units,iv (o j).st,iv (o j).cents,iv (o j).upto]] W fun e w'=>e=.returned (.bool (en j))/\Below W.heap.size W w'))
 (HR:Hid (∀ j,j<D.length->kn j=true->en j=true->jc2 w own (Q j) (Q (j+1)) 160 #[pt x 11,iv (o j).num] (.tuple #[])))
 (HN:Hid (∀ j,j<D.length->¬ (kn j=true/\en j=true)->∀ W o,Q j W o->Q (j+1) W o)) :
 Calls Tryz.prog 135 #[pt x 0,.slice da D.length dc] w fun e w'=>e=.returned (.tuple #[])/\jap (Q D.length) w w' own:=by
 have hT0:Hid (ja7 (Q 0) w own (fun _=>False) w):=jah (KQ 0) h (Below.refl _ _) (fun _ e=>e.elim)
 clear h
 go_enter Tryz.func135,Tryz.ntmps135
 go_wp2_with fail
 go_loopw [4] (fun i wr=>∃ j:Nat,j<=D.length/\i=iv j/\Hid (ja7 (Q j) w own (fun _=>False) wr)) (fun i _=>D.length - (intOf i).toNat)
 case atStart=>exact ⟨0,Nat.zero_le _,rfl,hT0⟩
 case round =>
  obtain ⟨j,hj,rfl,HK⟩:=hrel
  clear hT0
  by_cases hlt:j<D.length
  ·obtain ⟨g,rfl,hb,c0,c1⟩:=HD.out wr (jag HK.out) j hlt
   have hx:=HX.out _ _ _ HK.out
   have HGj:=fun loc W hT=>HG.out j loc W hlt hT
   have HRj:=HR.out j hlt
   have HNj:=HN.out j hlt
   have HEj:=fun W=>HE.out j W hlt
   have KJ:=KQ j
   have KJ1:=KQ (j+1)
   have HNX:Hid (∀ wr',ja7 (Q (j+1)) w own (fun _=>False) wr'->∃ j':Nat,j'<=D.length/\Value.int .i64 ((j:Int)+1)=iv j'/\Hid (ja7 (Q j') w own (fun _=>False) wr')):=fun wr' h=>⟨j+1,by omega,by simp,h⟩
   replace HGj:Hid _:=HGj
   replace HRj:Hid _:=HRj
   replace HNj:Hid _:=HNj
   replace HEj:Hid _:=HEj
   have b0:(0:Int)<=(j:Int):=by omega
   have b1:(j:Int)<(D.length:Int):=by omega
   have hwj:IntKind.i64.wrap ((j:Int)+1)=(j:Int)+1:=jab (by omega) (by omega)
   generalize kn j=kj at HGj HRj HNj
   generalize en j=ej at HRj HNj HEj
   generalize o j=oj at HGj HRj HNj HEj
   obtain ⟨num,cust,units,st,cents,upto⟩:=oj
   simp only at HGj HRj HNj HEj
   generalize D.getD j (0,0)=dj at c0 c1 HGj
   obtain ⟨dt,di⟩:=dj
   simp only at c0 c1 HGj
   clear HG HR HN HD HX HE
   go_wp2_with fail
   go_region_with
    (first
      | (go_at_call 131;refine (HGj.out _ _ (ja2 KJ HK.out bL)).mono ?_;rintro e W1 ⟨rfl,b⟩
         have hb1:Below wr.heap.size wr W1:=by first|exact b|exact Below.trans (show Below wr.heap.size wr _ from bL) (b.mono (by simp))
         first
            | (have nb:Hid (W1.heap[wr.heap.size]?=some (.cells #[iv 0,iv 0,iv 0,iv 0,iv 0,iv 0] 184 (0,0))):=(b.block wr.heap.size (by simp;done)).trans (heap_alloc_new wr _)
               have e0:=ja0 nb.out 0
               have e1:=ja0 nb.out 1
               have e2:=ja0 nb.out 2
               have e3:=ja0 nb.out 3
               have e4:=ja0 nb.out 4
               have e5:=ja0 nb.out 5
               obtain ⟨n0,n1,n2,n3,n4,n5⟩:=ja1 nb.out
               have ln:wr.heap.size<W1.heap.size:=(blt nb.out))
            | skip
         have hbl1:Hid (Below wr.heap.size wr W1):=hb1
         have q0:=(hb1.cell (p:=(aq g (j * 2))) hb).trans c0
         have q1:=(hb1.cell (p:=(aq g (j * 2+1))) hb).trans c1
         have hzr:=hb1.size
         clear b hb1))
   all_goals clear c0 c1 hb
   all_goals (first
    | (have ob2:Hid (((((((W1.setCell (aq wr.heap.size 0) (iv num)).setCell (aq wr.heap.size 1) (iv cust)).setCell (aq wr.heap.size 2) (iv units)).setCell (aq wr.heap.size 3) (iv st)).setCell (aq wr.heap.size 4) (iv cents)).setCell (aq wr.heap.size 5) (iv upto)).heap[wr.heap.size]?=some (.cells #[iv num,iv cust,iv units,iv st,iv cents,iv upto] 184 (0,0))):=jgi nb.out _ _ _ _ _ _
       have hb2:Hid (Below wr.heap.size wr ((((((W1.setCell (aq wr.heap.size 0) (iv num)).setCell (aq wr.heap.size 1) (iv cust)).setCell (aq wr.heap.size 2) (iv units)).setCell (aq wr.heap.size 3) (iv st)).setCell (aq wr.heap.size 4) (iv cents)).setCell (aq wr.heap.size 5) (iv upto))):=jbu hbl1.out (Nat.le_refl _)
       have hp:wr.heap.size<=wr.heap.size:=Nat.le_refl _
       clear e0 e1 e2 e3 e4 e5 n0 n1 n2 n3 n4 n5 nb ln
       generalize ((((((W1.setCell (aq wr.heap.size 0) (iv num)).setCell (aq wr.heap.size 1) (iv cust)).setCell (aq wr.heap.size 2) (iv units)).setCell (aq wr.heap.size 3) (iv st)).setCell (aq wr.heap.size 4) (iv cents)).setCell (aq wr.heap.size 5) (iv upto))=W2 at ob2 hb2 ⊢
       generalize hpz:wr.heap.size=p at ob2 ⊢
       replace hp:wr.heap.size<=p:=Nat.le_of_eq hpz
       clear hpz)
    | (have ob2:Hid ((W1.alloc (.cells #[iv num,iv cust,iv units,iv st,iv cents,iv upto] 184)).heap[W1.heap.size]?=some (.cells #[iv num,iv cust,iv units,iv st,iv cents,iv upto] 184 (0,0))):=heap_alloc_new W1 _
       have hb2:Hid (Below wr.heap.size wr (W1.alloc (.cells #[iv num,iv cust,iv units,iv st,iv cents,iv upto] 184))):=hbl1.out.alloc (by omega) _
       have hp:wr.heap.size<=W1.heap.size:=by omega
       generalize W1.alloc (.cells #[iv num,iv cust,iv units,iv st,iv cents,iv upto] 184)=W2 at ob2 hb2 ⊢
       generalize W1.heap.size=p at hp ob2 ⊢))
   all_goals
    have hT2:Hid (ja7 (Q j) w own (fun k=>k=p) W2):=jlt KJ HK.out hb2.out hp (blt ob2.out)
    have hpz:p<W2.heap.size:=(blt ob2.out)
    have hx2:x<W2.heap.size:=Nat.lt_of_lt_of_le hx hb2.out.size
    obtain ⟨s0,s1,s2,s3,s4,s5⟩:=ja1 ob2.out
    clear hb2 hbl1 q0 q1 hzr hp
   all_goals (try simp only [Act.put,lA,lB,lC,lD,lE,lF])
   all_goals
    cases kj with
    | false =>
      go_wp2_with fail
      go_roundw
      case rel=>first|exact HNX.out _ (jc3 (jdo (ja2 KJ hT2.out bL) (HNj.out (by simp))))|(rw [hwj];exact HNX.out _ (jc3 (jdo (ja2 KJ hT2.out bL) (HNj.out (by simp)))))
      case measure=>simp [intOf];omega
    | true =>
      cases ej with
      | false =>
        go_wp2_with (go_at_call 159;refine (HEj.out _).mono ?_;rintro e W3 ⟨rfl,b3⟩
                     have hT3:Hid (ja7 (Q j) w own (fun k=>k=p) W3):=ja2 KJ (ja2 KJ hT2.out bL) b3
                     have t0:=(b3.cell (p:=(aq p 0)) hpz).trans s0
                     have hpz3:=Nat.lt_of_lt_of_le hpz b3.size
                     have hx3:=Nat.lt_of_lt_of_le hx2 b3.size
                     clear b3)
        go_roundw
        case rel=>first|exact HNX.out _ (jc3 (jdo (ja2 KJ hT3.out bL) (HNj.out (by simp))))|(rw [hwj];exact HNX.out _ (jc3 (jdo (ja2 KJ hT3.out bL) (HNj.out (by simp)))))
        case measure=>simp [intOf];omega
      | true =>
        go_wp2_with (go_at_call 159;refine (HEj.out _).mono ?_;rintro e W3 ⟨rfl,b3⟩
                     have hT3:Hid (ja7 (Q j) w own (fun k=>k=p) W3):=ja2 KJ (ja2 KJ hT2.out bL) b3
                     have t0:=(b3.cell (p:=(aq p 0)) hpz).trans s0
                     have hpz3:=Nat.lt_of_lt_of_le hpz b3.size
                     have hx3:=Nat.lt_of_lt_of_le hx2 b3.size
                     clear b3)
        clear s0 s1 s2 s3 s4 s5 hpz hx2 hT2
        go_region_held3 (fun w'=>w'.cell? (aq p 0)=some (iv num)) (simp [go_sem, *])
           (first
             | (go_at_call 160;refine (HRj.out (by first|rfl|trivial) (by first|rfl|trivial) _ _ (ja2 KJ hT3.out bL)).mono ?_;rintro e W4 ⟨rfl,hT4,hk⟩
                replace hT4:Hid (ja7 (Q (j+1)) w own (fun k=>k=p) W4):=hT4
                have u0:=(World.cell?_of_block (a:=(aq p 0)) (hk p rfl)).trans t0
                clear hk))
        go_wp2_with fail
        go_roundw
        case rel=>first|exact HNX.out _ (jc3 (ja2 KJ1 hT4.out bL))|(rw [hwj];exact HNX.out _ (jc3 (ja2 KJ1 hT4.out bL)))
        case measure=>simp [intOf];omega
  ·have hje:j=D.length:=by omega
   subst hje
   go_wp2_with fail
   first|go_end0|refine bodyPost_ret (results_none rfl _ _ _) rfl ?_
   exact ⟨rfl,jan (ja2 (KQ _) HK.out bL)⟩
theorem jyy (x dc:Nat) (da:Option Addr) (D:List (Int × Int)) (fr into:Int) (w:World) (own:Nat->Prop) (Q:Nat->World->(Nat->Prop)->Prop) (KQ:∀ j,Keeps (Q j)) (o:Nat->POrd) (kn:Nat->Bool) (vv:Nat->Value) (h:Q 0 w own) (hn:D.length<=4294967296)
 (HX:Hid (∀ j loc W,ja7 (Q j) w own loc W->x<W.heap.size))
 (HD:Hid (∀ W,Same own w W->qap W da D))
 (HG:Hid (∀ j loc W,j<D.length->ja7 (Q j) w own loc W->Calls Tryz.prog 131 #[pt x 11,iv (D.getD j (0,0)).2] W fun e w'=>e=.returned (.tuple #[.agg #[iv (o j).num,iv (o j).cust,iv (o j).units,iv (o j).st,iv (o j).cents,iv (o j).upto],.bool (kn j)])/\Below W.heap.size W w'))
 (HR:Hid (∀ j,j<D.length->kn j=true->((o j).st==fr)=true->jc2 w own (Q j) (Q (j+1)) 157 #[pt x 0,.agg #[iv (o j).num,iv (o j).cust,iv (o j).units,iv (o j).st,iv (o j).cents,iv (o j).upto],iv into] (vv j)))
 (HN:Hid (∀ j,j<D.length->¬ (kn j=true/\((o j).st==fr)=true)->∀ W o,Q j W o->Q (j+1) W o)) :
 Calls Tryz.prog 136 #[pt x 0,.slice da D.length dc,iv fr,iv into] w fun e w'=>e=.returned (.tuple #[])/\jap (Q D.length) w w' own:=by
 have hT0:Hid (ja7 (Q 0) w own (fun _=>False) w):=jah (KQ 0) h (Below.refl _ _) (fun _ e=>e.elim)
 clear h
 go_enter Tryz.func136,Tryz.ntmps136
 go_wp2_with fail
 go_loopw [8] (fun i wr=>∃ j:Nat,j<=D.length/\i=iv j/\Hid (ja7 (Q j) w own (fun _=>False) wr)) (fun i _=>D.length - (intOf i).toNat)
 case atStart=>exact ⟨0,Nat.zero_le _,rfl,hT0⟩
 case round =>
  obtain ⟨j,hj,rfl,HK⟩:=hrel
  clear hT0
  by_cases hlt:j<D.length
  ·obtain ⟨g,rfl,hb,c0,c1⟩:=HD.out wr (jag HK.out) j hlt
   have hx:=HX.out _ _ _ HK.out
   have HGj:=fun loc W hT=>HG.out j loc W hlt hT
   have HRj:=HR.out j hlt
   have HNj:=HN.out j hlt
   have KJ:=KQ j
   have KJ1:=KQ (j+1)
   have HNX:Hid (∀ wr',ja7 (Q (j+1)) w own (fun _=>False) wr'->∃ j':Nat,j'<=D.length/\Value.int .i64 ((j:Int)+1)=iv j'/\Hid (ja7 (Q j') w own (fun _=>False) wr')):=fun wr' h=>⟨j+1,by omega,by simp,h⟩
   replace HGj:Hid _:=HGj
   replace HRj:Hid _:=HRj
   replace HNj:Hid _:=HNj
   have b0:(0:Int)<=(j:Int):=by omega
   have b1:(j:Int)<(D.length:Int):=by omega
   have hwj:IntKind.i64.wrap ((j:Int)+1)=(j:Int)+1:=jab (by omega) (by omega)
   generalize kn j=kj at HGj HRj HNj
   generalize vv j=vj at HRj
   generalize o j=oj at HGj HRj HNj
   obtain ⟨num,cust,units,st,cents,upto⟩:=oj
   simp only at HGj HRj HNj
   generalize D.getD j (0,0)=dj at c0 c1 HGj
   obtain ⟨dt,di⟩:=dj
   simp only at c0 c1 HGj
   clear HG HR HN HD HX
   go_wp2_with fail
   go_region_with
    (first
      | (go_at_call 131;refine (HGj.out _ _ (ja2 KJ HK.out bL)).mono ?_;rintro e W1 ⟨rfl,b⟩
         have hb1:Below wr.heap.size wr W1:=by first|exact b|exact Below.trans (show Below wr.heap.size wr _ from bL) (b.mono (by simp))
         first
            | (have nb:Hid (W1.heap[wr.heap.size]?=some (.cells #[iv 0,iv 0,iv 0,iv 0,iv 0,iv 0] 184 (0,0))):=(b.block wr.heap.size (by simp;done)).trans (heap_alloc_new wr _)
               have e0:=ja0 nb.out 0
               have e1:=ja0 nb.out 1
               have e2:=ja0 nb.out 2
               have e3:=ja0 nb.out 3
               have e4:=ja0 nb.out 4
               have e5:=ja0 nb.out 5
               obtain ⟨n0,n1,n2,n3,n4,n5⟩:=ja1 nb.out
               have ln:wr.heap.size<W1.heap.size:=(blt nb.out))
            | skip
         have hbl1:Hid (Below wr.heap.size wr W1):=hb1
         have q0:=(hb1.cell (p:=(aq g (j * 2))) hb).trans c0
         have q1:=(hb1.cell (p:=(aq g (j * 2+1))) hb).trans c1
         have hzr:=hb1.size
         clear b hb1))
   all_goals clear c0 c1 hb
   all_goals (first
    | (have ob2:Hid (((((((W1.setCell (aq wr.heap.size 0) (iv num)).setCell (aq wr.heap.size 1) (iv cust)).setCell (aq wr.heap.size 2) (iv units)).setCell (aq wr.heap.size 3) (iv st)).setCell (aq wr.heap.size 4) (iv cents)).setCell (aq wr.heap.size 5) (iv upto)).heap[wr.heap.size]?=some (.cells #[iv num,iv cust,iv units,iv st,iv cents,iv upto] 184 (0,0))):=jgi nb.out _ _ _ _ _ _
       have hb2:Hid (Below wr.heap.size wr ((((((W1.setCell (aq wr.heap.size 0) (iv num)).setCell (aq wr.heap.size 1) (iv cust)).setCell (aq wr.heap.size 2) (iv units)).setCell (aq wr.heap.size 3) (iv st)).setCell (aq wr.heap.size 4) (iv cents)).setCell (aq wr.heap.size 5) (iv upto))):=jbu hbl1.out (Nat.le_refl _)
       have hp:wr.heap.size<=wr.heap.size:=Nat.le_refl _
       clear e0 e1 e2 e3 e4 e5 n0 n1 n2 n3 n4 n5 nb ln
       generalize ((((((W1.setCell (aq wr.heap.size 0) (iv num)).setCell (aq wr.heap.size 1) (iv cust)).setCell (aq wr.heap.size 2) (iv units)).setCell (aq wr.heap.size 3) (iv st)).setCell (aq wr.heap.size 4) (iv cents)).setCell (aq wr.heap.size 5) (iv upto))=W2 at ob2 hb2 ⊢
       generalize hpz:wr.heap.size=p at ob2 ⊢
       replace hp:wr.heap.size<=p:=Nat.le_of_eq hpz
       clear hpz)
    | (have ob2:Hid ((W1.alloc (.cells #[iv num,iv cust,iv units,iv st,iv cents,iv upto] 184)).heap[W1.heap.size]?=some (.cells #[iv num,iv cust,iv units,iv st,iv cents,iv upto] 184 (0,0))):=heap_alloc_new W1 _
       have hb2:Hid (Below wr.heap.size wr (W1.alloc (.cells #[iv num,iv cust,iv units,iv st,iv cents,iv upto] 184))):=hbl1.out.alloc (by omega) _
       have hp:wr.heap.size<=W1.heap.size:=by omega
       generalize W1.alloc (.cells #[iv num,iv cust,iv units,iv st,iv cents,iv upto] 184)=W2 at ob2 hb2 ⊢
       generalize W1.heap.size=p at hp ob2 ⊢))
   all_goals
    have hT2:Hid (ja7 (Q j) w own (fun k=>k=p) W2):=jlt KJ HK.out hb2.out hp (blt ob2.out)
    have hpz:p<W2.heap.size:=(blt ob2.out)
    have hx2:x<W2.heap.size:=Nat.lt_of_lt_of_le hx hb2.out.size
    obtain ⟨s0,s1,s2,s3,s4,s5⟩:=ja1 ob2.out
    clear hb2 hbl1 q0 q1 hzr hp
   all_goals (try simp only [Act.put,lA,lB,lC,lD,lE,lF])
   all_goals
    cases kj with
    | false =>
      go_wp2_with fail
      go_roundw
      case rel=>first|exact HNX.out _ (jc3 (jdo (ja2 KJ hT2.out bL) (HNj.out (by simp))))|(rw [hwj];exact HNX.out _ (jc3 (jdo (ja2 KJ hT2.out bL) (HNj.out (by simp)))))
      case measure=>simp [intOf];omega
    | true =>
      by_cases hst:(st==fr)=true
      ·go_wp2_with (go_at_call 157;refine (HRj.out rfl hst _ _ (ja2 KJ hT2.out bL)).mono ?_;rintro e W4 ⟨rfl,hT4,hk⟩
                    replace hT4:Hid (ja7 (Q (j+1)) w own (fun k=>k=p) W4):=hT4
                    clear hk)
       go_roundw
       case rel=>first|exact HNX.out _ (jc3 (ja2 KJ1 hT4.out bL))|(rw [hwj];exact HNX.out _ (jc3 (ja2 KJ1 hT4.out bL)))
       case measure=>simp [intOf];omega
      ·replace hst:(st==fr)=false:=by simpa using hst
       go_wp2_with fail
       go_roundw
       case rel=>first|exact HNX.out _ (jc3 (jdo (ja2 KJ hT2.out bL) (HNj.out (by simp [hst]))))|(rw [hwj];exact HNX.out _ (jc3 (jdo (ja2 KJ hT2.out bL) (HNj.out (by simp [hst])))))
       case measure=>simp [intOf];omega
  ·have hje:j=D.length:=by omega
   subst hje
   go_wp2_with fail
   first|go_end0|refine bodyPost_ret (results_none rfl _ _ _) rfl ?_
   exact ⟨rfl,jan (ja2 (KQ _) HK.out bL)⟩
end
theorem jer {w:World} {R:Nat} {c0 c1 c2 c3 c4:Value} {T:TypeId} (h:w.heap[R]?=some (.cells #[c0,c1,c2,c3,c4] T (0,0))):w.cell? (aq R 0)=some c0/\w.cell? (aq R 1)=some c1/\w.cell? (aq R 2)=some c2/\w.cell? (aq R 3)=some c3/\w.cell? (aq R 4)=some c4:=by
 refine ⟨?_,?_,?_,?_,?_⟩<;>rw [Joins.cell_of_block h]<;>rfl
theorem jck {w:World} {R:Nat} {c0 c1 c2 c3:Value} {T:TypeId} (h:w.heap[R]?=some (.cells #[c0,c1,c2,c3] T (0,0))):w.cell? (aq R 0)=some c0/\w.cell? (aq R 1)=some c1/\w.cell? (aq R 2)=some c2/\w.cell? (aq R 3)=some c3:=by
 refine ⟨?_,?_,?_,?_⟩<;>rw [Joins.cell_of_block h]<;>rfl
theorem jbd (w:World) (A B:Array Value) {T U:TypeId}:((w.alloc (.cells A T)).alloc (.cells B U)).heap[w.heap.size+1]?=some (.cells B U (0,0)):=by
 have h:=heap_alloc_new (w.alloc (.cells A T)) (.cells B U)
 rwa [show (w.alloc (.cells A T)).heap.size=w.heap.size+1 by simp] at h
theorem jij {w W:World} {c0 c1 c2 c3 c4:Value} {T:TypeId} {O:Obj} (hb:Below w.heap.size w W) (h:W.heap[w.heap.size]?=some (.cells #[c0,c1,c2,c3,c4] T (0,0))) (hp:W.heap[w.heap.size+1]?=some O) (v0 v1 v2 v3 v4:Value) :
 ∃ W2,(((((W.setCell (aq w.heap.size 0) v0).setCell (aq w.heap.size 1) v1).setCell (aq w.heap.size 2) v2).setCell (aq w.heap.size 3) v3).setCell (aq w.heap.size 4) v4)=W2/\Below w.heap.size w W2/\W2.heap[w.heap.size]?=some (.cells #[v0,v1,v2,v3,v4] T (0,0))/\W2.heap[w.heap.size+1]?=some O:=by
 refine ⟨_,rfl,jb1 hb (Nat.le_refl _),?_,?_⟩
 ·have h2:=Joins.block_setCell (i:=0) h v0
  have h3:=Joins.block_setCell (i:=1) h2 v1
  have h4:=Joins.block_setCell (i:=2) h3 v2
  have h5:=Joins.block_setCell (i:=3) h4 v3
  exact Joins.block_setCell (i:=4) h5 v4
 ·have k:∀ (W:World) (i:Nat) (v:Value),(W.setCell (aq w.heap.size i) v).heap[w.heap.size+1]?=W.heap[w.heap.size+1]?:=fun W i v=>Below.heap_setCell _ (aq w.heap.size i) _ _ (by show w.heap.size+1≠w.heap.size;omega)
  rw [k,k,k,k,k]
  exact hp
end Go.Proofs.YtfhncfghblkgeaaGreat
