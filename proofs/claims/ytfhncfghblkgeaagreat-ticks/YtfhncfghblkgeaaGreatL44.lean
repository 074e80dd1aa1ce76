import Derived.Test.YtfhncfghblkgeaaGreatL37
import Derived.Test.YtfhncfghblkgeaaGreatL38
import Derived.Test.YtfhncfghblkgeaaGreatL43
set_option maxRecDepth 100000
set_option maxHeartbeats 2000000
namespace Go.Proofs.YtfhncfghblkgeaaGreat
open Go.RowKit
theorem jrg (x aw:Nat) (now er:Int) (D:List (Int × Int)) (w:World) (own:Nat->Prop) (P0:World->(Nat->Prop)->Prop) (Q:Nat->World->(Nat->Prop)->Prop) (K0:Keeps P0) (KQ:∀ j,Keeps (Q j)) (h:P0 w own) (hn:D.length<=4294967296)
 (HX:Hid (∀ loc W,jal P0 w own loc W->x<W.heap.size/\W.cell? (aq x 23)=some (pt aw 0)))
 (HA:Hid (∀ loc W,jal P0 w own loc W->Calls Tryz.prog 119 #[pt aw 0,iv now] W fun e w'=>∃ da dc,e=.returned (.tuple #[.slice da D.length dc,iv er])/\jal (jdm (Q 0) da D) w own loc w'))
 (HR:Hid (∀ da j,j<D.length->jck w own (jdm (Q j) da D) (jdm (Q (j+1)) da D) 138 #[pt x 23,iv (D.getD j (0,0)).2] (.tuple #[]))) :
 Calls Tryz.prog 105 #[pt x 23,iv now] w fun e w'=>e=.returned (.tuple #[])/\jbq (Q D.length) w w' own:=by
 have hT0:Hid (jal P0 w own (fun _=>False) w):=jat K0 h (Below.refl _ _) (fun _ e=>e.elim)
 obtain ⟨hx,c23⟩:=HX.out _ _ hT0.out
 clear h HX
 go_enter Tryz.func105,Tryz.ntmps105
 go_wp2_with (go_at_call 119;refine (HA.out _ _ (ja5 K0 hT0.out bL)).mono ?_;rintro e W1 ⟨da,dc,rfl,hT1⟩
              replace hT1:Hid (jal (jdm (Q 0) da D) w own (fun _=>False) W1):=hT1
              clear c23 hx)
 clear hT0 HA
 go_loopw [6] (fun i wr=>∃ j:Nat,j<=D.length/\i=iv j/\Hid (jal (jdm (Q j) da D) w own (fun _=>False) wr)) (fun i _=>D.length - (intOf i).toNat)
 case atStart=>exact ⟨0,Nat.zero_le _,rfl,hT1⟩
 case round =>
  obtain ⟨j,hj,rfl,HK⟩:=hrel
  clear hT1
  by_cases hlt:j<D.length
  ·obtain ⟨g,rfl,hb,c0,c1⟩:=qg5 HK.out j hlt
   have HRj:Hid _:=HR.out (some (aq g 0)) j hlt
   have KJ:=jpq (KQ j) (some (aq g 0)) D
   have KJ1:=jpq (KQ (j+1)) (some (aq g 0)) D
   have HNX:Hid (∀ wr',jal (jdm (Q (j+1)) (some (aq g 0)) D) w own (fun _=>False) wr'->∃ j':Nat,j'<=D.length/\Value.int .i64 ((j:Int)+1)=iv j'/\Hid (jal (jdm (Q j') (some (aq g 0)) D) w own (fun _=>False) wr')):=fun wr' h=>⟨j+1,by omega,by simp,h⟩
   have b0:(0:Int)<=(j:Int):=by omega
   have b1:(j:Int)<(D.length:Int):=by omega
   have hwj:IntKind.i64.wrap ((j:Int)+1)=(j:Int)+1:=jag (by omega) (by omega)
   generalize D.getD j (0,0)=dj at c0 c1 HRj
   obtain ⟨dt,di⟩:=dj
   simp only at c0 c1 HRj
   clear HR
   go_wp2_with (go_at_call 138;refine (HRj.out _ _ (ja5 KJ HK.out bL)).mono ?_;rintro e W4 ⟨rfl,hT4,hk⟩
                replace hT4:Hid _:=hT4
                clear hk c0 c1 hb)
   go_roundw
   case rel=>first|exact HNX.out _ (ja5 KJ1 hT4.out bL)|(rw [hwj];exact HNX.out _ (ja5 KJ1 hT4.out bL))
   case measure=>simp [intOf];omega
  ·have hje:j=D.length:=by omega
   subst hje
   go_wp2_with fail
   first|go_end0|refine bodyPost_ret (results_none rfl _ _ _) rfl ?_
   exact ⟨rfl,jnk (ja5 (jpq (KQ _) da D) HK.out bL)⟩
theorem jxh (x tw:Nat) (now er:Int) (D:List (Int × Int)) (w:World) (own:Nat->Prop) (P0 P1 P2 P3 P4 P5 P6:World->(Nat->Prop)->Prop) (K0:Keeps P0) (K1:Keeps P1) (K2:Keeps P2) (K3:Keeps P3) (K4:Keeps P4) (K5:Keeps P5) (K6:Keeps P6) (h:P0 w own)
 (HX:Hid (∀ loc W,jal P0 w own loc W->x<W.heap.size/\W.cell? (aq x 10)=some (pt tw 0)/\W.cell? (aq x 8)=some (iv now)))
 (HX1:Hid (∀ da loc W,jal (jdm P1 da D) w own loc W->x<W.heap.size/\W.cell? (aq x 10)=some (pt tw 0)/\W.cell? (aq x 8)=some (iv now)))
 (HA:Hid (∀ loc W,jal P0 w own loc W->Calls Tryz.prog 119 #[pt tw 0,iv now] W fun e w'=>∃ da dc,e=.returned (.tuple #[.slice da D.length dc,iv er])/\jal (jdm P1 da D) w own loc w'))
 (HF:Hid (∀ da dc,jck w own (jdm P1 da D) (jdm P2 da D) 135 #[pt x 0,.slice da D.length dc] (.tuple #[])))
 (HE:Hid (∀ da dc,jck w own (jdm P2 da D) (jdm P3 da D) 136 #[pt x 0,.slice da D.length dc,iv 13,iv 15] (.tuple #[])))
 (HP:Hid (∀ da,jck w own (jdm P3 da D) (jdm P4 da D) 137 #[pt x 0] (.tuple #[])))
 (HE2:Hid (∀ da dc,jck w own (jdm P4 da D) (jdm P5 da D) 136 #[pt x 0,.slice da D.length dc,iv 12,iv 17] (.tuple #[])))
 (HP2:Hid (∀ da,jck w own (jdm P5 da D) (jdm P6 da D) 137 #[pt x 0] (.tuple #[]))) :
 Calls Tryz.prog 104 #[pt x 0] w fun e w'=>e=.returned (.tuple #[])/\jbq P6 w w' own:=by
 have hT0:Hid (jal P0 w own (fun _=>False) w):=jat K0 h (Below.refl _ _) (fun _ e=>e.elim)
 obtain ⟨hx,c10,c8⟩:=HX.out _ _ hT0.out
 clear h HX
 go_enter Tryz.func104,Tryz.ntmps104
 go_wp2_with fail
 go_region_held3 (fun w'=>w'.cell? (aq x 10)=some (pt tw 0)/\w'.cell? (aq x 8)=some (iv now)) (simp [go_sem, *])
  (first
    | (go_at_call 119;refine (HA.out _ _ (ja5 K0 hT0.out bL)).mono ?_;rintro e W1 ⟨da,dc,rfl,hT1⟩
       obtain ⟨hx1,d10,d8⟩:=HX1.out _ _ _ hT1
       replace hT1:Hid (jal (jdm P1 da D) w own (fun _=>False) W1):=hT1))
 clear c10 c8 d10 d8 hT0 HA HX1
 go_wp2_with (first
  | (go_at_call 135;refine (HF.out _ _ _ _ (ja5 (jpq K1 _ _) hT1.out bL)).mono ?_;rintro e W2 ⟨rfl,hT2,hk⟩
     replace hT2:Hid _:=hT2
     clear hk hT1)
  | (go_at_call 136;refine (HE.out _ _ _ _ (ja5 (jpq K2 _ _) hT2.out bL)).mono ?_;rintro e W3 ⟨rfl,hT3,hk⟩
     replace hT3:Hid _:=hT3
     clear hk hT2)
  | (go_at_call 137;refine (HP.out _ _ _ (ja5 (jpq K3 _ _) hT3.out bL)).mono ?_;rintro e W4 ⟨rfl,hT4,hk⟩
     replace hT4:Hid _:=hT4
     clear hk hT3)
  | (go_at_call 136;refine (HE2.out _ _ _ _ (ja5 (jpq K4 _ _) hT4.out bL)).mono ?_;rintro e W5 ⟨rfl,hT5,hk⟩
     replace hT5:Hid _:=hT5
     clear hk hT4)
  | (go_at_call 137;refine (HP2.out _ _ _ (ja5 (jpq K5 _ _) hT5.out bL)).mono ?_;rintro e W6 ⟨rfl,hT6,hk⟩
     replace hT6:Hid _:=hT6
     clear hk hT5))
 first|go_end0|refine bodyPost_ret (results_none rfl _ _ _) rfl ?_
 exact ⟨rfl,jnk (ja5 (jpq K6 _ _) hT6.out bL)⟩
def jn2 {σ:Type} (P PE:σ->World->(Nat->Prop)->Prop) (Inv:σ->Prop) (fs:σ->Int × Int) (fb:σ->Bool) (μ:σ->Nat) (s:σ) (w1:World) (own:Nat->Prop) (v:Value) (wr:World) (n:Nat):Prop :=
 ∃ s',Inv s'/\μ s'=n/\PE s'=PE s/\jbd (P s') w1 own 1 wr/\v=.bool (fb s')/\wr.heap[w1.heap.size]?=some (.cells #[iv (fs s').1,iv (fs s').2] 131 (0,0))
theorem jjy {P P':World->(Nat->Prop)->Prop} {w W W':World} {own:Nat->Prop} {m:Nat} (h:jbd P w own m W) (hx:∀ o,P W o->jbq P' W W' o):jbd P' w own m W':=by
 obtain ⟨o1,a1,a2,a3,a4⟩:=h
 obtain ⟨o2,b1,b2,b3⟩:=hx o1 a1
 have z1:=a2.size
 have z2:=b2.size
 exact ⟨o2,b1,Same.trans a2 b2 (fun k hk e=>e.elim id (fun e=>(a3 k e).elim id (fun e=>by omega))),fun k e=>(b3 k e).elim (a3 k) (fun e=>.inr (by omega)),by omega⟩
theorem jz8 {σ:Type} (x:Nat) (to:Int) (P PE:σ->World->(Nat->Prop)->Prop) (PC:σ->Int->World->(Nat->Prop)->Prop) (KP:∀ s,Keeps (P s)) (KC:∀ s t,Keeps (PC s t)) (KE:∀ s,Keeps (PE s)) (Inv:σ->Prop) (fs:σ->Int × Int) (fb:σ->Bool) (nx:σ->σ) (μ:σ->Nat) (cd:σ->Prop) (hcd:Hid (∀ s,cd s↔(fs s).1<=to))
 (lo:σ->Int) (hLo:Hid (∀ s,Inv s->lo s<=to/\(fb s=true->lo s<=(fs s).1)))
 (hX:Hid (∀ s,Inv s->∀ W o,P s W o->o x/\∀ t,lo s<=t->jbq (PC s t) W (W.setCell (aq x 8) (iv t)) o))
 (hY:Hid (∀ s,Inv s->∀ W o,P s W o->x<W.heap.size/\(∃ u,W.cell? (aq x 8)=some u)/\W.frozen? (aq x 8)=false))
 (hF:Hid (∀ s,Inv s->∀ W o,P s W o->∃ tw,W.cell? (aq x 10)=some (pt tw 0)/\∀ W',Below W.heap.size W W'->Calls Tryz.prog 79 #[pt tw 0] W' fun e w'=>e=.returned (.tuple #[.agg #[iv (fs s).1,iv (fs s).2],.bool (fb s)])/\Below W'.heap.size W' w'))
 (hS:Hid (∀ s,Inv s->fb s=true->cd s->∀ W o,PC s (fs s).1 W o->Calls Tryz.prog 104 #[pt x 0] W fun e w'=>e=.returned (.tuple #[])/\jbq (P (nx s)) W w' o))
 (hN:Hid (∀ s,Inv s->fb s=true->cd s->Inv (nx s)/\μ (nx s)<μ s/\PE (nx s)=PE s))
 (hE:Hid (∀ s,Inv s->(fb s=true->¬ cd s)->∀ W o,PC s to W o->Calls Tryz.prog 105 #[pt x 23,iv to] W fun e w'=>e=.returned (.tuple #[])/\jbq (PE s) W w' o)) (s:σ) (w:World) (own:Nat->Prop) (hi:Inv s) (h:P s w own) :
 Calls Tryz.prog 66 #[pt x 0,iv to] w fun e w'=>e=.returned (.tuple #[])/\jbq (PE s) w w' own:=by
 have hw:=(KP s).lt h
 obtain ⟨tw,c10,HF0⟩:=hF.out s hi w own h
 obtain ⟨hxw,_,_⟩:=hY.out s hi w own h
 replace HF0:Hid _:=HF0
 go_enter Tryz.func66,Tryz.ntmps66
 go_wp2_with fail
 refine (HF0.out _ bL).mono ?_
 rintro e w1 ⟨rfl,b1⟩
 replace b1:Below w.heap.size w w1:=b1
 have h1:P s w1 own:=(KP s).keep h b1.size (fun k e=>b1.block k (hw k e))
 have hw1:Hid (∀ k,own k->k<w1.heap.size):=fun k e=>Nat.lt_of_lt_of_le (hw k e) b1.size
 have HFRONT:Hid (∀ w',jbq (PE s) w1 w' own->jbq (PE s) w w' own):=fun w' ha=>jk3 b1 ha
 have HI0:Hid (jn2 P PE Inv fs fb μ s w1 own (.bool (fb s)) (w1.alloc (.cells #[iv (fs s).1,iv (fs s).2] 131)) (μ s)):=⟨s,hi,rfl,rfl,jfi (KP s) h1 ((Below.refl _ _).alloc (Nat.le_refl _) _) (by simp),rfl,heap_alloc_new w1 _⟩
 clear h h1 hi hw b1 c10 HF0 hxw
 generalize (fs s).1=p1 at HI0 ⊢
 generalize (fs s).2=p2 at HI0 ⊢
 generalize fb s=b0 at HI0 ⊢
 go_wp2_with fail
 go_loopw [5] (fun v wr=>∃ n,jn2 P PE Inv fs fb μ s w1 own v wr n) (fun v wr=>fuel (jn2 P PE Inv fs fb μ s w1 own v wr))
 case atStart=>exact ⟨_,HI0.out⟩
 case round =>
  have hfu:=jsa hrel
  obtain ⟨s',i1,i2,i3,hT,rfl,ob⟩:=hfu
  replace hT:Hid _:=hT
  replace i1:Hid _:=i1
  replace ob:Hid _:=ob
  have HM:Hid (∀ v' w' m,jn2 P PE Inv fs fb μ s w1 own v' w' m->m<μ s'->(∃ n,jn2 P PE Inv fs fb μ s w1 own v' w' n)/\fuel (jn2 P PE Inv fs fb μ s w1 own v' w')<fuel (jn2 P PE Inv fs fb μ s w1 own (.bool (fb s')) wr)):=fun v' w' m h1 h2=>⟨⟨m,h1⟩,by rw [← i2];exact Nat.lt_of_le_of_lt (jtc h1) h2⟩
  clear hrel i2 HI0
  obtain ⟨hlo1,hlo2⟩:=hLo.out s' i1.out
  have HXs:Hid (∀ W o,P s' W o->o x/\∀ t,lo s'<=t->jbq (PC s' t) W (W.setCell (aq x 8) (iv t)) o):=hX.out s' i1.out
  have hy:x<wr.heap.size/\(∃ u,wr.cell? (aq x 8)=some u)/\wr.frozen? (aq x 8)=false:=by
   obtain ⟨o1,a1,_⟩:=hT.out
   exact hY.out s' i1.out wr o1 a1
  have hne:x≠w1.heap.size:=by
   obtain ⟨o1,a1,a2,a3,a4⟩:=hT.out
   rcases a3 x (HXs.out wr o1 a1).1 with e|e
   ·have:=hw1.out x e;omega
   ·omega
  obtain ⟨hxr,⟨u8,c8⟩,fz8⟩:=hy
  obtain ⟨s0,s1⟩:=jdn ob.out
  have lw:w1.heap.size<wr.heap.size:=(blt ob.out)
  have HEs:Hid ((fb s'=true->¬ cd s')->∀ W,jbd (PC s' to) w1 own 1 W->Calls Tryz.prog 105 #[pt x 23,iv to] W fun e w'=>e=.returned (.tuple #[])/\jbd (PE s) w1 own 1 w'/\∀ b,w1.heap.size<=b->b<w1.heap.size+1->w'.heap[b]?=W.heap[b]?):=fun hc W hW=>by
   rw [← i3]
   exact jeb hw1.out (hE.out s' i1.out hc) W hW
  cases hb:fb s' with
  | false =>
    have HEs:Hid _:=HEs.out (fun c=>by rw [hb] at c;cases c)
    replace hlo1:Hid _:=hlo1
    clear HM hN hE hF hS hX hY ob s0 s1 hlo2 hLo
    go_wp2_with fail
    try go_quiet (fail)
    go_wp2_with fail
    have hC:=jjy hT.out (fun o hp=>(HXs.out wr o hp).2 to hlo1.out)
    have hTc:Hid (jbd (PC s' to) w1 own 1 (wr.setCell (aq x 8) (iv to))):=hC
    refine (HEs.out _ (jb1 (KC s' to) hTc.out bL)).mono ?_
    rintro e W1 ⟨rfl,hT1,hk⟩
    go_wp2
    first|go_end0|refine bodyPost_ret (results_none rfl _ _ _) rfl ?_
    exact ⟨rfl,HFRONT.out _ (jfy (jb1 (KE s) hT1 bL))⟩
  | true =>
    rw [hb] at HM
    by_cases hle:cd s'
    ·have HSs:Hid (∀ W,jbd (PC s' (fs s').1) w1 own 1 W->Calls Tryz.prog 104 #[pt x 0] W fun e w'=>e=.returned (.tuple #[])/\jbd (P (nx s')) w1 own 1 w'/\∀ b,w1.heap.size<=b->b<w1.heap.size+1->w'.heap[b]?=W.heap[b]?):=fun W hW=>jeb hw1.out (hS.out s' i1.out hb hle) W hW
     obtain ⟨n1,n2,n3⟩:=hN.out s' i1.out hb hle
     have HFs:Hid (∀ W,jbd (P (nx s')) w1 own 1 W->∃ tw,(x<W.heap.size/\W.cell? (aq x 10)=some (pt tw 0))/\∀ W',Below W.heap.size W W'->Calls Tryz.prog 79 #[pt tw 0] W' fun e w'=>e=.returned (.tuple #[.agg #[iv (fs (nx s')).1,iv (fs (nx s')).2],.bool (fb (nx s'))])/\Below W'.heap.size W' w'):=fun W hW=>by
      obtain ⟨o1,a1,_⟩:=hW
      obtain ⟨tw,q1,q2⟩:=hF.out (nx s') n1 W o1 a1
      exact ⟨tw,⟨(hY.out (nx s') n1 W o1 a1).1,q1⟩,q2⟩
     have HR:Hid (∀ W',jbd (P (nx s')) w1 own 1 W'->W'.heap[w1.heap.size]?=some (.cells #[iv (fs (nx s')).1,iv (fs (nx s')).2] 131 (0,0))->(∃ n,jn2 P PE Inv fs fb μ s w1 own (.bool (fb (nx s'))) W' n)/\fuel (jn2 P PE Inv fs fb μ s w1 own (.bool (fb (nx s'))) W')<fuel (jn2 P PE Inv fs fb μ s w1 own (.bool true) wr)):=fun W' h1 h2=>HM.out _ W' _ ⟨nx s',n1,rfl,n3.trans i3,h1,rfl,h2⟩ n2
     have hC:=jjy hT.out (fun o hp=>(HXs.out wr o hp).2 (fs s').1 (hlo2 hb))
     have hTc:Hid (jbd (PC s' (fs s').1) w1 own 1 (wr.setCell (aq x 8) (iv (fs s').1))):=hC
     have obc:Hid ((wr.setCell (aq x 8) (iv (fs s').1)).heap[w1.heap.size]?=some (.cells #[iv (fs s').1,iv (fs s').2] 131 (0,0))):=(Below.heap_setCell _ (aq x 8) _ _ (Ne.symm hne)).trans ob.out
     have hle2:=(hcd.out s').1 hle
     clear HM hN hE hF hS hX hY HEs hcd hle n1 n2 n3 i3 HXs hT hC ob hLo hlo1 hlo2
     have KPc:=KC s' (fs s').1
     have KPb:=KP (nx s')
     generalize (fs s').1=f1 at *
     generalize (fs s').2=f2 at *
     generalize (fs (nx s')).1=q1 at HFs HR
     generalize (fs (nx s')).2=q2 at HFs HR
     generalize fb (nx s')=b1 at HFs HR
     generalize PC s' f1=Pc at hTc HSs KPc
     generalize P (nx s')=Pb at HSs HFs HR KPb
     go_wp2_with fail
     try go_quiet (fail)
     go_wp2_with fail
     refine (HSs.out _ (jb1 KPc hTc.out bL)).mono ?_
     rintro e W2 ⟨rfl,hT2,hk⟩
     have ob2:Hid _:=(hk _ (Nat.le_refl _) (by omega)).trans obc.out
     obtain ⟨tw,⟨hx2,c10⟩,HF2⟩:=HFs.out _ hT2
     replace HF2:Hid _:=HF2
     clear hk hTc obc s0 s1 c8 fz8
     go_wp2_with fail
     refine (HF2.out _ bL).mono ?_
     rintro e W3 ⟨rfl,b3⟩
     replace b3:Below W2.heap.size W2 W3:=b3
     have ob3:=(b3.block _ (blt ob2.out)).trans ob2.out
     have hT3:=jb1 KPb hT2 b3
     have HS2:Hid (((W3.setCell (aq w1.heap.size 0) (iv q1)).setCell (aq w1.heap.size 1) (iv q2)).heap[w1.heap.size]?=some (.cells #[iv q1,iv q2] 131 (0,0))):=Joins.block_setCell (i:=1) (Joins.block_setCell (i:=0) ob3 _) _
     have hT4:Hid (jbd Pb w1 own 1 ((W3.setCell (aq w1.heap.size 0) (iv q1)).setCell (aq w1.heap.size 1) (iv q2))):=jel KPb (jel KPb hT3 hw1.out (Nat.le_refl _) (by omega) _) hw1.out (Nat.le_refl _) (by omega) _
     obtain ⟨s0,s1⟩:=jdn ob3
     have f0:=ja0 ob3 0
     have f1':=ja0 ob3 1
     have lw3:w1.heap.size<W3.heap.size:=(blt ob3)
     replace ob3:Hid _:=ob3
     clear hT2 ob2 hT3 b3 c10
     go_wp2
     exact HR.out _ hT4.out HS2.out
    ·have HEs:Hid _:=HEs.out (fun _=>hle)
     have hle2:¬ (fs s').1<=to:=fun c=>hle ((hcd.out s').2 c)
     replace hlo1:Hid _:=hlo1
     clear HM hN hE hF hS hX hY hcd hle ob hlo2 hLo
     generalize (fs s').1=f1 at s0 hle2
     go_wp2_with fail
     try go_quiet (fail)
     go_wp2_with fail
     have hC:=jjy hT.out (fun o hp=>(HXs.out wr o hp).2 to hlo1.out)
     have hTc:Hid (jbd (PC s' to) w1 own 1 (wr.setCell (aq x 8) (iv to))):=hC
     refine (HEs.out _ (jb1 (KC s' to) hTc.out bL)).mono ?_
     rintro e W1 ⟨rfl,hT1,hk⟩
     go_wp2
     first|go_end0|refine bodyPost_ret (results_none rfl _ _ _) rfl ?_
     exact ⟨rfl,HFRONT.out _ (jfy (jb1 (KE s) hT1 bL))⟩
section
section
variable {w W W':World} {x:Nat} {own loc:Nat->Prop} {V:PV} {P':World->(Nat->Prop)->Prop}
theorem jng {o1:Nat->Prop} (a2:Same own w W) (a3:∀ k,o1 k->own k\/(w.heap.size<=k/\¬ loc k)) (a4:∀ k,loc k->w.heap.size<=k/\k<W.heap.size) (h:jbq P' W W' o1):jal P' w own loc W':=by
 obtain ⟨o2,b1,b2,b3⟩:=h
 have z1:=a2.size
 have z2:=b2.size
 exact ⟨o2,b1,Same.trans a2 b2 (fun k hk e=>e.elim id (fun e=>(a3 k e).elim id (fun e=>by omega))),fun k e=>(b3 k e).elim (a3 k) (fun e=>.inr ⟨by omega,fun c=>by have:=(a4 k c).2;omega⟩),fun k e=>⟨(a4 k e).1,by have:=(a4 k e).2;omega⟩⟩
theorem qfo (h:psm W x own V) (t:Int) (hl:V.tl.length<=4294967296) :
 Calls Tryz.prog 119 #[pt V.tw 0,iv t] W fun e w'=>∃ da dc,e=.returned (.tuple #[.slice da (jho V.tn t V.tl).length dc,iv (qav V.tn t)])/\jbq (jdm (pv x { V with tn:=jyx V.tn t,tl:=jur V.tn t V.tl }) da (jho V.tn t V.tl)) W w' own:=by
 obtain ⟨g,h⟩:=h
 refine (jhz t h.tw (by omega)).mono ?_
 rintro e w' ⟨out,two',rfl,a1,a2,a3,a4,a5,a6⟩
 obtain ⟨da,dc,rfl,b1,b2⟩:=jyq a1
 have hz:=a4.size
 have hm:=h.turnT0 a3 a4 a5
 refine ⟨da,dc,rfl,fun k=>(own k\/two' k)\/∃ off,da=some (aq k off),⟨fun k=>own k\/two' k,⟨_,hm⟩,fun k e=>.inl e,b1,fun k=>⟨fun e=>⟨.inr e,?_⟩,fun e=>e.1.elim (fun c=>absurd c e.2) id⟩,fun k e=>?_⟩,⟨a4.os,a4.tape,a4.output,a4.size,fun k hk hn=>a4.block k hk (fun e=>hn (h.fp k (.inl e)))⟩,fun k e=>?_⟩
 ·obtain ⟨off,e⟩:=e
  obtain ⟨c1,c2,c3⟩:=b2 k off e
  rintro (d|d)
  ·have:=h.lt k d;omega
  ·exact a6 k c3 d
 ·rcases e with e|⟨off,e⟩
  ·exact hm.lt k e
  ·exact (b2 k off e).2.1
 ·rcases e with (e|e)|⟨off,e⟩
  ·exact .inl e
  ·exact (a5 k e).imp (fun e=>h.fp k (.inl e)) id
  ·exact .inr (b2 k off e).1
theorem qf9 (h:psm W x own V) (t:Int) (hl:V.atl.length<=4294967296) :
 Calls Tryz.prog 119 #[pt V.aw 0,iv t] W fun e w'=>∃ da dc,e=.returned (.tuple #[.slice da (jho V.an t V.atl).length dc,iv (qav V.an t)])/\jbq (jdm (pv x { V with an:=jyx V.an t,atl:=jur V.an t V.atl }) da (jho V.an t V.atl)) W w' own:=by
 obtain ⟨g,h⟩:=h
 refine (jhz t h.aw (by omega)).mono ?_
 rintro e w' ⟨out,two',rfl,a1,a2,a3,a4,a5,a6⟩
 obtain ⟨da,dc,rfl,b1,b2⟩:=jyq a1
 have hz:=a4.size
 have hm:=h.turnA0 a3 a4 a5
 refine ⟨da,dc,rfl,fun k=>(own k\/two' k)\/∃ off,da=some (aq k off),⟨fun k=>own k\/two' k,⟨_,hm⟩,fun k e=>.inl e,b1,fun k=>⟨fun e=>⟨.inr e,?_⟩,fun e=>e.1.elim (fun c=>absurd c e.2) id⟩,fun k e=>?_⟩,⟨a4.os,a4.tape,a4.output,a4.size,fun k hk hn=>a4.block k hk (fun e=>hn (h.fp k (.inr (.inl e))))⟩,fun k e=>?_⟩
 ·obtain ⟨off,e⟩:=e
  obtain ⟨c1,c2,c3⟩:=b2 k off e
  rintro (d|d)
  ·have:=h.lt k d;omega
  ·exact a6 k c3 d
 ·rcases e with e|⟨off,e⟩
  ·exact hm.lt k e
  ·exact (b2 k off e).2.1
 ·rcases e with (e|e)|⟨off,e⟩
  ·exact .inl e
  ·exact (a5 k e).imp (fun e=>h.fp k (.inr (.inl e))) id
  ·exact .inr (b2 k off e).1
end
theorem ju0 {D:List (Int × Int)} (h:jco D) {i j:Nat} (hi:i<D.length) (hj:j<D.length) (e:(D.getD i (0,0)).2=(D.getD j (0,0)).2):i=j:=by
 have hp:=(List.pairwise_iff_getElem).1 (show (D.map (·.2)).Pairwise (·≠·) from h)
 have gi:(D.getD i (0,0)).2=(D.map (·.2))[i]'(by simpa using hi):=by simp [List.getD,List.getElem?_eq_getElem hi]
 have gj:(D.getD j (0,0)).2=(D.map (·.2))[j]'(by simpa using hj):=by simp [List.getD,List.getElem?_eq_getElem hj]
 rw [gi,gj] at e
 rcases Nat.lt_trichotomy i j with c|c|c
 ·exact absurd e (hp i j _ _ c)
 ·exact c
 ·exact absurd e.symm (hp j i _ _ c)
theorem jun {now t:Int} {L:List (Int × Int)} (h:jco L):jco (jho now t L):=by
 unfold jho
 split
 ·unfold jco;simp
 ·exact jjs (jg2 t _ L rfl).2.1.symm (jee _ h)
section
variable {w W:World} {x:Nat} {own:Nat->Prop} {V:PV} {S:Sal} {last:Nat} {an t:Int}
def jfw (S:Sal) (D:List (Int × Int)) (j k:Nat):Prop:=S.knows k/\((S.os.getD k ja3).alive\/∀ i,i<j->(D.getD i (0,0)).2≠(k:Int)+1)
def psk (an t:Int) (x:Nat) (S:Sal) (last:Nat) (K:Nat->Prop) (w:World) (own:Nat->Prop):Prop:=∃ V,psm w x own V/\relO V ({ S with now:=t }:Sal) last K/\relA V.an V.atl V.att V.al S.C.keep S.ansL/\V.an=an/\V.tn=t
theorem qg1 (an t:Int) (x:Nat) (S:Sal) (last:Nat) (K:Nat->Prop):Keeps (psk an t x S last K):=⟨fun ⟨_,h,_⟩=>jf5 h,fun ⟨V,h,hr⟩ hz hk=>⟨V,jfd h hz hk,hr⟩⟩
theorem qfc (h:psm W x own V):x<W.heap.size:=by
 obtain ⟨g,h⟩:=h
 exact h.xw
theorem qe2 (h:psx an x S last W own):x<W.heap.size:=by
 obtain ⟨V,h,_⟩:=h
 exact qfc h
theorem jyg (da:Option Addr) (dc:Nat) (D:List (Int × Int)) (hlen:S.os.length<=4294967296) (hR:restS S) (ht:S.now<t) (tn:Int) (htn:tn<=S.now) (hO:jco D) (hn:D.length<=4294967296)
 (hD:∀ p,p∈D↔∃ i,S.knows i/\tn<(S.os.getD i ja3).untl S.C/\(S.os.getD i ja3).untl S.C<=t/\p=((S.os.getD i ja3).untl S.C,(i:Int)+1))
 (h:psk an t x S last S.knows W own) (hd:qau W da D) (hdis:∀ b off,da=some (aq b off)->¬ own b) :
 Calls Tryz.prog 135 #[pt x 0,.slice da D.length dc] W fun e w'=>e=.returned (.tuple #[])/\jbq (psx an x ({ S with now:=t }:Sal) last) W w' own:=by
 have hat:∀ j,j<D.length->∃ i,S.knows i/\tn<(S.os.getD i ja3).untl S.C/\(S.os.getD i ja3).untl S.C<=t/\D.getD j (0,0)=((S.os.getD i ja3).untl S.C,(i:Int)+1):=fun j hj=>(hD _).1 (jge hj)
 have hij:∀ j,j<D.length->S.knows ((D.getD j (0,0)).2 - 1).toNat/\(S.os.getD ((D.getD j (0,0)).2 - 1).toNat ja3).untl S.C<=t/\(D.getD j (0,0)).2=(((D.getD j (0,0)).2 - 1).toNat:Int)+1:=fun j hj=>by
  obtain ⟨i,h1,h2,h3,h4⟩:=hat j hj
  have e:((D.getD j (0,0)).2 - 1).toNat=i:=by rw [h4];simp
  rw [e]
  exact ⟨h1,h3,by rw [h4]⟩
 have hK:∀ j,j<D.length->jfw S D j ((D.getD j (0,0)).2 - 1).toNat:=fun j hj=>by
  obtain ⟨a,b,c⟩:=hij j hj
  exact ⟨a,.inr (fun i hi e=>by
   have:=ju0 hO (i:=i) (j:=j) (by omega) hj (e.trans c.symm)
   omega)⟩
 have h0:psk an t x S last (jfw S D 0) W own:=by
  have e:jfw S D 0=S.knows:=by
   funext k
   exact propext ⟨fun c=>c.1,fun c=>⟨c,.inr (fun i hi=>by omega)⟩⟩
  rw [e];exact h
 refine (jq5 x dc da D W own (fun j=>psk an t x S last (jfw S D j)) (fun j=>qg1 _ _ _ _ _ _) (fun j=>jbo S.C ((D.getD j (0,0)).2 - 1).toNat (S.os.getD ((D.getD j (0,0)).2 - 1).toNat ja3)) (fun _=>true) (fun j=>((S.os.getD ((D.getD j (0,0)).2 - 1).toNat ja3).state != 13 && (S.os.getD ((D.getD j (0,0)).2 - 1).toNat ja3).state != 12)) h0 hn ?_ (fun W' hs=>jmh hd hs hdis) ?_ ?_ ?_ ?_).mono ?_
 ·rintro j loc W' ⟨o1,⟨V,hm,_⟩,_⟩
  exact qfc hm
 ·rintro j loc W' hj ⟨o1,⟨V,hm,hr,_⟩,_⟩
  obtain ⟨q,h1,h2⟩:=hr.known (hK j hj)
  have:=jol hm hr.ls.srt h2 h1
  rw [← (hij j hj).2.2] at this
  exact this
 ·intro j W' hj
  exact jw3 _ _ _ _ _ _ W'
 ·intro j hj _ he loc W' hT
  refine jaf (qg1 _ _ _ _ _ _ |>.lt h) (fun W1 o1 hq=>?_) W' hT
  obtain ⟨V,hm,hr,ha,han,htn'⟩:=hq
  obtain ⟨q,h1,h2⟩:=hr.known (hK j hj)
  have hql:=(List.getElem?_eq_some_iff.1 h1).1
  obtain ⟨z,hz⟩:∃ z,V.ol[V.ol.length - 1]?=some z:=⟨V.ol[V.ol.length - 1],List.getElem?_eq_getElem (by omega)⟩
  have hol:V.ol.length<=S.os.length:=hr.olen
  obtain ⟨a,b,c⟩:=hij j hj
  have hna:¬ (S.os.getD ((D.getD j (0,0)).2 - 1).toNat ja3).alive:=by
   simp only [Bool.and_eq_true,bne_iff_ne,ne_eq] at he
   rintro (c|c)
   ·exact he.2 c
   ·exact he.1 c
  refine (jxu hm hr.ls (by omega) (jfl hr.ls) h1 hz).mono ?_
  rintro e w' ⟨rfl,rm,o2,p1,p2,p3⟩
  refine ⟨rfl,o2,⟨_,p1,?_,ha,han,htn'⟩,p2,p3⟩
  have hfin:=hr.drop hna (by rw [htn'];exact b) h1 hz rm
  have e:jfw S D (j+1)=fun k=>jfw S D j k/\k≠((D.getD j (0,0)).2 - 1).toNat:=by
   funext k
   refine propext ⟨fun ⟨d1,d2⟩=>⟨⟨d1,d2.imp id (fun d2 i hi=>d2 i (by omega))⟩,fun e=>?_⟩,fun ⟨⟨d1,d2⟩,d3⟩=>⟨d1,d2.imp id (fun d2 i hi=>?_)⟩⟩
   ·rcases d2 with d2|d2
    ·rw [e] at d2;exact hna d2
    ·exact d2 j (by omega) (by rw [e];exact c)
   ·by_cases ei:i=j
    ·rw [ei,c];intro e;apply d3;omega
    ·exact d2 i (by omega)
  rw [e]
  exact hfin
 ·intro j hj hne W' o' hq
  have e:jfw S D (j+1)=jfw S D j:=by
   obtain ⟨a,b,c⟩:=hij j hj
   have hal:(S.os.getD ((D.getD j (0,0)).2 - 1).toNat ja3).alive:=by
    refine Classical.byContradiction fun hc=>hne ⟨rfl,?_⟩
    simp only [Bool.and_eq_true,bne_iff_ne,ne_eq]
    exact ⟨fun e=>hc (.inr e),fun e=>hc (.inl e)⟩
   funext k
   refine propext ⟨fun ⟨d1,d2⟩=>⟨d1,d2.imp id (fun d2 i hi=>d2 i (by omega))⟩,fun ⟨d1,d2⟩=>⟨d1,?_⟩⟩
   by_cases ek:k=((D.getD j (0,0)).2 - 1).toNat
   ·rw [ek];exact .inl hal
   ·refine d2.imp id (fun d2 i hi=>?_)
    by_cases ei:i=j
    ·rw [ei,c];omega
    ·exact d2 i (by omega)
  rw [e]
  exact hq
 ·rintro e w' ⟨rfl,hq⟩
  refine ⟨rfl,jjm hq (fun W' o' hp=>?_)⟩
  obtain ⟨V,hm,hr,ha,han,_⟩:=hp
  refine ⟨V,hm,?_,ha,han⟩
  have e:({ S with now:=t }:Sal).knows=jfw S D D.length:=by
   funext k
   refine propext ((jlh (by omega) k).trans ⟨fun ⟨d1,d2⟩=>⟨d1,?_⟩,fun ⟨d1,d2⟩=>⟨d1,?_⟩⟩)
   ·refine d2.imp id (fun d2 i hi e=>?_)
    obtain ⟨i',h1,h2,h3,h4⟩:=hat i hi
    rw [h4] at e
    have:i'=k:=by simp at e;omega
    subst this
    omega
   ·refine Classical.or_iff_not_imp_left.2 (fun hna=>?_)
    have d2:=d2.resolve_left hna
    refine Int.lt_of_not_ge (fun hle=>?_)
    have hm':=(hD ((S.os.getD k ja3).untl S.C,(k:Int)+1)).2 ⟨k,d1,by have:=jiy hR d1;omega,hle,rfl⟩
    obtain ⟨i,hi,e⟩:=List.getElem_of_mem hm'
    exact d2 i hi (by simp [List.getD,List.getElem?_eq_getElem hi,e])
  rw [e]
  exact hr
theorem jk9 {S:Sal} (hK:saleK S) {st en:Int} (hen:en≠12/\en≠13/\en≠14):∀ (ds:List Nat) ,(∀ d∈ds,d<S.os.length)->saleK (jgj S st en ds):=by
 intro ds
 induction ds generalizing S with
 | nil=>intro _;exact hK
 | cons d ds ih =>
   intro h
   have e:jgj S st en (d :: ds)=jgj (if (S.os.getD d ja3).state=st then S.ends d en else S) st en ds:=rfl
   rw [e]
   split
   ·exact ih (hK.ends (h d List.mem_cons_self) en (.inr hen) (fun c=>absurd c hen.2.2)) (fun x hx=>by rw [jch];exact h x (List.mem_cons_of_mem _ hx))
   ·exact ih hK (fun x hx=>h x (List.mem_cons_of_mem _ hx))
def jdi (D:List (Int × Int)):List Nat:=D.map (fun p=>(p.2 - 1).toNat)
open Classical in
theorem qdf (da:Option Addr) (dc:Nat) (D:List (Int × Int)) (hK:saleK S) (hn:D.length<=4294967296) (fr into:Int) (hfr:fr=12\/fr=13) (hin:into≠12/\into≠13/\into≠14)
 (hD:∀ p∈D,1<=p.2/\(p.2 - 1).toNat<S.os.length)
 (h:psx an x S last W own) (hd:qau W da D) (hdis:∀ b off,da=some (aq b off)->¬ own b) :
 Calls Tryz.prog 136 #[pt x 0,.slice da D.length dc,iv fr,iv into] W fun e w'=>e=.returned (.tuple #[])/\jbq (psx an x (jgj S fr into (jdi D)) last) W w' own:=by
 have hat:∀ j,j<D.length->1<=(D.getD j (0,0)).2/\((D.getD j (0,0)).2 - 1).toNat<S.os.length:=fun j hj=>hD _ (jge hj)
 have htk:∀ j,j<D.length->(jdi D).take (j+1)=(jdi D).take j++[((D.getD j (0,0)).2 - 1).toNat]:=fun j hj=>by
  unfold jdi
  rw [← List.map_take,← List.map_take,qc9 D hj,List.map_append]
  rfl
 have hin':∀ d∈jdi D,d<S.os.length:=fun d hd=>by
  obtain ⟨p,hp,rfl⟩:=List.mem_map.1 hd
  exact (hD p hp).2
 have hKj:∀ j,saleK (jgj S fr into ((jdi D).take j)):=fun j=>jk9 hK hin _ (fun d hd=>hin' d (List.mem_of_mem_take hd))
 have hlj:∀ j,(jgj S fr into ((jdi D).take j)).os.length=S.os.length:=fun j=>(jmv fr into _ S).2.2.2
 have hlen:(jdi D).length=D.length:=by unfold jdi;simp
 refine (jyz x dc da D fr into W own (fun j=>psx an x (jgj S fr into ((jdi D).take j)) last) (fun j=>jb3 _ _ _ _)
  (fun j=>if (jgj S fr into ((jdi D).take j)).knows ((D.getD j (0,0)).2 - 1).toNat then jbo (jgj S fr into ((jdi D).take j)).C ((D.getD j (0,0)).2 - 1).toNat ((jgj S fr into ((jdi D).take j)).os.getD ((D.getD j (0,0)).2 - 1).toNat ja3) else pord0)
  (fun j=>decide ((jgj S fr into ((jdi D).take j)).knows ((D.getD j (0,0)).2 - 1).toNat))
  (fun j=>POrd.val ⟨(((D.getD j (0,0)).2 - 1).toNat:Int)+1,((jgj S fr into ((jdi D).take j)).os.getD ((D.getD j (0,0)).2 - 1).toNat ja3).cust,((jgj S fr into ((jdi D).take j)).os.getD ((D.getD j (0,0)).2 - 1).toNat ja3).units,into,((jgj S fr into ((jdi D).take j)).os.getD ((D.getD j (0,0)).2 - 1).toNat ja3).cents,(jgj S fr into ((jdi D).take j)).now+(jgj S fr into ((jdi D).take j)).C.keep⟩)
  h hn ?_ (fun W' hs=>jmh hd hs hdis) ?_ ?_ ?_).mono ?_
 ·rintro j loc W' ⟨o1,hp,_⟩
  exact qe2 hp
 ·rintro j loc W' hj ⟨o1,hp,_⟩
  obtain ⟨a,b⟩:=hat j hj
  by_cases hk:(jgj S fr into ((jdi D).take j)).knows ((D.getD j (0,0)).2 - 1).toNat
  ·have:=jy8 hp hk
   rw [show (((D.getD j (0,0)).2 - 1).toNat:Int)+1=(D.getD j (0,0)).2 by omega] at this
   simp only [if_pos hk,decide_eq_true hk]
   exact this
  ·simp only [if_neg hk,decide_eq_false hk]
   exact jni hp (fun i hi e=>hk (by
    have:((D.getD j (0,0)).2 - 1).toNat=i:=by omega
    rw [this];exact hi))
 ·intro j hj hk hs loc W' hT
  have hk':=of_decide_eq_true hk
  simp only [if_pos hk'] at hs ⊢
  have hs':((jgj S fr into ((jdi D).take j)).os.getD ((D.getD j (0,0)).2 - 1).toNat ja3).state=fr:=by simpa [jbo] using hs
  refine jaf ((jb3 an x S last).lt h) (fun W1 o1 hq=>?_) W' hT
  have:=jrw hq (hKj j) hk' into ⟨hin.1,hin.2.1⟩
  simp only [htk j hj,jrt]
  rw [if_pos hs']
  exact this
 ·intro j hj hne W' o' hq
  simp only [htk j hj,jrt]
  rw [if_neg]
  ·exact hq
  ·intro hs
   have hk:(jgj S fr into ((jdi D).take j)).knows ((D.getD j (0,0)).2 - 1).toNat:=⟨by rw [hlj];exact (hat j hj).2,.inl (by unfold Ord.alive;rw [hs];exact hfr)⟩
   refine hne ⟨decide_eq_true hk,?_⟩
   simp only [if_pos hk]
   simpa [jbo] using hs
 ·rintro e w' ⟨rfl,hq⟩
  refine ⟨rfl,?_⟩
  rw [show (jdi D).take D.length=jdi D from List.take_of_length_le (by omega)] at hq
  exact hq
def pcx (an:Int) (x:Nat) (last:Nat) (S:Sal) (t:Int) (w:World) (own:Nat->Prop):Prop:=∃ V,psm w x own V/\relO V ({ S with now:=t }:Sal) last S.knows/\relA V.an V.atl V.att V.al S.C.keep S.ansL/\V.an=an/\V.tn<=S.now
theorem qg8 (an:Int) (x:Nat) (last:Nat) (S:Sal) (t:Int):Keeps (pcx an x last S t):=⟨fun ⟨_,h,_⟩=>jf5 h,fun ⟨V,h,hr⟩ hz hk=>⟨V,jfd h hz hk,hr⟩⟩
theorem qfb (hJ:salJ S) (hR:restP S) (hS:stopAt S t) (ht:t<=4611686018427387904) (h:pcx an x last S t W own) :
 Calls Tryz.prog 104 #[pt x 0] W fun e w'=>e=.returned (.tuple #[])/\jbq (psx an x (S.round t) last) W w' own:=by
 obtain ⟨V,hm,hr,ha,han,htn⟩:=h
 have hlt:=hS.later hR.R
 have hw:=jf5 hm
 have h0:=hJ.I.now
 have hT:jyx V.tn t=t:=by unfold jyx;rw [if_neg (by omega)]
 have hdue:=hr.due (t:=t) (by omega)
 have htl:V.tl.length<=4294967296:=by
  have h1:V.tl.length<=S.os.length:=hr.tlen
  have:=hJ.len
  omega
 have hr1:=hr.advance (t:=t) (by omega) (Int.le_refl _)
 have hO:=jun (now:=V.tn) (t:=t) hr.once
 have hDl:(jho V.tn t V.tl).length<=4294967296:=by
  refine Nat.le_trans ?_ htl
  unfold jho
  rw [if_neg (by omega)]
  rw [(jg2 t _ V.tl rfl).2.1.length_eq]
  exact List.length_filter_le _ _
 have hcell:∀ {W' o'},psm W' x o' V->x<W'.heap.size/\W'.cell? (aq x 10)=some (pt V.tw 0)/\W'.cell? (aq x 8)=some (iv t):=fun {W' o'} hp=>by
  obtain ⟨g,hp⟩:=hp
  refine ⟨hp.xw,hp.cell 10 _ rfl,?_⟩
  have:W'.cell? (aq x 8)=some (iv V.now):=hp.cell 8 _ rfl
  rw [hr.now] at this
  exact this
 have hids:∀ p∈jho V.tn t V.tl,1<=p.2/\(p.2 - 1).toNat<S.os.length:=fun p hp=>by
  obtain ⟨i,h1,_,_,rfl⟩:=(hdue p).1 hp
  exact ⟨by simp;omega,by simpa using h1.1⟩
 have hmem:∀ k,k∈jdi (jho V.tn t V.tl)↔S.knows k/\(S.os.getD k ja3).untl S.C<=t:=fun k=>by
  unfold jdi
  rw [List.mem_map]
  constructor
  ·rintro ⟨p,hp,rfl⟩
   obtain ⟨i,h1,_,h3,rfl⟩:=(hdue p).1 hp
   have e:((i:Int)+1 - 1).toNat=i:=by omega
   simp only [e]
   exact ⟨h1,h3⟩
  ·rintro ⟨h1,h2⟩
   refine ⟨_,(hdue _).2 ⟨k,h1,?_,h2,rfl⟩,by simp⟩
   have:=jiy hR.R h1
   show V.tn<_
   exact Int.lt_of_le_of_lt htn this
 have hK0:saleK ({ S with now:=t }:Sal):=⟨jlg hJ.I ⟨by omega,ht⟩,hJ.len,hR.R.lease,hR.R.wait,hR.R.keep⟩
 have hdue12:∀ k,k<S.os.length->(S.os.getD k ja3).alive->(k∈jdi (jho V.tn t V.tl)↔(S.os.getD k ja3).upto=t):=fun k hk hal=>by
  have hm':=hS.alive _ (jbf hk) hal
  rw [hmem,jde hal]
  constructor
  ·rintro ⟨_,h2⟩;omega
  ·intro e;exact ⟨⟨hk,.inl hal⟩,by omega⟩
 have e1:jgj ({ S with now:=t }:Sal) 13 15 (jdi (jho V.tn t V.tl))=jb9 ({ S with now:=t }:Sal) 13 15 ({ S with now:=t }:Sal).os.length :=
  jqn (by decide) (fun d hd=>((hmem d).1 hd).1.1) (fun k hk hs=>hdue12 k hk (.inr hs))
 have hK1:saleK (jb9 ({ S with now:=t }:Sal) 13 15 ({ S with now:=t }:Sal).os.length):=by
  rw [← e1]
  exact jk9 hK0 (by decide) _ (fun d hd=>((hmem d).1 hd).1.1)
 have hK2:saleK (({ S with now:=t }:Sal).past 13 15):=hK1.promote
 have hl2:(({ S with now:=t }:Sal).past 13 15).os.length=S.os.length:=jjc _ 13 15
 have hn2:(({ S with now:=t }:Sal).past 13 15).now=t:=(jfh _ 13 15).2.1
 have e2:jgj (({ S with now:=t }:Sal).past 13 15) 12 17 (jdi (jho V.tn t V.tl))=jb9 (({ S with now:=t }:Sal).past 13 15) 12 17 (({ S with now:=t }:Sal).past 13 15).os.length :=
  jqn (by decide) (fun d hd=>by rw [hl2];exact ((hmem d).1 hd).1.1) (fun k hk hs=>by
   rw [hl2] at hk
   have e:=jws _ hs
   rw [e] at hs ⊢
   rw [hn2]
   exact hdue12 k hk (.inl hs))
 have hK3:saleK (jb9 (({ S with now:=t }:Sal).past 13 15) 12 17 (({ S with now:=t }:Sal).past 13 15).os.length):=by
  rw [← e2]
  exact jk9 hK2 (by decide) _ (fun d hd=>by rw [hl2];exact ((hmem d).1 hd).1.1)
 refine jxh x V.tw t (qav V.tn t) (jho V.tn t V.tl) W own (pv x V) (pv x { V with tn:=jyx V.tn t,tl:=jur V.tn t V.tl }) (psx an x ({ S with now:=t }:Sal) last) (psx an x (jb9 ({ S with now:=t }:Sal) 13 15 ({ S with now:=t }:Sal).os.length) last) (psx an x (({ S with now:=t }:Sal).past 13 15) last) (psx an x (jb9 (({ S with now:=t }:Sal).past 13 15) 12 17 (({ S with now:=t }:Sal).past 13 15).os.length) last) (psx an x (S.round t) last) (jmi _ _) (jmi _ _) (jb3 _ _ _ _) (jb3 _ _ _ _) (jb3 _ _ _ _) (jb3 _ _ _ _) (jb3 _ _ _ _) hm ?_ ?_ ?_ ?_ ?_ ?_ ?_ ?_
 ·rintro loc W' ⟨o1,hp,_⟩
  exact hcell hp
 ·rintro da loc W' ⟨o1,⟨o0,hp,_⟩,_⟩
  obtain ⟨g,hp⟩:=(show psm W' x o0 _ from hp)
  refine ⟨hp.xw,hp.cell 10 _ rfl,?_⟩
  have:W'.cell? (aq x 8)=some (iv V.now):=hp.cell 8 _ rfl
  rw [hr.now] at this
  exact this
 ·rintro loc W' ⟨o1,hp,a2,a3,a4⟩
  refine (qfo hp t htl).mono ?_
  rintro e w' ⟨da,dc,rfl,hq⟩
  exact ⟨da,dc,rfl,jng a2 a3 a4 hq⟩
 ·intro da dc loc W' hT'
  refine jaf hw (jem (jb3 _ _ _ _) (fun W1 o1 hp hd hdis=>?_)) W' hT'
  refine jyg da dc _ hJ.len hR.R hlt V.tn htn hO hDl hdue ⟨_,hp,?_,ha,han,hT⟩ hd hdis
  rw [hT]
  exact hr1
 ·intro da dc loc W' hT'
  refine jaf hw (jem (jb3 _ _ _ _) (fun W1 o1 hp hd hdis=>?_)) W' hT'
  rw [← e1]
  exact qdf da dc _ hK0 hDl 13 15 (.inr rfl) (by decide) hids hp hd hdis
 ·intro da loc W' hT'
  exact jaf hw (jem (jb3 _ _ _ _) (fun W1 o1 hp hd hdis=>jgy hp hK1)) W' hT'
 ·intro da dc loc W' hT'
  refine jaf hw (jem (jb3 _ _ _ _) (fun W1 o1 hp hd hdis=>?_)) W' hT'
  rw [← e2]
  exact qdf da dc _ hK2 hDl 12 17 (.inl rfl) (by decide) (fun p hp=>by rw [hl2];exact hids p hp) hp hd hdis
 ·intro da loc W' hT'
  exact jaf hw (jem (jb3 _ _ _ _) (fun W1 o1 hp hd hdis=>jgy hp hK3)) W' hT'
end
end
section
theorem jxe {P P':World->(Nat->Prop)->Prop} {da:Option Addr} {D:List (Int × Int)} (hp:∀ W o,P W o->P' W o) (W:World) (o:Nat->Prop) (h:jdm P da D W o):jdm P' da D W o:=by
 obtain ⟨o0,a1,a⟩:=h
 exact ⟨o0,hp _ _ a1,a⟩
theorem PMem.clock {W:World} {x:Nat} {own:Nat->Prop} {V:PV} {g:PG} (h:PMem W x own V g) (t:Int):jaz W (W.setCell (aq x 8) (iv t)) x own { V with now:=t }:=by
 have hs0:Same (fun k=>k=x) W (W.setCell (aq x 8) (iv t)):=jc0 (Same.of_below (Below.refl _ _)) x _ _ rfl
 have hs':Same (g.xs V x) W (W.setCell (aq x 8) (iv t)):=jc6 hs0 (fun k e=>.inl e)
 refine h.turn hs' (V':={ V with now:=t }) (g':=g) ?_ rfl ⟨rfl,rfl,rfl⟩ ⟨rfl,rfl,rfl,rfl⟩ ⟨rfl,rfl,rfl,rfl⟩ ⟨h.stay hs' h.ot.1,h.ot.2,fun _ e=>.inl e⟩ ⟨h.stay hs' h.qt.1,h.qt.2,fun _ e=>.inl e⟩ ⟨h.stay hs' h.qz.1,h.qz.2,fun _ e=>.inl e⟩ ⟨h.stay hs' h.lu.1,h.lu.2,fun _ e=>.inl e⟩ ⟨h.stay hs' h.att.1,h.att.2,fun _ e=>.inl e⟩ ⟨jac h.orow (fun k e=>Below.heap_setCell _ (aq x 8) _ _ (fun c=>jak h.orow h.blk (by decide) (by rw [e,show k=x from c]))),fun k e=>.inl e⟩ ⟨jac h.arow (fun k e=>Below.heap_setCell _ (aq x 8) _ _ (fun c=>jak h.arow h.blk (by decide) (by rw [e,show k=x from c]))),fun k e=>.inl e⟩
 rw [Joins.block_setCell h.blk]
 unfold jb5
 rfl
section
variable {w W:World} {x:Nat} {own:Nat->Prop} {V:PV} {S:Sal} {last:Nat} {an t:Int}
def paf (x:Nat) (S:Sal) (last:Nat) (V:PV) (to:Int) (D:List (Int × Int)) (j:Nat) (w:World) (own:Nat->Prop):Prop :=
 ∃ V',psm w x own V'/\relO V' ({ S with now:=to }:Sal) last S.knows/\Listed PAns.t V'.att V'.al/\(∀ a,a∈V'.al↔a∈V.al/\∀ i,i<j->a.t≠(D.getD i (0,0)).2)/\V'.an=to/\V'.atl=jur V.an to V.atl
theorem qdk (x:Nat) (S:Sal) (last:Nat) (V:PV) (to:Int) (D:List (Int × Int)) (j:Nat):Keeps (paf x S last V to D j):=⟨fun ⟨_,h,_⟩=>jf5 h,fun ⟨V,h,hr⟩ hz hk=>⟨V,jfd h hz hk,hr⟩⟩
theorem jz4 {S00:Sal} {to:Int} (h00:restP S00) (hC:S.C=S00.C) (hL:S.ansL=S00.ansL) (hn:S00.now<=to) (hnow:S.now<=to) (hk:∀ i,S.knows i->to<(S.os.getD i ja3).untl S.C) (h:pcx S00.now x last S to W own) :
 Calls Tryz.prog 105 #[pt x 23,iv to] W fun e w'=>e=.returned (.tuple #[])/\jbq (psx to x ({ S with now:=to }:Sal) last) W w' own:=by
 obtain ⟨V,hm,hr,ha,han,htn⟩:=h
 have hw:=jf5 hm
 have hle:V.an<=to:=by rw [han];exact hn
 have ha0:relA S00.now V.atl V.att V.al S00.C.keep S00.ansL:=by rw [← han,← hC,← hL];exact ha
 have hcnt:=jgc ha0
 have hal:V.al.length<=4294967296:=by have:=h00.alen;have:=h00.R.tokens.2;omega
 have hz2:V.atl.length<=V.al.length:=by
  have:=jaw (V.atl.map (fun p:Int × Int=>p.2)) (V.al.map PAns.t) (show (V.atl.map (fun p:Int × Int=>p.2)).Nodup from ha.once) (fun y hy=>by
   obtain ⟨p,hp,rfl⟩:=List.mem_map.1 hy
   obtain ⟨j,j1,j2,rfl⟩:=(ha.tl p).1 hp
   obtain ⟨b,hb',e,_⟩:=ha.reqs j j1 j2
   exact List.mem_map.2 ⟨b,hb',e⟩)
  simpa using this
 have hO:=jun (now:=V.an) (t:=to) ha.once
 have hperm:(jho V.an to V.atl).Perm (V.atl.filter (fun p=>decide (p.1<=to))):=by
  unfold jho
  rw [if_neg (by omega)]
  exact (jg2 to _ V.atl rfl).2.1
 have hDl:(jho V.an to V.atl).length<=4294967296:=by
  rw [hperm.length_eq]
  have:=List.length_filter_le (fun p:Int × Int=>decide (p.1<=to)) V.atl
  omega
 have hD:∀ p∈jho V.an to V.atl,∃ a∈V.al,a.t=p.2:=fun p hp=>by
  obtain ⟨j,j1,j2,rfl⟩:=(ha.tl p).1 (List.mem_filter.1 (hperm.mem_iff.1 hp)).1
  obtain ⟨b,hb',e,_⟩:=ha.reqs j j1 j2
  exact ⟨b,hb',e⟩
 have hT:jyx V.an to=to:=by unfold jyx;rw [if_neg (by omega)]
 refine (jrg x V.aw to (qav V.an to) (jho V.an to V.atl) W own (pv x V) (paf x S last V to (jho V.an to V.atl)) (jmi _ _) (fun j=>qdk _ _ _ _ _ _ _) hm hDl ?_ ?_ ?_).mono ?_
 ·rintro loc W' ⟨o1,⟨g,hp⟩,_⟩
  exact ⟨hp.xw,hp.cell 23 _ rfl⟩
 ·rintro loc W' ⟨o1,hp,a2,a3,a4⟩
  refine (qf9 hp to (by omega)).mono ?_
  rintro e w' ⟨da,dc,rfl,hq⟩
  refine ⟨da,dc,rfl,jng a2 a3 a4 (jjm hq (jxe (fun W1 o1 hp=>?_)))⟩
  exact ⟨_,hp,⟨hr.C,hr.now,hr.last,hr.tn,hr.once,hr.tl,hr.kin,hr.live,hr.ls,hr.ol,hr.turns,hr.sizes,hr.held,hr.sold,hr.lu,hr.cust⟩,ha.ls,fun a=>⟨fun c=>⟨c,fun i hi=>by omega⟩,fun c=>c.1⟩,hT,rfl⟩
 ·intro da j hj loc W' hT'
  refine jaf hw (jem (qdk _ _ _ _ _ _ _) (fun W1 o1 hp hd hdis=>?_)) W' hT'
  obtain ⟨V',q1,q2,q3,q4,q5,q6⟩:=hp
  obtain ⟨a,b1,b2⟩:=hD _ (jge hj)
  have hin:a∈V'.al:=(q4 a).2 ⟨b1,fun i hi e=>by
   have:=ju0 hO (i:=i) (j:=j) (by omega) hj (e.symm.trans b2)
   omega⟩
  obtain ⟨q,hq⟩:=List.mem_iff_getElem?.1 hin
  have hql:=(List.getElem?_eq_some_iff.1 hq).1
  obtain ⟨z,hz⟩:∃ z,V'.al[V'.al.length - 1]?=some z:=⟨V'.al[V'.al.length - 1],List.getElem?_eq_getElem (by omega)⟩
  have hl':V'.al.length<=V.al.length:=by
   have:=jaw (V'.al.map PAns.t) (V.al.map PAns.t) q3.once (fun y hy=>by
    obtain ⟨p,hp,rfl⟩:=List.mem_map.1 hy
    exact List.mem_map.2 ⟨p,((q4 p).1 hp).1,rfl⟩)
   simpa using this
  rw [← b2]
  refine (jxx q1 q3 (by omega) (jfl q3) hq hz).mono ?_
  rintro e w' ⟨rfl,rm,o2,p1,p2,p3⟩
  refine ⟨rfl,o2,⟨_,p1,⟨q2.C,q2.now,q2.last,q2.tn,q2.once,q2.tl,q2.kin,q2.live,q2.ls,q2.ol,q2.turns,q2.sizes,q2.held,q2.sold,q2.lu,q2.cust⟩,jlw q3 hq hz,fun c=>?_,q5,q6⟩,p2,p3⟩
  show c∈jei V'.al q z↔_
  rw [jnm q3.once hq hz,q4]
  constructor
  ·rintro ⟨⟨d1,d2⟩,d3⟩
   refine ⟨d1,fun i hi=>?_⟩
   by_cases ei:i=j
   ·rw [ei,← b2];exact d3
   ·exact d2 i (by omega)
  ·rintro ⟨d1,d2⟩
   exact ⟨⟨d1,fun i hi=>d2 i (by omega)⟩,by rw [b2];exact d2 j (by omega)⟩
 ·rintro e w' ⟨rfl,hq⟩
  refine ⟨rfl,jjm hq (fun W' o' hp=>?_)⟩
  obtain ⟨V',q1,q2,q3,q4,q5,q6⟩:=hp
  refine ⟨V',q1,?_,?_,q5⟩
  ·rw [jv9 hnow hk];exact q2
  ·have:=ha.forget hle q3 (fun a=>(q4 a).trans ⟨fun c=>⟨c.1,fun d hd=>?_⟩,fun c=>⟨c.1,fun i hi=>c.2 _ (jge hi)⟩⟩)
   ·rw [q5,q6];exact this
   ·obtain ⟨i,hi,e⟩:=List.getElem_of_mem hd
    have:=c.2 i hi
    simpa [List.getD,List.getElem?_eq_getElem hi,e] using this
theorem qf5 {to:Int} (hJ:salJ S) (hR:restP S) (hto:S.now<=to) (hmax:to<=4611686018427387904) (h:psx S.now x S last W own) :
 Calls Tryz.prog 66 #[pt x 0,iv to] W fun e w'=>e=.returned (.tuple #[])/\jbq (fun W o=>psx to x (S.tickTo to) last W o/\restP (S.tickTo to)) W w' own:=by
 refine jz8 (σ:=Sal) x to (fun T=>psx S.now x T last) (fun T W o=>psx to x (T.tickTo to) last W o/\restP (T.tickTo to)) (pcx S.now x last) (fun T=>jb3 _ _ _ _) (fun T t=>qg8 _ _ _ _ _) (fun T=>⟨fun h=>(jb3 _ _ _ _).lt h.1,fun h hz hk=>⟨(jb3 _ _ _ _).keep h.1 hz hk,h.2⟩⟩) (fun T=>(salJ T/\restP T)/\T.now<=to/\T.ansL=S.ansL/\T.C=S.C) (fun T=>jad T.tset) (fun T=>jc5 T.tset) (fun T=>T.round (jad T.tset).1) Sal.todo (fun T=>(jad T.tset).1<=to) (fun _=>Iff.rfl) Sal.now (fun T hT=>⟨hT.2.1,fun hb=>Int.le_of_lt ((jhn hb).later hT.1.2.R)⟩) ?_ ?_ ?_ ?_ ?_ ?_ S W own ⟨⟨hJ,hR⟩,hto,rfl,rfl⟩ h
 ·rintro T ⟨⟨hJ',hR'⟩,h1,h2,h3⟩ W' o' ⟨V,⟨g,hm⟩,hr,ha,han⟩
  refine ⟨hm.ownx,fun t hlt=>?_⟩
  obtain ⟨o2,p1,p2,p3⟩:=hm.clock t
  refine ⟨o2,⟨_,p1,⟨hr.C,rfl,hr.last,Int.le_trans hr.tn hlt,hr.once,hr.tl,hr.kin,hr.live,hr.ls,hr.ol,hr.turns,hr.sizes,hr.held,hr.sold,hr.lu,hr.cust⟩,ha,han,hr.tn⟩,p2,p3⟩
 ·rintro T _ W' o' ⟨V,⟨g,hm⟩,_⟩
  exact ⟨hm.xw,⟨_,hm.cell 8 _ rfl⟩,ja0 hm.blk 8⟩
 ·rintro T ⟨⟨hJ',hR'⟩,h1,h2,h3⟩ W' o' ⟨V,⟨g,hm⟩,hr,ha,han⟩
  refine ⟨V.tw,hm.cell 10 _ rfl,fun W2 hb=>?_⟩
  have:=jhd (jut hm.tw hb)
  rw [(hr.firstK hR'.R).1,(hr.firstK hR'.R).2] at this
  exact this
 ·rintro T ⟨⟨hJ',hR'⟩,h1,h2,h3⟩ hb hc W' o' hp
  exact qfb hJ' hR' (jhn hb) (by omega) hp
 ·rintro T ⟨⟨hJ',hR'⟩,h1,h2,h3⟩ hb hc
  have hS:=jhn hb
  have hlt:=hS.later hR'.R
  have h0:=hJ'.I.now
  obtain ⟨a,b,c,d⟩:=jf1 T (jad T.tset).1
  have ht:=jsb hR'.R h0.1 hc hS.alive
  refine ⟨⟨⟨jx6 hJ' ⟨by omega,by omega⟩,jt9 hS hR'⟩,by rw [b];exact hc,c.trans h2,a.trans h3⟩,qat hS hR'.R h0.1,?_⟩
  simp only [← ht]
 ·rintro T ⟨⟨hJ',hR'⟩,h1,h2,h3⟩ hc W' o' hp
  have hk:∀ i,T.knows i->to<(T.os.getD i ja3).untl T.C:=fun i hi=>by
   cases hb:jc5 T.tset with
   | false=>exact absurd hi (jux hb i)
   | true =>
     have:=(jhn hb).min i hi
     have:=hc hb
     omega
  rw [show (fun W o=>psx to x (T.tickTo to) last W o/\restP (T.tickTo to))=(fun W o=>psx to x ({ T with now:=to }:Sal) last W o/\restP ({ T with now:=to }:Sal)) by rw [jzq hk]]
  refine (jz4 hR h3 h2 hto h1 hk hp).mono ?_
  rintro e w' ⟨rfl,hq⟩
  exact ⟨rfl,jjm hq (fun W o hp=>⟨hp,jwn h1 hk hR'⟩)⟩
end
end
theorem qee (x:Nat) (n:Int) (w:World) (hn:n<0) :
 Calls Tryz.prog 36 #[pt x 0,iv n] w fun e w'=>e=.returned (.tuple #[iv 0,iv 3])/\Below w.heap.size w w':=by
 go_enter Tryz.func36,Tryz.ntmps36
 go_wp2
 refine bodyPost_ret (v:=.tuple #[iv 0,iv 3]) (by simp [results,Tryz.results36,go_sem]) rfl ⟨rfl,bL⟩
theorem qbh (x:Nat) (n now to:Int) (w:World) (own:Nat->Prop) (P0 PE:World->(Nat->Prop)->Prop) (K0:Keeps P0) (KE:Keeps PE) (h:P0 w own) (hn:¬ n<0) (hn2:n<=9223372036854775807) (hb:0<=now/\now<=4611686018427387904)
 (hto:(n<4611686018427387904 - now/\to=now+n)\/(¬ n<4611686018427387904 - now/\to=4611686018427387904))
 (HX:Hid (∀ W o,P0 W o->x<W.heap.size/\W.cell? (aq x 8)=some (iv now)))
 (HY:Hid (∀ W o,PE W o->x<W.heap.size/\W.cell? (aq x 8)=some (iv to)))
 (HG:Hid (∀ W o,P0 W o->Calls Tryz.prog 66 #[pt x 0,iv to] W fun e w'=>e=.returned (.tuple #[])/\jbq PE W w' o)) :
 Calls Tryz.prog 36 #[pt x 0,iv n] w fun e w'=>e=.returned (.tuple #[iv to,iv 0])/\jbq PE w w' own:=by
 obtain ⟨hx,c8⟩:=HX.out w own h
 have hw1:IntKind.i64.wrap (4611686018427387904 - now)=4611686018427387904 - now:=jag (by omega) (by omega)
 obtain ⟨hb0,hb1⟩:=hb
 have hT0:Hid (jbd P0 w own 0 w):=jfi K0 h (Below.refl _ _) (Nat.le_refl _)
 have HGs:Hid (∀ W,jbd P0 w own 0 W->Calls Tryz.prog 66 #[pt x 0,iv to] W fun e w'=>e=.returned (.tuple #[])/\jbd PE w own 0 w'/\∀ b,w.heap.size<=b->b<w.heap.size+0->w'.heap[b]?=W.heap[b]?):=fun W hW=>jeb (K0.lt h) HG.out W hW
 clear h HX HG
 rcases hto with ⟨hlt,rfl⟩|⟨hlt,rfl⟩
 ·have hw2:IntKind.i64.wrap (now+n)=now+n:=jag (by omega) (by omega)
  go_enter Tryz.func36,Tryz.ntmps36
  go_wp2_with fail
  refine (HGs.out _ (jb1 K0 hT0.out bL)).mono ?_
  rintro e W1 ⟨rfl,hT1,_⟩
  obtain ⟨hx1,d8⟩:x<W1.heap.size/\W1.cell? (aq x 8)=some (iv (now+n)):=by
   obtain ⟨o1,a1,_⟩:=hT1
   exact HY.out W1 o1 a1
  replace hT1:Hid _:=hT1
  clear hT0 c8 HY
  go_wp2
  refine bodyPost_ret (v:=.tuple #[iv (now+n),iv 0]) (by simp [results,Tryz.results36,go_sem]) rfl ⟨rfl,jfy (jb1 KE hT1.out bL)⟩
 ·go_enter Tryz.func36,Tryz.ntmps36
  go_wp2_with fail
  refine (HGs.out _ (jb1 K0 hT0.out bL)).mono ?_
  rintro e W1 ⟨rfl,hT1,_⟩
  obtain ⟨hx1,d8⟩:x<W1.heap.size/\W1.cell? (aq x 8)=some (iv 4611686018427387904):=by
   obtain ⟨o1,a1,_⟩:=hT1
   exact HY.out W1 o1 a1
  replace hT1:Hid _:=hT1
  clear hT0 c8 HY
  go_wp2
  refine bodyPost_ret (v:=.tuple #[iv 4611686018427387904,iv 0]) (by simp [results,Tryz.results36,go_sem]) rfl ⟨rfl,jfy (jb1 KE hT1.out bL)⟩
theorem jrf (S:Sal) (to:Int):(S.tickTo to).C=S.C/\(S.tickTo to).ansL=S.ansL/\(S.tickTo to).os.length=S.os.length:=jjq _ S to
theorem jua:∀ (n:Nat) (S:Sal) (to:Int),(jg0 n S to).now=to
 | 0,_,_=>rfl
 | n+1,S,to=>by
   unfold jg0
   split
   ·rfl
   ·exact jua n _ to
theorem jr4 (S:Sal) (to:Int):(S.tickTo to).now=to:=jua _ S to
theorem qg3:TickOK PSW where
 tick:=by
  intro w x own S n hn1 hn2 h hJ
  obtain ⟨hp,hR⟩:=h
  by_cases hn:n<0
  ·have e:S.tick n=((0,3),S):=by unfold Sal.tick;rw [if_pos hn]
   rw [e]
   refine (qee x n w hn).mono ?_
   rintro e w' ⟨rfl,hb⟩
   obtain ⟨o',a1,a2,a3⟩:=jb7 (jb3 S.now x S S.os.length) hp hb
   exact ⟨rfl,o',⟨a1,hR⟩,a2,a3⟩
  ·have h0:=hJ.I.now
   obtain ⟨to,hto,e⟩:∃ to,((n<4611686018427387904 - S.now/\to=S.now+n)\/(¬ n<4611686018427387904 - S.now/\to=4611686018427387904))/\S.tick n=((to,0),S.tickTo to):=by
    unfold Sal.tick
    rw [if_neg hn]
    by_cases hlt:n<4611686018427387904 - S.now
    ·exact ⟨_,.inl ⟨hlt,rfl⟩,by rw [if_pos hlt]⟩
    ·exact ⟨_,.inr ⟨hlt,rfl⟩,by rw [if_neg hlt]⟩
   have hto1:S.now<=to/\to<=4611686018427387904:=by rcases hto with ⟨a,rfl⟩|⟨a,rfl⟩<;>omega
   rw [e]
   have KE:Keeps (fun W o=>psx to x (S.tickTo to) S.os.length W o/\restP (S.tickTo to)):=⟨fun h=>(jb3 _ _ _ _).lt h.1,fun h hz hk=>⟨(jb3 _ _ _ _).keep h.1 hz hk,h.2⟩⟩
   refine (qbh x n S.now to w own (psx S.now x S S.os.length) _ (jb3 _ _ _ _) KE hp hn hn2 h0 hto (fun W o hp=>⟨qe2 hp,(jeu hp).2.2.2.1⟩) (fun W o hp=>⟨qe2 hp.1,?_⟩) (fun W o hp=>qf5 hJ hR hto1.1 hto1.2 hp)).mono ?_
   ·have:=(jeu hp.1).2.2.2.1
    rwa [jr4] at this
   ·rintro e w' ⟨rfl,o',a1,a2,a3⟩
    refine ⟨rfl,o',⟨?_,a1.2⟩,a2,a3⟩
    have:=a1.1
    show psx (S.tickTo to).now x (S.tickTo to) (S.tickTo to).os.length w' o'
    rw [jr4,(jrf S to).2.2]
    exact this
 clock:=by
  intro w x own S h hJ
  obtain ⟨hp,hR⟩:=h
  refine (qeg x S.now w (jeu hp).2.2.2.1).mono ?_
  rintro e w' ⟨rfl,hb⟩
  obtain ⟨o',a1,a2,a3⟩:=jb7 (jb3 S.now x S S.os.length) hp hb
  exact ⟨rfl,o',⟨a1,hR⟩,a2,a3⟩
theorem Tryz.infoPair:(Tryz.prog.info? 127).map (fun i=>(i.zero,i.size,i.bytes))=some (some (.agg #[.pointer none,.pointer none]),2,16):=by kernel_rfl
structure OpenOK (PS:World->Nat->(Nat->Prop)->Sal->Prop):Prop where
 no:∀ {w:World} {n0 n1 n2 n3 n4 n5 n6:Int} {a:Option Addr} {len cap:Nat} {ts:List (Int × Int)},tiersAt w a len cap ts->jhs [n0,n1,n2,n3,n4,n5,n6] ts=false->Calls Tryz.prog 26 #[.agg #[iv n0,iv n1,iv n2,iv n3,iv n4,iv n5,iv n6,.slice a len cap]] w fun e w'=>e=.returned (.tuple #[.pointer none,iv 1])/\Below w.heap.size w w'
 yes:∀ {w:World} {n0 n1 n2 n3 n4 n5 n6:Int} {a:Option Addr} {len cap:Nat} {ts:List (Int × Int)},tiersAt w a len cap ts->jhs [n0,n1,n2,n3,n4,n5,n6] ts=true->Calls Tryz.prog 26 #[.agg #[iv n0,iv n1,iv n2,iv n3,iv n4,iv n5,iv n6,.slice a len cap]] w fun e w'=>∃ x own,e=.returned (.tuple #[pt x 0,iv 0])/\PS w' x own ⟨⟨n0,n1,n2,n3,n4,n5,n6,ts⟩,0,[],[]⟩/\(∀ k,own k->w.heap.size<=k)/\Below w.heap.size w w'
theorem jwa {PS:World->Nat->(Nat->Prop)->Sal->Prop} (K:OpenOK PS) (P:Nat) (n0 n1 n2 n3 n4 n5 n6:Int) (w:World) (hc:jhs [n0,n1,n2,n3,n4,n5,n6] []=false) :
 Calls Tryz.prog 50 #[pt P 0,.agg #[iv n0,iv n1,iv n2,iv n3,iv n4,iv n5,iv n6,.slice none 0 0]] w fun e w'=>e=.returned (.bool true)/\Below w.heap.size w w':=by
 have HT:Hid (∀ w':World,tiersAt w' none 0 0 []):=fun w'=>⟨rfl,Nat.le_refl _,by omega,fun _=>⟨rfl,rfl⟩,fun h=>absurd rfl h⟩
 have HC:Hid (jhs [n0,n1,n2,n3,n4,n5,n6] []=false):=hc
 have HO:Hid (∀ W,Calls Tryz.prog 26 #[.agg #[iv n0,iv n1,iv n2,iv n3,iv n4,iv n5,iv n6,.slice none 0 0]] W fun e w'=>e=.returned (.tuple #[.pointer none,iv 1])/\Below W.heap.size W w'):=fun W=>K.no (HT.out W) hc
 have HR:Hid (∀ W,Calls Tryz.prog 57 #[.agg #[iv n0,iv n1,iv n2,iv n3,iv n4,iv n5,iv n6,.slice none 0 0]] W fun e w'=>e=.returned (iv 1)/\Below W.heap.size W w'):=fun W=>by
  have:=jkk n0 n1 n2 n3 n4 n5 n6 none 0 0 [] W (HT.out W)
  rw [HC.out] at this
  exact this
 clear hc
 go_enter Tryz.func50,Tryz.ntmps50
 go_wp2_with fail
 refine (qbz n0 n1 n2 n3 n4 n5 n6 _).mono ?_
 rintro e w1 ⟨rfl,b1⟩
 have hbox:Hid (w1.heap[w.heap.size]?=some (.cells #[iv n0,iv n1,iv n2,iv n3,iv n4,iv n5,iv n6,.slice none 0 0] 29 (0,0))):=(b1.block w.heap.size (by simp)).trans (heap_alloc_new w _)
 have s1:w.heap.size<w1.heap.size:=by have:=b1.size;simp at this;omega
 have w01:Below w.heap.size w w1:=((Below.refl _ _).alloc (Nat.le_refl _) _).trans (b1.mono (by simp))
 go_wp2_with fail
 refine (HO.out _).mono ?_
 rintro e w2 ⟨rfl,b2⟩
 have hbox2:Hid (w2.heap[w.heap.size]?=some (.cells #[iv n0,iv n1,iv n2,iv n3,iv n4,iv n5,iv n6,.slice none 0 0] 29 (0,0))):=(b2.block w.heap.size (by simp;omega)).trans ((Below.heap_alloc _ _ _ s1).trans hbox.out)
 have hl2:Hid (w2.heap[w1.heap.size]?=some (.cells #[iv n0,iv n1,iv n2,iv n3,iv n4,iv n5,iv n6,.slice none 0 0] 29 (0,0))):=(b2.block w1.heap.size (by simp)).trans (heap_alloc_new w1 _)
 have s2:w1.heap.size<w2.heap.size:=by have:=b2.size;simp at this;omega
 have w02:Below w.heap.size w w2:=(w01.alloc (Nat.le_of_lt s1) _).trans (b2.mono (by simp;omega))
 obtain ⟨k0,k1,k2,k3,k4,k5,k6,k7,kf⟩:=jfr hbox2.out
 go_wp2_with fail
 refine (HR.out _).mono ?_
 rintro e w3 ⟨rfl,b3⟩
 clear k0 k1 k2 k3 k4 k5 k6 k7 kf
 obtain ⟨k0,k1,k2,k3,k4,k5,k6,k7,kf⟩:=jfr ((b3.block w.heap.size (by omega)).trans hbox2.out)
 obtain ⟨l0,l1,l2,l3,l4,l5,l6,l7,lf⟩:=jfr ((b3.block w1.heap.size s2).trans hl2.out)
 have w03:Below w.heap.size w w3:=w02.trans (b3.mono (by omega))
 go_wp2_with fail
 refine (jxo n0 n1 n2 n3 n4 n5 n6 n0 n1 n2 n3 n4 n5 n6 _ _).mono ?_
 rintro e w4 ⟨rfl,b4⟩
 clear k0 k1 k2 k3 k4 k5 k6 k7 kf l0 l1 l2 l3 l4 l5 l6 l7 lf
 go_wp2
 go_ret
 exact ⟨rfl,w03.trans (b4.mono (by have:=b3.size;omega))⟩
theorem jz0 {PS:World->Nat->(Nat->Prop)->Sal->Prop} (K:OpenOK PS) (P:Nat) (n0 n1 n2 n3 n4 n5 n6:Int) (x:Addr) (len cap:Nat) (ts:List (Int × Int)) (w:World) (h:tiersAt w (some x) len cap ts) (hb:len * 16<=140737488351232) (hc:jhs [n0,n1,n2,n3,n4,n5,n6] ts=false) :
 Calls Tryz.prog 50 #[pt P 0,.agg #[iv n0,iv n1,iv n2,iv n3,iv n4,iv n5,iv n6,.slice (some x) len cap]] w fun e w'=>e=.returned (.bool true)/\Below w.heap.size w w':=by
 have HT:Hid (tiersAt w (some x) len cap ts):=h
 have hxw:ts≠[]->x.block<w.heap.size:=fun hn=>by
  obtain ⟨b,off,hx,hbw,_⟩:=h.2.2.2.2 hn
  have:=Option.some.inj hx
  subst this
  exact hbw
 have HX:Hid (ts≠[]->x.block<w.heap.size):=hxw
 have hl:Hid (ts.length=len):=h.1
 have HO:Hid (∀ W a len' cap',tiersAt W a len' cap' ts->Calls Tryz.prog 26 #[.agg #[iv n0,iv n1,iv n2,iv n3,iv n4,iv n5,iv n6,.slice a len' cap']] W fun e w'=>e=.returned (.tuple #[.pointer none,iv 1])/\Below W.heap.size W w'):=fun W a len' cap' ht=>K.no ht hc
 have HR:Hid (∀ W,tiersAt W (some x) len cap ts->Calls Tryz.prog 57 #[.agg #[iv n0,iv n1,iv n2,iv n3,iv n4,iv n5,iv n6,.slice (some x) len cap]] W fun e w'=>e=.returned (iv 1)/\Below W.heap.size W w'):=fun W ht=>by
  have:=jkk n0 n1 n2 n3 n4 n5 n6 (some x) len cap ts W ht
  rw [hc] at this
  exact this
 clear h hxw hc
 go_enter Tryz.func50,Tryz.ntmps50
 go_wp2_with fail
 refine (jrk n0 n1 n2 n3 n4 n5 n6 x len cap ts _ (HT.out.below ((Below.refl _ _).alloc (Nat.le_refl _) _) (Nat.le_refl _))).mono ?_
 rintro e w1 ⟨g,rfl,hg,hrow,b1⟩
 have hg':w.heap.size<g:=by simp at hg;omega
 have hbox:Hid (w1.heap[w.heap.size]?=some (.cells #[iv n0,iv n1,iv n2,iv n3,iv n4,iv n5,iv n6,.slice (some x) len cap] 29 (0,0))):=(b1.block w.heap.size (by simp)).trans (heap_alloc_new w _)
 have hg1:g<w1.heap.size:=(blt hrow)
 have s1:w.heap.size<w1.heap.size:=by omega
 have w01:Below w.heap.size w w1:=((Below.refl _ _).alloc (Nat.le_refl _) _).trans (b1.mono (by simp))
 have HROW:Hid (w1.heap[g]?=some (.cells (jas (jba ts)).toArray 137 (0,0))):=hrow
 clear hrow b1 hg
 go_wp2_with fail
 refine (HO.out _ _ _ _ (jon ((Below.heap_alloc _ _ _ hg1).trans HROW.out) hl.out hb)).mono ?_
 rintro e w2 ⟨rfl,b2⟩
 have hbox2:Hid (w2.heap[w.heap.size]?=some (.cells #[iv n0,iv n1,iv n2,iv n3,iv n4,iv n5,iv n6,.slice (some x) len cap] 29 (0,0))):=(b2.block w.heap.size (by simp;omega)).trans ((Below.heap_alloc _ _ _ s1).trans hbox.out)
 have hl2:Hid (w2.heap[w1.heap.size]?=some (.cells #[iv n0,iv n1,iv n2,iv n3,iv n4,iv n5,iv n6,.slice (some (aq g 0)) len (len+8)] 29 (0,0))):=(b2.block w1.heap.size (by simp)).trans (heap_alloc_new w1 _)
 have HROW2:Hid (w2.heap[g]?=some (.cells (jas (jba ts)).toArray 137 (0,0))):=(b2.block g (by simp;omega)).trans ((Below.heap_alloc _ _ _ hg1).trans HROW.out)
 have s2:w1.heap.size<w2.heap.size:=by have:=b2.size;simp at this;omega
 have w02:Below w.heap.size w w2:=(w01.alloc (Nat.le_of_lt s1) _).trans (b2.mono (by simp;omega))
 obtain ⟨k0,k1,k2,k3,k4,k5,k6,k7,kf⟩:=jfr hbox2.out
 go_wp2_with fail
 refine (HR.out _ (HT.out.below w02 (Nat.le_refl _))).mono ?_
 rintro e w3 ⟨rfl,b3⟩
 clear k0 k1 k2 k3 k4 k5 k6 k7 kf
 obtain ⟨k0,k1,k2,k3,k4,k5,k6,k7,kf⟩:=jfr ((b3.block w.heap.size (by omega)).trans hbox2.out)
 obtain ⟨l0,l1,l2,l3,l4,l5,l6,l7,lf⟩:=jfr ((b3.block w1.heap.size s2).trans hl2.out)
 have w03:Below w.heap.size w w3:=w02.trans (b3.mono (by omega))
 go_wp2_with fail
 refine (jny n0 n1 n2 n3 n4 n5 n6 n0 n1 n2 n3 n4 n5 n6 x g len cap ts _ (HT.out.below w03 (Nat.le_refl _)) (fun hn=>by have:=HX.out hn;omega) ((b3.block g (by omega)).trans HROW2.out)).mono ?_
 rintro e w4 ⟨rfl,g4⟩
 clear k0 k1 k2 k3 k4 k5 k6 k7 kf l0 l1 l2 l3 l4 l5 l6 l7 lf
 go_wp2
 go_ret
 exact ⟨rfl,w03.grown g4 (by have:=b3.size;omega) (fun k hk=>by simp at hk;omega)⟩
end Go.Proofs.YtfhncfghblkgeaaGreat
