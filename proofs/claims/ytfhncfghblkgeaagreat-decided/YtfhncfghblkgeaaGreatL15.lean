import Derived.Test.YtfhncfghblkgeaaGreatL14
set_option maxRecDepth 100000
set_option maxHeartbeats 2000000
namespace Go.Proofs.YtfhncfghblkgeaaGreat
open Go.RowKit
theorem qfn {w:World} {x:Nat} {own:Nat->Prop} {now:Int} {L:List (Int × Int)} (to:Int) (h:pwW w x own now L):pwW (w.setCell (aq x 0) (iv to)) x own to L:=by
 obtain ⟨ti,tt,h1,h2,h3,h4,h5,h6,h7⟩:=h
 exact ⟨ti,tt,by rw [Joins.block_setCell h1];rfl,⟨ti.at_set h2.1 h1 (by decide),tt.at_set h2.2 h1 (by decide)⟩,h3,h4,h5,h6,fun k hk=>by simpa [World.setCell] using h7 k hk⟩
theorem qbx {w:World} {x:Nat} {own:Nat->Prop} {now:Int} {L:List (Int × Int)} (O:Obj) (h:pwW w x own now L):pwW (w.alloc O) x own now L :=
 jcb h (by simp) (fun k hk=>Below.heap_alloc w O k (jfj h k hk))
theorem juf {w w':World} {x:Nat} {own:Nat->Prop} {now:Int} {L:List (Int × Int)} (h:pwW w x own now L) (hb:Below w.heap.size w w'):pwW w' x own now L :=
 jcb h hb.size (fun k hk=>hb.block k (jfj h k hk))
theorem qex {w wr w2 w3:World} {x D:Nat} {own own':Nat->Prop} {to:Int} {out:Value} {L o L' L2:List (Int × Int)} {O:Obj} (I:advI w wr x D own to out L o L' own') (hp:jff pwW wr w2 x own' to L2) (hg:(w2.alloc O).grownBy w3 out.ownBlock) :
 (∃ own2,pwW w3 x own2 to L2)/\w3.heap[D]?=some (.cells #[iv (ja8 L').1,iv (ja8 L').2] 131 (0,0)):=by
 obtain ⟨own2,p2,s2,f2⟩:=hp
 have lt2:=jfj p2
 have ko:=World.ownsRow.lt I.told
 have hDr:D<wr.heap.size:=(blt I.due)
 have z2:=s2.size
 have z3:w2.heap.size+1<=w3.heap.size:=by have:=hg.size;simpa using this
 have k3:∀ k,k<w2.heap.size->out.ownBlock≠some k->w3.heap[k]?=w2.heap[k]?:=fun k hk hn=>(hg.block k (by simp;omega) (fun e=>hn e.symm)).trans (Below.heap_alloc w2 O k hk)
 have no2:∀ k,out.ownBlock=some k->¬ own2 k:=fun k hk e=>(f2 k e).elim (I.no k hk).1 (fun h=>by have:=(ko k hk).2;omega)
 exact ⟨⟨own2,jcb p2 (by omega) (fun k hk=>k3 k (lt2 k hk) (fun e=>no2 k e hk))⟩,(k3 D (by omega) (fun e=>(I.no D e).2 rfl)).trans ((s2.block D hDr I.nD).trans I.due)⟩
theorem jte {w wr w2:World} {x D:Nat} {own own':Nat->Prop} {to:Int} {out:Value} {L o L' L2:List (Int × Int)} (I:advI w wr x D own to out L o L' own') (hp:jff pwW wr w2 x own' to L2) :
 w2.ownsRow w.heap.size 131 2 out o.length (jdq o)/\w2.heap[D]?=some (.cells #[iv (ja8 L').1,iv (ja8 L').2] 131 (0,0))/\wr.heap.size<=w2.heap.size:=by
 obtain ⟨own2,p2,s2,f2⟩:=hp
 have hDr:D<wr.heap.size:=(blt I.due)
 exact ⟨jad I.told (fun k hk=>s2.block k (World.ownsRow.lt I.told k hk).2 (I.no k hk).1),(s2.block D hDr I.nD).trans I.due,s2.size⟩
theorem jst (x:Nat) (now to:Int) (w:World) (h0:w.cell? (aq x 0)=some (iv now)) (ht:to<now) :
 Calls Tryz.prog 119 #[pt x 0,iv to] w fun e w'=>e=.returned (.tuple #[.slice none 0 0,iv 3])/\w=w':=by
 go_enter Tryz.func119,Tryz.ntmps119
 go_wp2
 go_ret2
 exact ⟨rfl,rfl⟩
theorem jqg (x:Nat) (now to:Int) (w:World) (own:Nat->Prop) (L:List (Int × Int)) (h:pwW w x own now L) (ht:¬ to<now) (hl:L.length * 16+16<=140737488351232) :
 Calls Tryz.prog 119 #[pt x 0,iv to] w fun e w'=>∃ out,e=.returned (.tuple #[out,iv 0])/\∃ D own',advI w w' x D own to out L (adv to L).1 (adv to L).2 own':=by
 obtain ⟨i0,hi,hz0,hz1,hz2⟩:=info_parts Tryz.infoDue
 have HP:Hid (pwW w x own now L):=h
 obtain ⟨ti,tt,h1,_⟩:=h
 have hxw:x<w.heap.size:=(blt h1)
 have k0:=jid h1
 have kf:=ja0 h1 0
 have ht':decide (to<now)=false:=by simpa using ht
 have HF0:Hid (Calls Tryz.prog 79 #[pt x 0] ((w.setCell (aq x 0) (iv to)).alloc (.cells #[] 131)) fun e w'=>e=.returned (.tuple #[.agg #[iv (ja8 L).1,iv (ja8 L).2],.bool (jcf L)])/\Below (w.heap.size+1) ((w.setCell (aq x 0) (iv to)).alloc (.cells #[] 131)) w'):=by
  have:=jhh (qbx (.cells #[] 131) (qfn to HP.out))
  have e:((w.setCell (aq x 0) (iv to)).alloc (.cells #[] 131)).heap.size=w.heap.size+1:=by simp [World.setCell]
  rw [e] at this
  exact this
 clear h1
 go_enter Tryz.func119,Tryz.ntmps119
 go_wp2_with fail
 refine HF0.out.mono ?_
 rintro e w1 ⟨rfl,b1⟩
 have I0:=qal HP.out b1
 have hD:w.heap.size+1<=w1.heap.size:=by have:=b1.size;simpa [World.setCell] using this
 clear k0 kf b1
 go_wp2_with fail
 go_loopw [6,8] (fun out sm wr=>∃ o L' own',Hid (advI w wr x w1.heap.size own to out L o L' own')/\sm=.bool (jcf L')) (fun out _ _=>L.length - qgn out)
 case atStart=>exact ⟨[],L,own,I0,rfl⟩
 case round =>
  obtain ⟨o,L',own',I,rfl⟩:=hrel
  generalize hDD:w1.heap.size=D at *
  have hdue:=I.out.due
  have hDr:D<wr.heap.size:=(blt hdue)
  obtain ⟨d0,d1⟩:=jje hdue
  obtain ⟨oa,oc,rfl⟩:=jja I.out.told
  have HS:Hid (jcf L'=false\/to<(ja8 L').1->∃ D own',advI w wr x D own to (.slice oa o.length oc) L (adv to L).1 (adv to L).2 own'):=by
   intro hc
   have he:=qeg hc
   have hs:=I.out.spec
   rw [he] at hs
   simp only [List.append_nil] at hs
   exact ⟨D,own',by rw [← hs.1,← hs.2];exact I.out⟩
  cases hB:jcf L' with
  | false =>
    have HS2:=HS.out (.inl hB)
    clear HS I hdue
    go_wp2
    go_ret2
    exact ⟨_,rfl,HS2⟩
  | true =>
    by_cases hto:(ja8 L').1<=to
    ·have ho:jcz L':=by obtain ⟨_,_,_,_,_,_,h,_⟩:=I.out.pw;exact h
     have hlen:=jjk ho (jpu hB)
     have hlen2:=I.out.len
     have HDR:Hid (∀ W,Below wr.heap.size wr W->Calls Tryz.prog 115 #[pt x 0,iv (ja8 L').2,iv (ja8 L').1] W fun e w'=>e=.returned (.tuple #[])/\jff pwW wr w' x own' to (L'.filter (fun p=>p.2 != (ja8 L').2))) :=
      fun W hb=>(jtq _ _ (juf I.out.pw hb) (jpu hB) (by omega)).mono (by rintro e w' ⟨rfl,A⟩;exact ⟨rfl,jo6 A hb⟩)
     have HTU:Hid (∀ w2 w3 w4 out' O,jff pwW wr w2 x own' to (L'.filter (fun p=>p.2 != (ja8 L').2))->w3.ownsRow w.heap.size 131 2 out' (o.length+1) (jdq o++[iv (ja8 L').1,iv (ja8 L').2])->(w2.alloc O).grownBy w3 (Value.ownBlock (.slice oa o.length oc))->(out'.ownBlock=Value.ownBlock (.slice oa o.length oc)\/out'.ownBlock=some (w2.alloc O).heap.size)->Below w3.heap.size w3 w4 →
      ∃ o2 own'',o2.length=o.length+1/\advI w ((w4.setCell (aq D 0) (iv (ja8 (L'.filter (fun p=>p.2 != (ja8 L').2))).1)).setCell (aq D 1) (iv (ja8 (L'.filter (fun p=>p.2 != (ja8 L').2))).2)) x D own to out' L o2 (L'.filter (fun p=>p.2 != (ja8 L').2)) own'') :=
      fun w2 w3 w4 out' O a b c d e=>by
       obtain ⟨own'',hI⟩:=qcx I.out hB hto a b c d e
       exact ⟨_,own'',by simp,hI⟩
     have HMI:Hid (∀ w2 w3 O,jff pwW wr w2 x own' to (L'.filter (fun p=>p.2 != (ja8 L').2))->(w2.alloc O).grownBy w3 (Value.ownBlock (.slice oa o.length oc))->(∃ own2,pwW w3 x own2 to (L'.filter (fun p=>p.2 != (ja8 L').2)))/\w3.heap[D]?=some (.cells #[iv (ja8 L').1,iv (ja8 L').2] 131 (0,0))):=fun w2 w3 O a b=>qex I.out a b
     have HDP:Hid (∀ w2,jff pwW wr w2 x own' to (L'.filter (fun p=>p.2 != (ja8 L').2))->w2.ownsRow w.heap.size 131 2 (.slice oa o.length oc) o.length (jdq o)/\w2.heap[D]?=some (.cells #[iv (ja8 L').1,iv (ja8 L').2] 131 (0,0))/\wr.heap.size<=w2.heap.size):=fun w2 a=>jte I.out a
     have hwr:=I.out.same.size
     have hnd:=I.out.D
     generalize hL2:L'.filter (fun p=>p.2 != (ja8 L').2)=L2 at HDR HTU HMI HDP hlen
     generalize ja8 L'=P at d0 d1 HDR HTU HMI HDP hto hL2
     obtain ⟨p0,p1⟩:=P
     simp only at d0 d1 HDR HTU HMI HDP hto
     clear HS I hdue ho hL2 I0
     go_wp2_with (first|(go_at_call 115;refine (HDR.out _ bL).mono ?_;rintro e w2 ⟨rfl,A⟩
                         obtain ⟨HO,hd2,hz2w⟩:=HDP.out _ A
                         obtain ⟨g0,g1⟩:=jje hd2
                         have hD2:D<w2.heap.size:=(blt hd2))
                       | (at_builtin;refine wpList_append_own_at _ rfl _ _ 129 rfl w.heap.size 131 i0 (.agg #[iv 0,iv 0]) 2 16 Tryz.underlying129 hi hz0 hz1 hz2 rfl (by decide) _ _ _ rfl (HO.alloc _) (aq w2.heap.size 0) 1 1 [iv p0,iv p1] rfl rfl ?c1 ?c2 ?c3 ?c4 ?c5 ?_))
     case c1=>exact qdl
     case c2=>intro u hu;simp at hu;rcases hu with rfl|rfl<;>rfl
     case c3=>unfold maxLen;omega
     case c4=>omega
     case c5=>simp;omega
     intro out' w3 hown3 hgrow _ hat
     obtain ⟨⟨own2,hp3⟩,hd3⟩:=HMI.out _ _ _ A hgrow
     have HF:Hid (Calls Tryz.prog 79 #[pt x 0] w3 fun e w'=>e=.returned (.tuple #[.agg #[iv (ja8 L2).1,iv (ja8 L2).2],.bool (jcf L2)])/\Below w3.heap.size w3 w'):=jhh hp3
     have HT2:Hid (∀ w4,Below w3.heap.size w3 w4->∃ o2 own'',o2.length=o.length+1/\advI w ((w4.setCell (aq D 0) (iv (ja8 L2).1)).setCell (aq D 1) (iv (ja8 L2).2)) x D own to out' L o2 L2 own''):=fun w4 b4=>HTU.out _ _ _ _ _ A hown3 hgrow (by simpa using hat) b4
     obtain ⟨oa',oc',rfl⟩:=jja hown3
     have hD3:D<w3.heap.size:=(blt hd3)
     have HD3:Hid (w3.heap[D]?=some (.cells #[iv p0,iv p1] 131 (0,0))):=hd3
     clear hown3 hgrow hat hp3 hd3 HMI HTU HDP A HO hd2 g0 g1 d0 d1 HDR
     generalize hB2:jcf L2=B2 at HF
     generalize hP2:ja8 L2=P2 at HF HT2
     obtain ⟨q0,q1⟩:=P2
     simp only at HF HT2
     go_wp2_with (go_at_call 79;refine HF.out.mono ?_;rintro e w4 ⟨rfl,b4⟩
                  have HT3:=HT2.out _ b4
                  have hd4:=(b4.block D hD3).trans HD3.out
                  obtain ⟨g0,g1⟩:=jje hd4
                  have gf0:=ja0 hd4 0
                  have gf1:=ja0 hd4 1
                  clear hd4)
     obtain ⟨o2,own'',hl2,hI⟩:=HT3
     exact ⟨⟨o2,L2,own'',hI,by rw [hB2]⟩,by simp [qgn];omega⟩
    ·have HS2:=HS.out (.inr (by omega))
     have hto':decide ((ja8 L').1<=to)=false:=by simpa using hto
     clear HS I hdue
     go_wp2
     go_ret2
     exact ⟨_,rfl,HS2⟩
theorem jhx {w:World} {x:Nat} {own:Nat->Prop} {now:Int} {L:List (Int × Int)} (to:Int) (h:pwW w x own now L) (hl:L.length * 16+16<=140737488351232) :
 Calls Tryz.prog 119 #[pt x 0,iv to] w fun e w'=>∃ out own',e=.returned (.tuple #[out,iv (qao now to)])/\w'.ownsRow w.heap.size 131 2 out (jhk now to L).length (jdq (jhk now to L)) ∧
  (qao now to≠0->out=.slice none 0 0)/\pwW w' x own' (jxb now to) (jtz now to L)/\Same own w w'/\(∀ k,own' k->own k\/w.heap.size<=k)/\(∀ k,out.ownBlock=some k->¬ own' k):=by
 by_cases ht:to<now
 ·have hpw:=h
  obtain ⟨ti,tt,h1,_⟩:=h
  refine (jst x now to w (jid h1) ht).mono ?_
  rintro e w' ⟨rfl,rfl⟩
  simp only [qao,jhk,jxb,jtz,if_pos ht]
  exact ⟨_,own,rfl,World.ownsRow_nil _ _ _ _,fun _=>rfl,hpw,⟨rfl,rfl,rfl,Nat.le_refl _,fun _ _ _=>rfl⟩,fun _ hk=>.inl hk,fun k hk=>by simp [Value.ownBlock] at hk⟩
 ·refine (jqg x now to w own L h ht hl).mono ?_
  rintro e w' ⟨out,rfl,D,own',I⟩
  simp only [qao,jhk,jxb,jtz,if_neg ht]
  exact ⟨out,own',rfl,I.told,fun hc=>absurd rfl hc,I.pw,I.same,I.fresh,fun k hk=>(I.no k hk).1⟩
theorem timersW:TimersAll pwW where
 lt:=jfj
 keep:=jcb
 advance:=jhx
 new:=jsd
 set:=qei
 unset:=jz0
 first:=fun h _=>(jhh h).mono (by rintro e w' ⟨rfl,hb⟩;exact ⟨rfl,jiv h hb⟩)
 size:=fun h _=>jy6 h
theorem jga {C:Array Value} {i:Nat} {v:Value} (h:C[i]?=some v):C.setIfInBounds i v=C:=by
 apply Array.ext_getElem?
 intro j
 rw [Array.getElem?_setIfInBounds]
 by_cases e:i=j
 ·subst e
  rw [if_pos rfl]
  obtain ⟨hi,_⟩:=Array.getElem?_eq_some_iff.1 h
  rw [if_pos hi,h]
 ·rw [if_neg e]
theorem jsz (x o:Nat) (C:Array Value) (T:TypeId) (hT:T≠211) (t:Tr) (s k1 k2 v u:Int) (w:World) (hx:w.heap[x]?=some (.cells C T (0,0))) (h0:C[o]?=some (.pointer t.addr)) (h1:C[o+1]?=some (iv s)) (ht:t.at w) (hs:srt t.toL) (hn:jb5 (k1,k2) t.toL=some u) :
 Calls Tryz.prog 112 #[pt x o,.agg #[iv k1,iv k2],iv v] w fun e w'=>e=.returned (.tuple #[])/\jbk w w' x o C T s t (jbl (k1,k2) v t.toL):=by
 have k0:w.cell? (aq x o)=some (.pointer t.addr):=by rw [Joins.cell_of_block hx];exact h0
 have hxw:x<w.heap.size:=(blt hx)
 have HG:Hid (∀ W,Below w.heap.size w W->Calls Tryz.prog 95 #[pt x o,.agg #[iv k1,iv k2]] W fun e w'=>e=.returned (.tuple #[iv u,.bool true])/\Below W.heap.size W w'):=by
  intro W hW
  have:=jd3 x o t k1 k2 W ((hW.cell (p:=(aq x o)) hxw).trans k0) (t.at_below ht hW) hs
  rw [hn] at this
  exact this
 have HX:Hid (w.heap[x]?=some (.cells C T (0,0))/\t.at w/\C.setIfInBounds (o+1) (iv s)=C):=⟨hx,ht,jga h1⟩
 clear hx h0 h1 ht hn
 go_enter Tryz.func112,Tryz.ntmps112
 go_wp2_with fail
 refine (HG.out _ bL).mono ?_
 rintro e w1 ⟨rfl,b1⟩
 have hb1:Below w.heap.size w w1:=Below.trans (show Below w.heap.size w _ from bL) (b1.mono (by simp))
 have hx1:w1.heap[x]?=some (.cells C T (0,0)):=(hb1.block x hxw).trans HX.out.1
 have hk1:w1.heap[w.heap.size]?=some (.cells #[iv k1,iv k2] 178 (0,0)):=(b1.block _ (by simp)).trans (heap_alloc_new _ _)
 have c0:=(hb1.cell (p:=(aq x o)) hxw).trans k0
 have f0:=ja0 hx1 o
 obtain ⟨q0,q1⟩:=je0 hk1
 have hne:w.heap.size≠x:=by omega
 have ht0:t.at w1:=t.at_below HX.out.2.1 hb1
 have hxs:x<w1.heap.size:=(blt hx1)
 have HW:Hid (jcu 142 #[.pointer t.addr,.agg #[iv k1,iv k2,iv v]] w1 w1 (fun n=>t.has n) (jbl (k1,k2) v t.toL)) :=
  jd9 (Below.refl _ _) (fun W hW=>(jl6 k1 k2 v t W (t.at_below ht0 hW) hs).mono (by rintro e w' ⟨t',rfl,h⟩;exact ⟨t',rfl,je3 h (fun n hn=>.inl hn)⟩)) rfl
 have HQ:Hid (∀ w2 t',mk w1 w2 (fun n=>t.has n) (jbl (k1,k2) v t.toL) t'->jbk w (w2.setCell (aq x o) (.pointer t'.addr)) x o C T s t (jbl (k1,k2) v t.toL)/\w2.frozen? (aq x o)=false/\w2.cell? (aq x o)=some (.pointer t.addr)):=by
  rintro w2 t' ⟨m1,m2,m3,m4⟩
  have hx2:=(m3.block x hxs).trans hx1
  refine ⟨⟨t',by rw [HX.out.2.2];exact Joins.block_setCell hx2 _,t'.at_set m1 hx2 hT,m2,?_,fun n hn=>(m4 n hn).imp id (Nat.le_trans hb1.size)⟩,ja0 hx2 o,?_⟩
  ·refine Same.trans (Same.of_below (own:=fun b=>b=x) hb1) (o2:=fun b=>b=x) ⟨m3.os,m3.tape,m3.output,by simpa [World.setCell] using m3.size,fun k hk hne=>(Below.heap_setCell _ (aq x o) _ _ hne).trans (m3.block k hk)⟩ (fun k _ e=>e.elim id id)
  ·rw [m3.cell (p:=(aq x o)) hxs]
   exact c0
 clear k0 b1 ht0 hxs HG hs
 go_wp2_with fail
 go_region_with (first|(go_at_call 142;refine (HW.out _ bL).mono ?_;rintro e w2 ⟨t',rfl,m,b⟩;obtain ⟨HA,fz,cz⟩:=HQ.out _ _ m))
 all_goals (go_end0;exact ⟨rfl,HA⟩)
end Go.Proofs.YtfhncfghblkgeaaGreat
