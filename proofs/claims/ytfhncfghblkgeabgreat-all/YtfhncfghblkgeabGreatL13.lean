import Derived.Test.YtfhncfghblkgeabGreatL12
set_option maxRecDepth 100000
set_option maxHeartbeats 2000000
namespace Go.Proofs.YtfhncfghblkgeabGreat
open Go.RowKit
theorem YA {w:World} {x:Nat} {own:Nat->Prop} {now:Int} {L:List (Int × Int)} (to:Int) (h:QJ w x own now L):QJ (w.sc x 0 (iv to)) x own to L:=by
 obtain ⟨ti,tt,h1,h2,h3,h4,h5,h6,h7⟩:=h
 exact ⟨ti,tt,by rw [uH h1];rfl,⟨ti.at_set h2.1 h1 vO,tt.at_set h2.2 h1 vO⟩,h3,h4,h5,h6,fun k hk=>by simpa [World.setCell] using h7 k hk⟩
theorem Cm {w:World} {x:Nat} {own:Nat->Prop} {now:Int} {L:List (Int × Int)} (O:Obj) (h:QJ w x own now L):QJ (w.alloc O) x own now L :=
 zR h vS (fun k hk=>uE w O k (dI h k hk))
theorem Uy {w w':World} {x:Nat} {own:Nat->Prop} {now:Int} {L:List (Int × Int)} (h:QJ w x own now L) (hb:Bl w w'):QJ w' x own now L :=
 zR h hb.size (fun k hk=>hb.block k (dI h k hk))
theorem We {w wr w2 w3:World} {x D:Nat} {own own':Nat->Prop} {to:Int} {out:Value} {L o L' L2:List (Int × Int)} {O:Obj} (I:advI w wr x D own to out L o L' own') (hp:oK QJ wr w2 x own' to L2) (hg:(w2.alloc O).grownBy w3 out.ownBlock) :
 (∃ own2,QJ w3 x own2 to L2)/\w3.heap[D]?=some (.cells #[iv (qN L').1,iv (qN L').2] 123):=by
 obtain ⟨own2,p2,s2,f2⟩:=hp
 have lt2:=dI p2
 have ko:=uJ I.told
 have hDr:D<wr.heap.size:=(blt I.due)
 have z2:=s2.size
 have z3:w2.heap.size+1<=w3.heap.size:=by have:=hg.size;simpa using this
 have k3:∀ k,k<w2.heap.size->out.ownBlock≠some k->w3.heap[k]?=w2.heap[k]?:=fun k hk hn=>(hg.block k uT (fun e=>hn e.symm)).trans (uE w2 O k hk)
 have no2:∀ k,out.ownBlock=some k->¬ own2 k:=fun k hk e=>(f2 k e).elim (I.no k hk).1 (fun h=>by have:=(ko k hk).2;omega)
 exact ⟨⟨own2,zR p2 uO (fun k hk=>k3 k (lt2 k hk) (fun e=>no2 k e hk))⟩,(k3 D uO (fun e=>(I.no D e).2 rfl)).trans ((s2.block D hDr I.nD).trans I.due)⟩
theorem Ky {w wr w2:World} {x D:Nat} {own own':Nat->Prop} {to:Int} {out:Value} {L o L' L2:List (Int × Int)} (I:advI w wr x D own to out L o L' own') (hp:oK QJ wr w2 x own' to L2) :
 w2.ownsRow w.heap.size 123 2 out o.length (qV o)/\w2.heap[D]?=some (.cells #[iv (qN L').1,iv (qN L').2] 123)/\wr.heap.size<=w2.heap.size:=by
 obtain ⟨own2,p2,s2,f2⟩:=hp
 have hDr:D<wr.heap.size:=(blt I.due)
 exact ⟨qG I.told (fun k hk=>s2.block k (uJ I.told k hk).2 (I.no k hk).1),(s2.block D hDr I.nD).trans I.due,s2.size⟩
theorem Ks (x:Nat) (now to:Int) (w:World) (h0:w.cell? (aq x 0)=some (iv now)) (ht:to<now) :
 Ca 101 #[pt x 0,iv to] w fun e w'=>e=.returned (.tuple #[.slice none 0 0,iv 3])/\w=w':=by
 go_enter Tryz.func101,Tryz.ntmps101
 go_wp2
 go_ret2
 exact ⟨rfl,rfl⟩
theorem Kg (x:Nat) (now to:Int) (w:World) (own:Nat->Prop) (L:List (Int × Int)) (h:QJ w x own now L) (ht:¬ to<now) (hl:L.length * 16+16<=140737488351232) :
 Ca 101 #[pt x 0,iv to] w fun e w'=>∃ out,e=.returned (.tuple #[out,iv 0])/\∃ D own',advI w w' x D own to out L (ZV to L).1 (ZV to L).2 own':=by
 obtain ⟨i0,hi,hz0,hz1,hz2⟩:=info_parts Tryz.infoDue
 have HP:Hid (QJ w x own now L):=h
 obtain ⟨ti,tt,h1,_⟩:=h
 have hxw:x<w.heap.size:=(blt h1)
 have k0:=rB h1
 have kf:=qA h1 0
 have ht':decide (to<now)=false:=by simpa using ht
 have HF0:Hid (Ca 71 #[pt x 0] ((w.sc x 0 (iv to)).alloc (.cells #[] 123)) fun e w'=>e=.returned (.tuple #[.agg #[iv (qN L).1,iv (qN L).2],.bool (zB L)])/\Below (w.heap.size+1) ((w.sc x 0 (iv to)).alloc (.cells #[] 123)) w'):=by
  have:=mB (Cm (.cells #[] 123) (YA to HP.out))
  have e:((w.sc x 0 (iv to)).alloc (.cells #[] 123)).heap.size=w.heap.size+1:=by simp [World.setCell]
  rw [e] at this
  exact this
 clear h1
 go_enter Tryz.func101,Tryz.ntmps101
 go_wp2_with fail
 refine HF0.out.mono ?_
 rintro e w1 ⟨rfl,b1⟩
 have I0:=Aa HP.out b1
 have hD:w.heap.size+1<=w1.heap.size:=by have:=b1.size;simpa [World.setCell] using this
 clear k0 kf b1
 go_wp2_with fail
 go_loopw [6,8] (fun out sm wr=>∃ o L' own',Hid (advI w wr x w1.heap.size own to out L o L' own')/\sm=.bool (zB L')) (fun out _ _=>L.length - lenOf out)
 case atStart=>exact ⟨[],L,own,I0,rfl⟩
 case round =>
  obtain ⟨o,L',own',I,rfl⟩:=hrel
  generalize hDD:w1.heap.size=D at *
  have hdue:=I.out.due
  have hDr:D<wr.heap.size:=(blt hdue)
  obtain ⟨d0,d1⟩:=jH hdue
  obtain ⟨oa,oc,rfl⟩:=yE I.out.told
  have HS:Hid (zB L'=false\/to<(qN L').1->∃ D own',advI w wr x D own to (.slice oa o.length oc) L (ZV to L).1 (ZV to L).2 own'):=by
   intro hc
   have he:=Pz hc
   have hs:=I.out.spec
   rw [he] at hs
   simp only [List.append_nil] at hs
   exact ⟨D,own',by rw [← hs.1,← hs.2];exact I.out⟩
  cases hB:zB L' with
  | false =>
    have HS2:=HS.out (.inl hB)
    clear HS I hdue
    go_wp2
    go_ret2
    exact ⟨_,rfl,HS2⟩
  | true =>
    by_cases hto:(qN L').1<=to
    ·have ho:xB L':=by obtain ⟨_,_,_,_,_,_,h,_⟩:=I.out.pw;exact h
     have hlen:=bI ho (Yt hB)
     have hlen2:=I.out.len
     have HDR:Hid (∀ W,Below wr.heap.size wr W->Ca 114 #[pt x 0,iv (qN L').2,iv (qN L').1] W fun e w'=>e=.returned (.tuple #[])/\oK QJ wr w' x own' to (L'.filter (fun p=>p.2 != (qN L').2))) :=
      fun W hb=>(Oi _ _ (Uy I.out.pw hb) (Yt hB) uO).mono (by rintro e w' ⟨rfl,A⟩;exact ⟨rfl,wB A hb⟩)
     have HTU:Hid (∀ w2 w3 w4 out' O,oK QJ wr w2 x own' to (L'.filter (fun p=>p.2 != (qN L').2))->w3.ownsRow w.heap.size 123 2 out' (o.length+1) (qV o++[iv (qN L').1,iv (qN L').2])->(w2.alloc O).grownBy w3 (Value.ownBlock (.slice oa o.length oc))->(out'.ownBlock=Value.ownBlock (.slice oa o.length oc)\/out'.ownBlock=some (w2.alloc O).heap.size)->Below w3.heap.size w3 w4 →
      ∃ o2 own'',o2.length=o.length+1/\advI w ((w4.sc D 0 (iv (qN (L'.filter (fun p=>p.2 != (qN L').2))).1)).sc D 1 (iv (qN (L'.filter (fun p=>p.2 != (qN L').2))).2)) x D own to out' L o2 (L'.filter (fun p=>p.2 != (qN L').2)) own'') :=
      fun w2 w3 w4 out' O a b c d e=>by
       obtain ⟨own'',hI⟩:=Cs I.out hB hto a b c d e
       exact ⟨_,own'',by simp,hI⟩
     have HMI:Hid (∀ w2 w3 O,oK QJ wr w2 x own' to (L'.filter (fun p=>p.2 != (qN L').2))->(w2.alloc O).grownBy w3 (Value.ownBlock (.slice oa o.length oc))->(∃ own2,QJ w3 x own2 to (L'.filter (fun p=>p.2 != (qN L').2)))/\w3.heap[D]?=some (.cells #[iv (qN L').1,iv (qN L').2] 123)):=fun w2 w3 O a b=>We I.out a b
     have HDP:Hid (∀ w2,oK QJ wr w2 x own' to (L'.filter (fun p=>p.2 != (qN L').2))->w2.ownsRow w.heap.size 123 2 (.slice oa o.length oc) o.length (qV o)/\w2.heap[D]?=some (.cells #[iv (qN L').1,iv (qN L').2] 123)/\wr.heap.size<=w2.heap.size):=fun w2 a=>Ky I.out a
     have hwr:=I.out.same.size
     have hnd:=I.out.D
     generalize hL2:L'.filter (fun p=>p.2 != (qN L').2)=L2 at HDR HTU HMI HDP hlen
     generalize qN L'=P at d0 d1 HDR HTU HMI HDP hto hL2
     obtain ⟨p0,p1⟩:=P
     simp only at d0 d1 HDR HTU HMI HDP hto
     clear HS I hdue ho hL2 I0
     go_wp2_with (first|(go_at_call 114;refine (HDR.out _ bL).mono ?_;rintro e w2 ⟨rfl,A⟩
                         obtain ⟨HO,hd2,hz2w⟩:=HDP.out _ A
                         obtain ⟨g0,g1⟩:=jH hd2
                         have hD2:D<w2.heap.size:=(blt hd2))
                       | (at_builtin;refine wpList_append_own_at _ rfl _ _ 121 rfl w.heap.size 123 i0 (.agg #[iv 0,iv 0]) 2 16 Tryz.underlying121 hi hz0 hz1 hz2 rfl vO _ _ _ rfl (HO.alloc _) (aq w2.heap.size 0) 1 1 [iv p0,iv p1] rfl rfl ?c1 ?c2 ?c3 ?c4 ?c5 ?_))
     case c1=>exact wY
     case c2=>intro u hu;simp at hu;rcases hu with rfl|rfl<;>rfl
     case c3=>unfold maxLen;omega
     case c4=>omega
     case c5=>simp;omega
     intro out' w3 hown3 hgrow _ hat
     obtain ⟨⟨own2,hp3⟩,hd3⟩:=HMI.out _ _ _ A hgrow
     have HF:Hid (Ca 71 #[pt x 0] w3 fun e w'=>e=.returned (.tuple #[.agg #[iv (qN L2).1,iv (qN L2).2],.bool (zB L2)])/\Below w3.heap.size w3 w'):=mB hp3
     have HT2:Hid (∀ w4,Below w3.heap.size w3 w4->∃ o2 own'',o2.length=o.length+1/\advI w ((w4.sc D 0 (iv (qN L2).1)).sc D 1 (iv (qN L2).2)) x D own to out' L o2 L2 own''):=fun w4 b4=>HTU.out _ _ _ _ _ A hown3 hgrow (by simpa using hat) b4
     obtain ⟨oa',oc',rfl⟩:=yE hown3
     have hD3:D<w3.heap.size:=(blt hd3)
     have HD3:Hid (w3.heap[D]?=some (.cells #[iv p0,iv p1] 123)):=hd3
     clear hown3 hgrow hat hp3 hd3 HMI HTU HDP A HO hd2 g0 g1 d0 d1 HDR
     generalize hB2:zB L2=B2 at HF
     generalize hP2:qN L2=P2 at HF HT2
     obtain ⟨q0,q1⟩:=P2
     simp only at HF HT2
     go_wp2_with (go_at_call 71;refine HF.out.mono ?_;rintro e w4 ⟨rfl,b4⟩
                  have HT3:=HT2.out _ b4
                  have hd4:=(b4.block D hD3).trans HD3.out
                  obtain ⟨g0,g1⟩:=jH hd4
                  have gf0:=qA hd4 0
                  have gf1:=qA hd4 1
                  clear hd4)
     obtain ⟨o2,own'',hl2,hI⟩:=HT3
     exact ⟨⟨o2,L2,own'',hI,by rw [hB2]⟩,by simp [lenOf];omega⟩
    ·have HS2:=HS.out (.inr uO)
     have hto':decide ((qN L').1<=to)=false:=by simpa using hto
     clear HS I hdue
     go_wp2
     go_ret2
     exact ⟨_,rfl,HS2⟩
theorem nM {w:World} {x:Nat} {own:Nat->Prop} {now:Int} {L:List (Int × Int)} (to:Int) (h:QJ w x own now L) (hl:L.length * 16+16<=140737488351232) :
 Ca 101 #[pt x 0,iv to] w fun e w'=>∃ out own',e=.returned (.tuple #[out,iv (Zw now to)])/\w'.ownsRow w.heap.size 123 2 out (fE now to L).length (qV (fE now to L)) ∧
  (Zw now to≠0->out=.slice none 0 0)/\QJ w' x own' (aT now to) (mU now to L)/\Same own w w'/\(∀ k,own' k->own k\/w.heap.size<=k)/\(∀ k,out.ownBlock=some k->¬ own' k):=by
 by_cases ht:to<now
 ·have hpw:=h
  obtain ⟨ti,tt,h1,_⟩:=h
  refine (Ks x now to w (rB h1) ht).mono ?_
  rintro e w' ⟨rfl,rfl⟩
  simp only [Zw,fE,aT,mU,uQ ht]
  exact ⟨_,own,rfl,World.ownsRow_nil _ _ _ _,fun _=>rfl,hpw,⟨rfl,rfl,rfl,uA _,fun _ _ _=>rfl⟩,fun _ hk=>.inl hk,fun k hk=>by simp [Value.ownBlock] at hk⟩
 ·refine (Kg x now to w own L h ht hl).mono ?_
  rintro e w' ⟨out,rfl,D,own',I⟩
  simp only [Zw,fE,aT,mU,uP ht]
  exact ⟨out,own',rfl,I.told,fun hc=>absurd rfl hc,I.pw,I.same,I.fresh,fun k hk=>(I.no k hk).1⟩
theorem timersW:TimersAll QJ where
 lt:=dI
 keep:=zR
 advance:=nM
 new:=Ur
 set:=Sa
 unset:=Nx
 first:=fun h _=>(mB h).mono (by rintro e w' ⟨rfl,hb⟩;exact ⟨rfl,tI h hb⟩)
 size:=fun h _=>Tq h
theorem gM {C:Array Value} {i:Nat} {v:Value} (h:C[i]?=some v):C.setIfInBounds i v=C:=by
 apply Array.ext_getElem?
 intro j
 rw [vE]
 by_cases e:i=j
 ·subst e
  rw [uQ rfl]
  obtain ⟨hi,_⟩:=Array.getElem?_eq_some_iff.1 h
  rw [uQ hi,h]
 ·rw [uP e]
theorem Vq (x o:Nat) (C:Array Value) (T:TypeId) (hT:T≠178) (t:Tr) (s k1 k2 v u:Int) (w:World) (hx:w.heap[x]?=some (.cells C T)) (h0:C[o]?=some (.pointer t.addr)) (h1:C[o+1]?=some (iv s)) (ht:t.at w) (hs:srt t.toL) (hn:yO (k1,k2) t.toL=some u) :
 Ca 99 #[pt x o,.agg #[iv k1,iv k2],iv v] w fun e w'=>e=.returned (.tuple #[])/\zC w w' x o C T s t (zD (k1,k2) v t.toL):=by
 have k0:w.cell? (aq x o)=some (.pointer t.addr):=by rw [uI hx];exact h0
 have hxw:x<w.heap.size:=(blt hx)
 have HG:Hid (∀ W,Below w.heap.size w W->Ca 62 #[pt x o,.agg #[iv k1,iv k2]] W fun e w'=>e=.returned (.tuple #[iv u,.bool true])/\Below W.heap.size W w'):=by
  intro W hW
  have:=xE x o t k1 k2 W ((hW.cell (p:=(aq x o)) hxw).trans k0) (t.at_below ht hW) hs
  rw [hn] at this
  exact this
 have HX:Hid (w.heap[x]?=some (.cells C T)/\t.at w/\C.setIfInBounds (o+1) (iv s)=C):=⟨hx,ht,gM h1⟩
 clear hx h0 h1 ht hn
 go_enter Tryz.func99,Tryz.ntmps99
 go_wp2_with fail
 refine (HG.out _ bL).mono ?_
 rintro e w1 ⟨rfl,b1⟩
 have hb1:Bl w w1:=uL (show Below w.heap.size w _ from bL) (b1.mono vS)
 have hx1:w1.heap[x]?=some (.cells C T):=(hb1.block x hxw).trans HX.out.1
 have hk1:w1.heap[w.heap.size]?=some (.cells #[iv k1,iv k2] 136):=(b1.block _ vS).trans (uF _ _)
 have c0:=(hb1.cell (p:=(aq x o)) hxw).trans k0
 have f0:=qA hx1 o
 obtain ⟨q0,q1⟩:=kP hk1
 have hne:w.heap.size≠x:=uO
 have ht0:t.at w1:=t.at_below HX.out.2.1 hb1
 have hxs:x<w1.heap.size:=(blt hx1)
 have HW:Hid (jW 131 #[.pointer t.addr,.agg #[iv k1,iv k2,iv v]] w1 w1 (fun n=>t.has n) (zD (k1,k2) v t.toL)) :=
  xN (uM _ _) (fun W hW=>(cV k1 k2 v t W (t.at_below ht0 hW) hs).mono (by rintro e w' ⟨t',rfl,h⟩;exact ⟨t',rfl,vF h (fun n hn=>.inl hn)⟩)) rfl
 have HQ:Hid (∀ w2 t',mk w1 w2 (fun n=>t.has n) (zD (k1,k2) v t.toL) t'->zC w (w2.sc x o (.pointer t'.addr)) x o C T s t (zD (k1,k2) v t.toL)/\w2.frozen? (aq x o)=false/\w2.cell? (aq x o)=some (.pointer t.addr)):=by
  rintro w2 t' ⟨m1,m2,m3,m4⟩
  have hx2:=(m3.block x hxs).trans hx1
  refine ⟨⟨t',by rw [HX.out.2.2];exact uH hx2 _,t'.at_set m1 hx2 hT,m2,?_,fun n hn=>(m4 n hn).imp id (uX hb1.size)⟩,qA hx2 o,?_⟩
  ·refine Same.trans (Same.of_below (own:=fun b=>b=x) hb1) (o2:=fun b=>b=x) ⟨m3.os,m3.tape,m3.output,by simpa [World.setCell] using m3.size,fun k hk hne=>(uG _ (aq x o) _ _ hne).trans (m3.block k hk)⟩ (fun k _ e=>e.elim id id)
  ·rw [m3.cell (p:=(aq x o)) hxs]
   exact c0
 clear k0 b1 ht0 hxs HG hs
 go_wp2_with fail
 go_region_with (first|(go_at_call 131;refine (HW.out _ bL).mono ?_;rintro e w2 ⟨t',rfl,m,b⟩;obtain ⟨HA,fz,cz⟩:=HQ.out _ _ m))
 all_goals (go_end0;exact ⟨rfl,HA⟩)
