import Derived.Test.YtfhncfghblkgeabGreatL07
set_option maxRecDepth 100000
set_option maxHeartbeats 2000000
namespace Go.Proofs.YtfhncfghblkgeabGreat
open Go.RowKit
theorem Tryz.infoDues:(Tryz.prog.info? 121).map (fun i=>(i.zero,i.size,i.bytes))=some (some (.slice none 0 0),1,24):=by kernel_rfl
theorem Cq {l:List Value} {j:Nat} (h:j * 2+1<l.length):∃ y0 y1,l.drop (j * 2)=y0 :: y1 :: l.drop ((j+1) * 2):=by
 refine ⟨l[j * 2],l[j * 2+1],?_⟩
 rw [List.drop_eq_getElem_cons uO,List.drop_eq_getElem_cons uO,show (j+1) * 2=j * 2+1+1 by omega]
theorem Kc {PW:World->Nat->(Nat->Prop)->Int->List (Int × Int)->Prop} (T:Timers PW) (P B R x:Nat) (own:Nat->Prop) (c0 c1 c2 c3 vd v:Value) (Ld:List Value) (now to:Int) (L:List (Int × Int)) (w:World)
 (hw:w.heap[P]?=some (.cells #[c0,c1,c2,c3,vd] 81)) (hd:w.ownsRow (P+1) 121 1 vd Ld.length Ld) (hp:PW w x own now L) (hr:fC w B R now v L) (hB:B<=w.heap.size) (hl:L.length * 16+16<=140737488351232) (hld:Ld.length * 64<=140737488351232)
 (n1:¬ own P) (n2:∀ k,vd.ownBlock=some k->¬ own k) (n3:¬ own R) (n4:∀ k,v.ownBlock=some k->¬ own k) :
 Ca 85 #[pt P 0,.agg #[pt x 0,pt R 0],iv to] w fun e w'=>e=.returned (.bool true)/\fI PW w w' P B R x own c0 c1 c2 c3 vd v Ld (aT now to) (mU now to L):=by
 have hP:P<w.heap.size:=(blt hw)
 have hR:R<w.heap.size:=(blt hr.1)
 have HIN:Hid (w.heap[P]?=some (.cells #[c0,c1,c2,c3,vd] 81)/\w.ownsRow (P+1) 121 1 vd Ld.length Ld/\PW w x own now L/\fC w B R now v L/\¬ own P/\(∀ k,vd.ownBlock=some k->¬ own k)/\¬ own R/\(∀ k,v.ownBlock=some k->¬ own k)):=⟨hw,hd,hp,hr,n1,n2,n3,n4⟩
 clear hw hd hp hr n1 n2 n3 n4
 go_enter Tryz.func85,Tryz.ntmps85
 go_wp2_with fail
 obtain ⟨hw,hd,hp,hr,n1,n2,n3,n4⟩:=HIN.out
 refine (T.advance to (T.keep hp vS (fun k hk=>uE w _ k (T.lt hp k hk))) hl).mono ?_
 rintro e w1 ⟨out1,own1,rfl,ho1,hnil,hp1,hs1,hf1,hd1⟩
 have z1:w.heap.size+1<=w1.heap.size:=by have:=hs1.size;simpa using this
 have t1:w1.cell? (aq w.heap.size 1)=some (pt R 0):=(hs1.cell vS (fun h=>by have:=T.lt hp _ h;omega)).trans uU
 have hr1:fC w1 B R now v L:=⟨(hs1.block R uT n3).trans ((uE w _ R hR).trans hr.1),qG hr.2 (fun k hk=>(hs1.block k (by have:=(uJ hr.2 k hk).2;simp;omega) (n4 k hk)).trans (uE w _ k (uJ hr.2 k hk).2))⟩
 have HB:Hid (∀ w2 out2,mR w1 w2 B R v (aT now to) out2 (fE now to L) (mU now to L)->∃ v',Both PW w w2 P B R x own c0 c1 c2 c3 vd v Ld (aT now to) (mU now to L) (fE now to L) out1 out2 own1 v'):=fun w2 out2 hA=>ZR T hw hd hr n1 n2 n3 n4 (by simpa using ho1) hp1 hs1 (by simpa using hf1) hd1 hA
 have HN:Hid (Zw now to≠0->out1=.slice none 0 0):=hnil
 have HRA:Hid (Ca 117 #[pt R 0,iv to] w1 fun e w'=>∃ out,e=.returned (.tuple #[out,iv (Zw now to)])/\mR w1 w' B R v (aT now to) out (fE now to L) (mU now to L)):=Xn B R now v L to w1 hr1 uO hl
 clear hw hd hp hr n1 n2 n3 n4 ho1 hnil hp1 hs1 hf1 hd1 hr1
 go_wp2_with fail
 refine HRA.out.mono ?_
 rintro e w2 ⟨out2,rfl,hA⟩
 obtain ⟨v',hb⟩:=HB.out w2 out2 hA
 have HBO:Hid (Both PW w w2 P B R x own c0 c1 c2 c3 vd v Ld (aT now to) (mU now to L) (fE now to L) out1 out2 own1 v'):=hb
 clear HB HRA hA hb t1
 generalize fE now to L=o at HBO
 generalize Zw now to=er at HN
 obtain ⟨a1,m1,rfl⟩:=yE HBO.out.l1
 obtain ⟨a2,m2,rfl⟩:=yE HBO.out.l2
 have hP2:=HBO.out.world
 obtain ⟨_,_,_,_,p4⟩:=yD hP2
 have pf:=qA hP2 4
 have hown2:=HBO.out.dues
 obtain ⟨va,vc,rfl⟩:=yE hown2
 have hP2w:P<w2.heap.size:=(blt hP2)
 have N1:Hid (¬ own P):=HIN.out.2.2.2.2.1
 have N2:Hid (∀ k,Value.ownBlock (.slice va Ld.length vc)=some k->k<w.heap.size/\¬ own k):=fun k hk=>⟨(uJ HIN.out.2.1 k hk).2,HIN.out.2.2.2.2.2.1 k hk⟩
 have i1:=info_parts Tryz.infoDues
 obtain ⟨i0,hi,hz0,hz1,hz2⟩:=i1
 clear hP2
 rcases HBO.out.l1.2 with ⟨hv1,h0⟩|⟨g,m,cur,hv1,hg,hh,hom,hmm,hcs,hct⟩
 ·simp at hv1
  obtain ⟨rfl,rfl,rfl⟩:=hv1
  have hq:∀ w',(binOp .eql 121 (.slice none 0 0) (.slice none 0 0)).run Tryz.prog w'=.ok (.bool true) w':=fun w'=>Lib.run_eql_slice_nil w' 121 123 none 0 0 0 0 Tryz.underlying121
  simp only [List.length_nil]
  go_wp2_with fail
  go_loopw [11,12] (fun ok i wr=>ok=.bool true/\i=iv 0/\wr=w2) (fun _ _ _=>0)
  case atStart=>exact ⟨rfl,rfl,rfl⟩
  case round =>
   obtain ⟨rfl,rfl,rfl⟩:=hrel
   go_wp2_with fail
   go_loopw [14] (fun i w2=>i=iv 0/\w2=wr) (fun _ _=>0)
   case atStart=>exact ⟨rfl,rfl⟩
   case round =>
    obtain ⟨rfl,rfl⟩:=hrel
    go_wp2_with (at_builtin;refine wpList_append_own_at _ rfl _ _ 79 rfl (P+1) 121 i0 (.slice none 0 0) 1 24 Tryz.underlying79 hi hz0 hz1 hz2 rfl vO _ _ _ rfl (hown2.alloc _) (aq wr.heap.size 0) 1 1 [.slice none 0 0] rfl rfl ?c1 ?c2 ?c3 ?c4 ?c5 ?_)
    case c1=>exact cell_one_new _ _ _
    case c2=>intro u hu;simp at hu;subst hu;rfl
    case c3=>unfold maxLen;omega
    case c4=>omega
    case c5=>simp;omega
    intro vd' w3 hown3 hgrow _ hat
    have hPn:some P≠Value.ownBlock (.slice va Ld.length vc):=fun e=>by have:=(uJ hown2 P e.symm).1;omega
    have hP3:w3.heap[P]?=some (.cells #[c0,c1,c2,c3,.slice va Ld.length vc] 81):=(hgrow.block P uT hPn).trans ((uE _ _ _ uO).trans HBO.out.world)
    obtain ⟨_,_,_,_,p4'⟩:=yD hP3
    have pf':=qA hP3 4
    have HA:Hid (fI PW w (w3.sc P 4 vd') P B R x own c0 c1 c2 c3 (.slice va Ld.length vc) v Ld (aT now to) (mU now to L)):=Uu T HBO.out hP N1.out N2.out (World.grownBy.refl _ _) (.inl rfl) rfl hown3 hgrow (by simpa using hat)
    obtain ⟨g3,cap3,rfl⟩:∃ g3 cap3,vd'=.slice (some (aq g3 0)) (Ld.length+1) cap3:=by
     rcases hown3.2 with ⟨_,h0⟩|⟨g,cap,cur,hv,_⟩
     ·omega
     ·exact ⟨_,_,hv⟩
    clear hown3 hgrow hP3 hat
    go_wp2
    go_ret
    exact ⟨rfl,HA.out⟩
 ·simp at hv1
  obtain ⟨rfl,rfl⟩:=hv1
  have he:er=0:=by
   by_cases he:er=0
   ·exact he
   ·have:=HN.out he
    simp at this
  subst he
  have hq:∀ w',(binOp .eql 121 (.slice (some (aq g 0)) o.length m1) (.slice none 0 0)).run Tryz.prog w'=.ok (.bool false) w':=fun w'=>Lib.run_eql_slice_nil w' 121 123 (some (aq g 0)) o.length m1 0 0 Tryz.underlying121
  have hgw2:g<w2.heap.size:=(blt hh)
  have hmm':m1<=9223372036854775807:=by unfold maxLen at hmm;omega
  obtain ⟨a1',c1',hv1',hc1⟩:=xX HBO.out.l1
  obtain ⟨a2',c2',hv2',hc2⟩:=xX HBO.out.l2
  simp at hv1' hv2'
  obtain ⟨rfl,rfl⟩:=hv1'
  obtain ⟨rfl,rfl⟩:=hv2'
  have HC1:Hid (0<o.length->∃ g',some ((aq g 0):Addr)=some (aq g' 0)/\g'<w2.heap.size/\∀ i,i<o.length->w2.cell? (aq g' (i * 2))=some (iv (o.getD i (0,0)).1)/\w2.cell? (aq g' (i * 2+1))=some (iv (o.getD i (0,0)).2)):=hc1
  have HC2:Hid (0<o.length->∃ g',a2=some (aq g' 0)/\g'<w2.heap.size/\∀ i,i<o.length->w2.cell? (aq g' (i * 2))=some (iv (o.getD i (0,0)).1)/\w2.cell? (aq g' (i * 2+1))=some (iv (o.getD i (0,0)).2)):=hc2
  have HH:Hid (w2.heap[g]?=some (.cells cur 123)):=hh
  have HX:Hid (m1<=maxLen/\cur.size=m1 * 2):=⟨hmm,hcs⟩
  have HO2:Hid (w2.ownsRow (P+1) 121 1 (.slice va Ld.length vc) Ld.length Ld):=hown2
  have hpg:P<g:=uO
  have hol:(o.length:Int)<=9223372036854775807:=uO
  clear hc1 hc2 hh hct hcs hmm hown2
  go_wp2_with fail
  go_loopw [11,12] (fun ok i wr=>∃ j:Nat,j<=o.length/\ok=.bool true/\i=iv j/\Below w2.heap.size w2 wr) (fun _ i _=>o.length - (intOf i).toNat)
  case atStart=>exact ⟨0,Nat.zero_le _,rfl,rfl,uM _ _⟩
  case round =>
   obtain ⟨j,hj,rfl,rfl,hbel⟩:=hrel
   by_cases hlt:j<o.length
   ·obtain ⟨g1,hg1,_,hcell1⟩:=HC1.out uO
    simp at hg1
    subst hg1
    obtain ⟨g2,rfl,hg2w,hcell2⟩:=HC2.out uO
    have e0:=(hbel.cell (p:=(aq g (j * 2))) hgw2).trans (hcell1 j hlt).1
    have e1:=(hbel.cell (p:=(aq g (j * 2+1))) hgw2).trans (hcell1 j hlt).2
    have f0:=(hbel.cell (p:=(aq g2 (j * 2))) hg2w).trans (hcell2 j hlt).1
    have f1:=(hbel.cell (p:=(aq g2 (j * 2+1))) hg2w).trans (hcell2 j hlt).2
    generalize o.getD j (0,0)=p at e0 e1 f0 f1
    obtain ⟨p0,p1⟩:=p
    simp only at e0 e1 f0 f1
    clear hcell1 hcell2 p4 pf
    go_wp2
    go_quiet (fail)
    go_wp2
    go_roundw
    case rel=>exact ⟨j+1,uO,by simp,vN,qY hbel⟩
    case measure=>simp [intOf];omega
   ·have hje:j=o.length:=uO
    subst hje
    have HM0:Hid (wr.heap[g]?=some (.cells cur 123)):=(hbel.block g hgw2).trans HH.out
    have HMK:Hid (∀ w':World,Ca 56 #[iv Ld.length] w' fun e w3=>e=.returned (.agg #[iv (ZZ Ld.length),iv (ZZ Ld.length)])/\Below w'.heap.size w' w3):=fun w'=>iJ Ld.length w' uO
    have HG0:Hid (w2.grownBy wr (some g)):=⟨hbel.os,hbel.tape,hbel.output,hbel.size,fun k hk _=>hbel.block k hk⟩
    clear hbel p4 pf
    go_wp2_with fail
    go_loopw [14] (fun i wr=>∃ j:Nat,j<=m1/\i=iv j/\Hid (wr.heap[g]?=some (.cells (qV (List.replicate j (ZZ Ld.length,ZZ Ld.length))++cur.toList.drop (j * 2)).toArray 123 (0,0)))/\w2.grownBy wr (some g)) (fun i _=>m1 - (intOf i).toNat)
    case atStart=>exact ⟨0,Nat.zero_le _,rfl,by simpa [Hid,qV] using HM0.out,HG0.out⟩
    case round =>
     obtain ⟨j,hj,rfl,hrow,hgr⟩:=hrel
     have hPr:wr.heap[P]?=some (.cells #[c0,c1,c2,c3,.slice va Ld.length vc] 81):=(hgr.block P hP2w uT).trans HBO.out.world
     obtain ⟨_,_,_,_,p4⟩:=yD hPr
     have hgwr:g<wr.heap.size:=(blt hrow.out)
     by_cases hlt:j<m1
     ·have hA:(qV (List.replicate j (ZZ Ld.length,ZZ Ld.length))).length=j * 2:=by rw [kN];simp
      obtain ⟨y0,y1,hz⟩:∃ y0 y1,cur.toList.drop (j * 2)=y0 :: y1 :: cur.toList.drop ((j+1) * 2):=Cq (by have:=HX.out.2;simp;omega)
      rw [hz] at hrow
      have d0:wr.cell? (aq g (j * 2))=some y0:=oP hrow.out hA
      have d1:wr.cell? (aq g (j * 2+1))=some y1:=oP (A:=qV (List.replicate j (ZZ Ld.length,ZZ Ld.length))++[y0]) (by rw [hrow.out,List.append_assoc];rfl) (by simp [hA])
      have HR:Hid (∀ (w4:World) (v0 v1:Value),w4.heap[g]?=wr.heap[g]?->((w4.sc g (j * 2) v0).sc g (j * 2+1) v1).heap[g]?=some (.cells (qV (List.replicate j (ZZ Ld.length,ZZ Ld.length))++v0 :: v1 :: cur.toList.drop ((j+1) * 2)).toArray 123 (0,0))):=fun w4 v0 v1 e=>mD (e.trans hrow.out) hA v0 v1
      have HROW:Hid (wr.heap[g]?=some (.cells (qV (List.replicate j (ZZ Ld.length,ZZ Ld.length))++y0 :: y1 :: cur.toList.drop ((j+1) * 2)).toArray 123 (0,0))):=hrow
      clear hrow hA hPr hz
      go_wp2_with (go_at_call 56;refine (HMK.out _).mono ?_;rintro e w4 ⟨rfl,b4⟩
                   have q0:=(b4.cell (p:=(aq g (j * 2))) hgwr).trans d0
                   have q1:=(b4.cell (p:=(aq g (j * 2+1))) hgwr).trans d1
                   have qf:=qA ((b4.block g hgwr).trans HROW.out)
                   have hb4:Hid (w4.heap[g]?=wr.heap[g]?):=b4.block g hgwr)
      go_roundw
      case rel =>
       refine ⟨j+1,uO,vN,?_,yT (yT (xR hgr ⟨b4.os,b4.tape,b4.output,b4.size,fun k hk _=>b4.block k hk⟩))⟩
       have e:qV (List.replicate (j+1) (ZZ Ld.length,ZZ Ld.length))++cur.toList.drop ((j+1) * 2)=qV (List.replicate j (ZZ Ld.length,ZZ Ld.length))++iv (ZZ Ld.length) :: iv (ZZ Ld.length) :: cur.toList.drop ((j+1) * 2):=by
        rw [List.replicate_succ',fM,List.append_assoc];rfl
       unfold Hid
       rw [e]
       exact HR.out _ _ _ hb4.out
      case measure=>simp [intOf];omega
     ·have hje:j=m1:=uO
      subst hje
      have hfin:Hid (wr.heap[g]?=some (.cells (qV (List.replicate j (ZZ Ld.length,ZZ Ld.length))).toArray 123 (0,0))):=by
       have:=hrow.out
       rw [List.drop_eq_nil_of_le (by simp [HX.out.2]),List.append_nil] at this
       exact this
      have hgd:Value.ownBlock (.slice va Ld.length vc)≠some g:=fun e=>by
       have h1:=(N2.out g e).1
       omega
      have hownr:wr.ownsRow (P+1) 121 1 (.slice va Ld.length vc) Ld.length Ld:=HO2.out.kept hgr (.inr hgd)
      have pf:=qA hPr 4
      have hPwr:P<wr.heap.size:=(blt hPr)
      have HPR:Hid (wr.heap[P]?=some (.cells #[c0,c1,c2,c3,.slice va Ld.length vc] 81)):=hPr
      clear hrow hPr
      go_wp2_with (at_builtin;refine wpList_append_own_at _ rfl _ _ 79 rfl (P+1) 121 i0 (.slice none 0 0) 1 24 Tryz.underlying79 hi hz0 hz1 hz2 rfl vO _ _ _ rfl (hownr.alloc _) (aq wr.heap.size 0) 1 1 [.slice (some (aq g 0)) j j] rfl rfl ?c1 ?c2 ?c3 ?c4 ?c5 ?_)
      case c1=>exact cell_one_new _ _ _
      case c2=>intro u hu;simp at hu;subst hu;rfl
      case c3=>unfold maxLen;omega
      case c4=>omega
      case c5=>simp;omega
      intro vd' w3 hown3 hgrow _ hat
      have hPn:some P≠Value.ownBlock (.slice va Ld.length vc):=fun e=>by have:=(uJ hownr P e.symm).1;omega
      have hP3:w3.heap[P]?=some (.cells #[c0,c1,c2,c3,.slice va Ld.length vc] 81):=(hgrow.block P uT hPn).trans ((uE _ _ _ uO).trans HPR.out)
      obtain ⟨_,_,_,_,p4'⟩:=yD hP3
      have pf':=qA hP3 4
      have HA:Hid (fI PW w (w3.sc P 4 vd') P B R x own c0 c1 c2 c3 (.slice va Ld.length vc) v Ld (aT now to) (mU now to L)):=Uu T HBO.out hP N1.out N2.out hgr (.inr ⟨g,j,rfl,HX.out.1,hpg,hfin.out⟩) rfl hown3 hgrow (by simpa using hat)
      obtain ⟨g3,cap3,rfl⟩:∃ g3 cap3,vd'=.slice (some (aq g3 0)) (Ld.length+1) cap3:=by
       rcases hown3.2 with ⟨_,h0⟩|⟨g,cap,cur,hv,_⟩
       ·omega
       ·exact ⟨_,_,hv⟩
      clear hown3 hgrow hP3 hat
      go_wp2
      go_ret
      exact ⟨rfl,HA.out⟩
def xS (PW:World->Nat->(Nat->Prop)->Int->List (Int × Int)->Prop) (w w':World) (B R x:Nat) (own:Nat->Prop) (v:Value) (now:Int) (L:List (Int × Int)):Prop :=
 ∃ own' v',PW w' x own' now L/\fC w' B R now v' L/\Same (fun b=>own b\/b=R\/v.ownBlock=some b) w w'/\(∀ k,own' k->own k\/w.heap.size<=k)/\(∀ k,v'.ownBlock=some k->v.ownBlock=some k\/w.heap.size<=k)/\(∀ k,v'.ownBlock=some k->¬ own' k)
def apart (R:Nat) (v:Value) (own:Nat->Prop):Prop:=¬ own R/\∀ k,v.ownBlock=some k->¬ own k
theorem rY {w w1:World} {B R:Nat} {own:Nat->Prop} {v:Value} {now:Int} {L:List (Int × Int)} (hr:fC w B R now v L) (hs:Same own w w1) (ha:apart R v own):fC w1 B R now v L :=
 ⟨(hs.block R (blt hr.1) ha.1).trans hr.1,qG hr.2 (fun k hk=>hs.block k (uJ hr.2 k hk).2 (ha.2 k hk))⟩
theorem Ch {PW:World->Nat->(Nat->Prop)->Int->List (Int × Int)->Prop} (T:TimersAll PW) {w w0 w1 w2:World} {B R x:Nat} {own:Nat->Prop} {v:Value} {now now1:Int} {L L':List (Int × Int)} (hr:fC w B R now v L) (ha:apart R v own)
 (hb:Bl w w0) (h1:oK PW w0 w1 x own now1 L') (h2:rwAns w1 w2 B R v now1 L'):xS PW w w2 B R x own v now1 L':=by
 obtain ⟨own',hp,hs,hf⟩:=h1
 obtain ⟨v',hr2,hs2,hv2⟩:=h2
 have z0:=hb.size
 have z1:=hs.size
 have hlt:=T.lt hp
 have hR:R<w.heap.size:=(blt hr.1)
 have hvv:=uJ hr.2
 have hoR:¬ own' R:=fun e=>by
  rcases hf R e with h|h
  ·exact ha.1 h
  ·omega
 have hov:∀ k,v.ownBlock=some k->¬ own' k:=fun k hk e=>by
  rcases hf k e with h|h
  ·exact ha.2 k hk h
  ·have:=(hvv k hk).2;omega
 refine ⟨own',v',T.keep hp hs2.size (fun k hk=>hs2.block k (hlt k hk) (fun e=>e.elim (fun e=>hoR (e▸hk)) (fun e=>hov k e hk))),hr2,?_,fun k hk=>(hf k hk).imp id uO,fun k hk=>(hv2 k hk).imp id uO,fun k hk hk'=>?_⟩
 ·exact Same.trans (Same.trans (Same.of_below (own:=fun _=>False) hb) hs (o:=own) (fun k _ e=>e.elim False.elim id)) hs2 (fun k _ e=>e.elim .inl .inr)
 ·rcases hv2 k hk with h|h
  ·exact hov k h hk'
  ·have:=hlt k hk';omega
theorem nZ {PW:World->Nat->(Nat->Prop)->Int->List (Int × Int)->Prop} (T:TimersAll PW) {w W0 w1:World} {B R x:Nat} {own:Nat->Prop} {v:Value} {now now1:Int} {L L':List (Int × Int)} (hp:PW w x own now L) (hr:fC w B R now v L) (ha:apart R v own) (hB:B<=w.heap.size)
 (hb:Bl w W0) (h1:oK PW W0 w1 x own now1 L') :
 (∀ w2,rwAns w1 w2 B R v now1 L'->xS PW w w2 B R x own v now1 L')/\fC w1 B R now v L/\B<=w1.heap.size/\∀ b o,w.heap.size<=b->b<W0.heap.size->w1.cell? (aq b o)=W0.cell? (aq b o):=by
 obtain ⟨own',hp',hs,hf⟩:=h1
 refine ⟨fun w2 h2=>Ch T hr ha hb ⟨own',hp',hs,hf⟩ h2,?_,?_,fun b o h hlt=>hs.cell hlt (fun e=>by have:=T.lt hp b e;omega)⟩
 ·exact rY (rY hr (Same.of_below (own:=fun _=>False) hb) ⟨id,fun _ _=>id⟩) hs ha
 ·have:=hb.size
  have:=hs.size
  omega
theorem Mj {PW:World->Nat->(Nat->Prop)->Int->List (Int × Int)->Prop} (T:TimersAll PW) (P B R x rt n cap:Nat) (own:Nat->Prop) (v:Value) (now:Int) (L:List (Int × Int)) (o:OpV) (w:World) (hk:o.k=5) (ho:-9223372036854775808<=o.a/\o.a<=9223372036854775807)
 (h2:w.cell? (aq P 2)=some (.slice (some (aq rt 0)) n cap)) (hn:0<n) (hn':n<4611686018427387904) (hx:w.cell? (aq rt (zZ o.a n * 2))=some (pt x 0)) (hR:w.cell? (aq rt (zZ o.a n * 2+1))=some (pt R 0))
 (hp:PW w x own now L) (hr:fC w B R now v L) (ha:apart R v own) (hB:B<=w.heap.size) (hl:L.length * 16+16<=140737488351232) :
 Ca 50 #[pt P 0,o.val] w fun e w'=>e=.returned (.bool true)/\xS PW w w' B R x own v now (vI now L o.b o.c):=by
 obtain ⟨k,oa,ob,oc,od,oe,os⟩:=o
 simp only at hk ho hx hR
 subst hk
 unfold OpV.val
 simp only
 have hpw:P<w.heap.size:=uC w _ h2
 have hrw:rt<w.heap.size:=uC w _ hx
 have HIN:Hid (PW w x own now L/\fC w B R now v L/\apart R v own):=⟨hp,hr,ha⟩
 have hlen:((n:Int)==0)=false:=by simp;omega
 have hr':zZ oa n<n:=vX oa hn
 have HPK:Hid (∀ w':World,Ca 51 #[iv oa,iv n] w' fun e w2=>e=.returned (iv (zZ oa n))/\w'=w2):=fun w'=>dS oa n w' ho hn hn'
 generalize zZ oa n=r at hr' HPK hx hR
 have HCALL:Hid (∀ W0,Below w.heap.size w W0->Ca 79 #[pt x 0,iv ob,iv oc] W0 fun e w1=>e=.returned (iv (Xk now L ob oc))/\(∀ w2,rwAns w1 w2 B R v now (vI now L ob oc)->xS PW w w2 B R x own v now (vI now L ob oc))/\fC w1 B R now v L/\B<=w1.heap.size/\∀ b o,w.heap.size<=b->b<W0.heap.size->w1.cell? (aq b o)=W0.cell? (aq b o)):=by
  intro W0 hb
  refine (T.set ob oc (T.keep hp hb.size (fun k hk=>hb.block k (T.lt hp k hk))) hl).mono ?_
  rintro e w1 ⟨rfl,h1⟩
  exact ⟨rfl,nZ T hp hr ha hB hb h1⟩
 clear hp hr ha HIN
 go_enter Tryz.func50,Tryz.ntmps50
 go_wp2_with fail
 have hrn:(r:Int)<(n:Int):=uO
 go_region_held3 (fun w'=>w'.cell? (aq P 2)=some (.slice (some (aq rt 0)) n cap)/\w'.cell? (aq w.heap.size 1)=some (iv oa)/\w'.cell? (aq rt (r * 2))=some (pt x 0)/\w'.cell? (aq rt (r * 2+1))=some (pt R 0)) (simp [go_sem, *])
  (first
    | (go_at_call 51;refine (HPK.out _).mono ?_;rintro e w' ⟨rfl,rfl⟩))
 all_goals
  go_wp2_with fail
  refine (HCALL.out _ bL).mono ?_
  rintro e w1 ⟨rfl,hans,hr1,hB1,hcell⟩
  have q2:w1.cell? (aq w.heap.size 2)=some (iv ob):=(hcell w.heap.size 2 (uA _) uS).trans uU
  have q3:w1.cell? (aq w.heap.size 3)=some (iv oc):=(hcell w.heap.size 3 (uA _) uS).trans uU
  have qr:w1.cell? (aq (w.heap.size+1) 1)=some (pt R 0):=(hcell (w.heap.size+1) 1 uO uS).trans uU
  have HRC:Hid (Ca 80 #[pt R 0,iv ob,iv oc] w1 fun e w'=>e=.returned (iv (Xk now L ob oc))/\rwAns w1 w' B R v now (vI now L ob oc)):=Iz B R now v L ob oc w1 hr1 hB1 hl
  have HANS:Hid (∀ w2,rwAns w1 w2 B R v now (vI now L ob oc)->xS PW w w2 B R x own v now (vI now L ob oc)):=hans
  clear hcell hans hr1
  go_wp2_with (go_at_call 80;refine HRC.out.mono ?_;rintro e w2 ⟨rfl,hrw2⟩)
  go_ret
  exact ⟨by simp,HANS.out _ hrw2⟩
theorem Tryz.infoTimers:(Tryz.prog.info? 161).map (fun i=>(i.zero,i.size,i.bytes))=some (some (.agg #[.pointer none,.pointer none]),2,16):=by kernel_rfl
theorem Gq (P:Nat) (o:OpV) (w:World) (a:Option Addr) (cap:Nat) (hk:5<=o.k/\o.k<=9) (h2:w.cell? (aq P 2)=some (.slice a 0 cap)) :
 Ca 50 #[pt P 0,o.val] w fun e w'=>e=.returned (.bool true)/\Below w.heap.size w w':=by
 obtain ⟨k,oa,ob,oc,od,oe,os⟩:=o
 simp only at hk
 unfold OpV.val
 simp only
 have hpw:P<w.heap.size:=uC w _ h2
 have hk4:(k==4)=false:=by simp;omega
 go_enter Tryz.func50,Tryz.ntmps50
 go_wp2
 go_ret
 exact ⟨rfl,(uM _ _).alloc (uA _) _⟩
def sN (PW:World->Nat->(Nat->Prop)->Int->List (Int × Int)->Prop) (w w':World) (P:Nat) (c0 c1 vt c3 c4:Value) (n:Nat) (E:List Value) (now:Int):Prop :=
 ∃ x own R vt',w'.heap[P]?=some (.cells #[c0,c1,vt',c3,c4] 81)/\w'.ownsRow (P+1) 161 2 vt' (n+1) (E++[pt x 0,pt R 0])/\PW w' x own now []/\fC w' w.heap.size R now (.slice none 0 0) [] ∧
  Same (fun b=>b=P\/vt.ownBlock=some b) w w'/\(∀ k,own k->w.heap.size<=k)/\w.heap.size<=R/\¬ own R/\(∀ k,vt'.ownBlock=some k->vt.ownBlock=some k\/w.heap.size<=k)/\(∀ k,vt'.ownBlock=some k->¬ own k)
theorem Qc {PW:World->Nat->(Nat->Prop)->Int->List (Int × Int)->Prop} (T:TimersAll PW) {w w2 w3:World} {P n:Nat} {c0 c1 vt c3 c4:Value} {E:List Value} {now:Int} (h:sN PW w w2 P c0 c1 vt c3 c4 n E now) (hb:Bl w2 w3):sN PW w w3 P c0 c1 vt c3 c4 n E now:=by
 obtain ⟨x,own,R,vt',h1,h2,h3,h4,h5,h6,h7,h8,h9,h10⟩:=h
 exact ⟨x,own,R,vt',(hb.block P (blt h1)).trans h1,qH h2 hb (uA _),T.keep h3 hb.size (fun k hk=>hb.block k (T.lt h3 k hk)),⟨(hb.block R (blt h4.1)).trans h4.1,qH h4.2 hb (uA _)⟩,Same.trans h5 (Same.of_below (own:=fun _=>False) hb) (fun k _ e=>e.elim id False.elim),h6,h7,h8,h9,h10⟩
theorem Wg {PW:World->Nat->(Nat->Prop)->Int->List (Int × Int)->Prop} (T:TimersAll PW) {w w1 w3:World} {P n x:Nat} {own:Nat->Prop} {c0 c1 vt c3 c4 v':Value} {E:List Value} {now:Int} {O:Obj} (hb:Bl w w1) (hP:P<w.heap.size)
 (hP1:w1.heap[P]?=some (.cells #[c0,c1,vt,c3,c4] 81)) (ht1:w1.ownsRow (P+1) 161 2 vt n E) (hvt:∀ k,vt.ownBlock=some k->k<w.heap.size) (hp:PW w1 x own now []) (ho:∀ k,own k->w.heap.size<=k)
 (hown3:w3.ownsRow (P+1) 161 2 v' (n+1) (E++[pt x 0,pt w1.heap.size 0])) (hg:((w1.alloc (.cells #[iv now,.slice none 0 0] 159)).alloc O).grownBy w3 vt.ownBlock) (hat:v'.ownBlock=vt.ownBlock\/v'.ownBlock=some (w1.heap.size+2)) :
 sN PW w (w3.sc P 2 v') P c0 c1 vt c3 c4 n E now:=by
 have z1:=hb.size
 have z3:w1.heap.size+2<=w3.heap.size:=by have:=hg.size;simpa using this
 have lt1:=T.lt hp
 have k3:∀ k,k<w1.heap.size+1->vt.ownBlock≠some k->w3.heap[k]?=(w1.alloc (.cells #[iv now,.slice none 0 0] 159)).heap[k]?:=fun k hk hn=>(hg.block k uT (fun e=>hn e.symm)).trans (uE _ O k (by simpa using hk))
 have k1:∀ k,k<w1.heap.size->vt.ownBlock≠some k->w3.heap[k]?=w1.heap[k]?:=fun k hk hn=>(k3 k uO hn).trans (uE w1 _ k hk)
 have ks:∀ k,k≠P->(w3.sc P 2 v').heap[k]?=w3.heap[k]?:=fun k hk=>uG _ (aq P 2) _ _ hk
 have hvP:vt.ownBlock≠some P:=qP ht1 hP1 vO
 have hP3:w3.heap[P]?=some (.cells #[c0,c1,vt,c3,c4] 81):=(k1 P uO hvP).trans hP1
 have hR3:w3.heap[w1.heap.size]?=some (.cells #[iv now,.slice none 0 0] 159):=(k3 _ uO (fun e=>by have:=hvt _ e;omega)).trans (uF _ _)
 have nv:∀ k,v'.ownBlock=some k->k≠P:=by
  intro k hk
  rcases hat with e|e
  ·exact fun e'=>hvP (e'▸e.symm.trans hk)
  ·rw [hk] at e;simp at e;omega
 refine ⟨x,own,w1.heap.size,v',?_,?_,?_,⟨?_,World.ownsRow_nil _ _ _ _⟩,?_,ho,z1,fun e=>by have:=lt1 _ e;omega,?_,?_⟩
 ·rw [uH hP3];rfl
 ·exact qG hown3 (fun k hk=>ks k (nv k hk))
 ·exact T.keep hp (by simp [World.setCell];omega) (fun k hk=>(ks k (fun e=>by have:=ho k hk;omega)).trans (k1 k (lt1 k hk) (fun e=>by have:=hvt k e;have:=ho k hk;omega)))
 ·exact (ks _ uO).trans hR3
 ·refine ⟨hg.os.trans hb.os,hg.tape.trans hb.tape,hg.output.trans hb.output,by simp [World.setCell];omega,fun k hk hn=>?_⟩
  rw [ks k (fun e=>hn (.inl e)),k1 k uO (fun e=>hn (.inr e))]
  exact hb.block k hk
 ·intro k hk
  rcases hat with e|e
  ·exact .inl (e.symm.trans hk)
  ·rw [hk] at e;simp at e;exact .inr uO
 ·intro k hk hk'
  rcases hat with e|e
  ·have:=hvt k (e.symm.trans hk);have:=ho k hk';omega
  ·rw [hk] at e;simp at e;have:=lt1 k hk';omega
theorem Nt {PW:World->Nat->(Nat->Prop)->Int->List (Int × Int)->Prop} (T:TimersAll PW) (P n:Nat) (c0 c1 vt c3 c4:Value) (E:List Value) (o:OpV) (w:World) (hk:o.k=4)
 (hw:w.heap[P]?=some (.cells #[c0,c1,vt,c3,c4] 81)) (ht:w.ownsRow (P+1) 161 2 vt n E) (hn:n * 16+16<=140737488351232) :
 Ca 50 #[pt P 0,o.val] w fun e w'=>e=.returned (.bool true)/\sN PW w w' P c0 c1 vt c3 c4 n E o.a:=by
 obtain ⟨k,oa,ob,oc,od,oe,os⟩:=o
 simp only at hk ⊢
 subst hk
 unfold OpV.val
 simp only
 obtain ⟨i0,hi,hz0,hz1,hz2⟩:=info_parts Tryz.infoTimers
 have hpw:P<w.heap.size:=(blt hw)
 have HIN:Hid (w.heap[P]?=some (.cells #[c0,c1,vt,c3,c4] 81)/\w.ownsRow (P+1) 161 2 vt n E):=⟨hw,ht⟩
 have HNW:Hid (∀ W,Below w.heap.size w W->Ca 35 #[iv oa] W fun e w'=>∃ x own,e=.returned (pt x 0)/\PW w' x own oa []/\(∀ k,own k->W.heap.size<=k)/\Below W.heap.size W w'):=fun W _=>T.new W oa
 obtain ⟨va,vc,rfl⟩:=yE ht
 clear hw ht
 go_enter Tryz.func50,Tryz.ntmps50
 go_wp2_with fail
 refine (HNW.out _ bL).mono ?_
 rintro e w1 ⟨x,own,rfl,hp,ho,hb⟩
 have hb1:Below w.heap.size w w1:=uL (show Below w.heap.size w _ from bL) (hb.mono vS)
 have hP1:w1.heap[P]?=some (.cells #[c0,c1,.slice va n vc,c3,c4] 81):=(hb1.block P hpw).trans HIN.out.1
 have hO1:=qH HIN.out.2 hb1 (uA _)
 have hvt:=fun k hk=>(uJ HIN.out.2 k hk).2
 have hzw:w.heap.size+1<=w1.heap.size:=by have:=hb.size;simpa using this
 have q1:w1.cell? (aq w.heap.size 1)=some (iv oa):=(hb.cell (p:=(aq w.heap.size 1)) vS).trans uU
 obtain ⟨p2⟩:w1.cell? (aq P 2)=some (.slice va n vc)/\True:=⟨cB hP1,trivial⟩
 have hPw1:P<w1.heap.size:=uO
 have how1:w.heap.size<w1.heap.size:=uO
 have HNE:Hid (∀ w3 v' O,w3.ownsRow (P+1) 161 2 v' (n+1) (E++[pt x 0,pt w1.heap.size 0])->((w1.alloc (.cells #[iv oa,.slice none 0 0] 159)).alloc O).grownBy w3 (Value.ownBlock (.slice va n vc))->(v'.ownBlock=Value.ownBlock (.slice va n vc)\/v'.ownBlock=some (w1.heap.size+2))->sN PW w (w3.sc P 2 v') P c0 c1 (.slice va n vc) c3 c4 n E oa) :=
  fun w3 v' O h1 h2 h3=>Wg T hb1 hpw hP1 hO1 hvt hp (fun k hk=>by have:=ho k hk;simp at this;omega) h1 h2 h3
 have hvP:Value.ownBlock (.slice va n vc)≠some P:=qP hO1 hP1 vO
 have hnb:Hid (((w1.alloc (.cells #[iv oa,.slice none 0 0] 159)).alloc (.cells #[pt x 0,pt w1.heap.size 0] 161)).heap[w1.heap.size+1]?=some (.cells #[pt x 0,pt w1.heap.size 0] 161)):=by
  have:=uF (w1.alloc (.cells #[iv oa,.slice none 0 0] 159)) (.cells #[pt x 0,pt w1.heap.size 0] 161)
  rw [show (w1.alloc (.cells #[iv oa,.slice none 0 0] 159)).heap.size=w1.heap.size+1 by simp] at this
  exact this
 clear hp ho hb HIN hvt HNW
 go_wp2_with fail
 go_region_law ((refine step_append_lies _ (by rfl) _ _ _ (by rfl) (P+1) 161 i0 (.agg #[.pointer none,.pointer none]) 2 16 Tryz.underlying77 hi hz0 hz1 hz2 rfl uO (.slice va n vc) n E (by rfl) (((hO1.alloc _).alloc _).drew) (aq (w1.heap.size+1) 0) 1 1 [pt x 0,pt w1.heap.size 0] (by rfl) (by rfl) (World.news_of_block (cs:=#[pt x 0,pt w1.heap.size 0]) (t:=161) (fr:=(0,0)) hnb.out) (by simp [Value.oneCell']) uO (by unfold maxLen;omega) uO uT (w1.heap.size+2) vS ?_
                 intro gg cap w3 hown3 hgrow hat hlt
                 have hP3:w3.heap[P]?=some (.cells #[c0,c1,.slice va n vc,c3,c4] 81):=(hgrow.block P uT (fun e=>hvP e.symm)).trans ((uE (w1.alloc (.cells #[iv oa,.slice none 0 0] 159)) _ P uT).trans ((uE w1 _ P hPw1).trans hP1))
                 have g1:w3.cell? (aq P 2)=some (.slice va n vc):=cB hP3
                 have gf:=qA hP3 2))
 all_goals (go_wp2;go_ret)
 all_goals exact ⟨rfl,Qc T (HNE.out w3 _ (.cells #[pt x 0,pt w1.heap.size 0] 161) hown3 ⟨hgrow.os,hgrow.tape,hgrow.output,hgrow.size,hgrow.block⟩ (hat.elim (fun e=>.inl (by rw [e];rfl)) (fun e=>.inr (by rw [e];rfl)))) bL⟩
