import Derived.Test.YtfhncfghblkgeabGreatL24
set_option maxRecDepth 100000
set_option maxHeartbeats 2000000
namespace Go.Proofs.YtfhncfghblkgeabGreat
open Go.RowKit
section
section
variable {w w':World} {B R:Nat} {S:Sal} {ap:Option Addr} {lp cp:Nat} {vo va:Value}
theorem eF (h:saleAt w B R S ap lp cp vo va) {i:Nat} (hi:i<S.os.length):∃ g cap,vo=.slice (some (aq g 0)) S.os.length cap/\g<w.heap.size/\B<=g/\R≠g/\nG w g i (S.os.getD i qD)/\∃ C,w.heap[g]?=some (.cells C 213):=by
 obtain ⟨g,cap,rfl⟩:=cP h hi
 obtain ⟨Z,hb,hB,_⟩:=pA h.os
 have hRg:R≠g:=fun e=>by have:=h.blk;rw [e,hb] at this;simp at this
 obtain ⟨a,c,hv,hc⟩:=oJ h.os
 simp at hv
 obtain ⟨g',e',hgw,hoc⟩:=hc uO
 rw [← hv.1] at e'
 simp at e'
 subst e'
 exact ⟨g,cap,rfl,hgw,hB,hRg,hoc i hi,_,hb⟩
theorem Ds (h:saleAt w B R S ap lp cp vo va) (hI:salI S) (hl:S.os.length * 48+48<=140737488351232) (r:Req) (ho:1<=r.order/\r.order<=4294967296) :
 Ca 143 #[pt R 0,r.val] w fun e w'=>e=.returned (S.poll r).val/\Below w.heap.size w w':=by
 have HF:=bJ h hl r ho
 unfold Sal.poll
 cases hf:oM S.os r.cust r.order with
 | none =>
   rw [hf] at HF
   exact Fj R r w HF
 | some i =>
   rw [hf] at HF
   obtain ⟨hi,_,_⟩:=Vb ho.1 hf
   obtain ⟨g,cap,hvo,hgw,_,_,hoc,_⟩:=eF h hi
   obtain ⟨_,_,_,_,_,c5,_,_,c8,c9,_⟩:=jS h.blk
   rw [hvo] at c9
   have hu:=hI.units _ (zG hi)
   have hoo:=hI.ords _ (zG hi)
   have hb:0<=S.now/\S.now<=4611686018427387904/\0<=(S.os.getD i qD).ended/\(S.os.getD i qD).ended<=4611686018427387904/\0<=(S.os.getD i qD).units/\(S.os.getD i qD).units<=4294967296/\0<=(S.os.getD i qD).cents/\(S.os.getD i qD).cents<=1073741824:=⟨hI.now.1,hI.now.2,hoo.2.1,hoo.2.2,uO,hu.2,hoo.1.1,hoo.1.2⟩
   simp only
   by_cases h12:(S.os.getD i qD).state=12
   ·rw [uQ h12]
    exact Vz R g cap _ i S.now S.C.keep _ r w c9 c8 c5 hi hoc hgw hb h12 HF
   ·rw [uP h12]
    by_cases h13:(S.os.getD i qD).state=13
    ·rw [uQ h13]
     exact Fp R g cap _ i S.now S.C.keep _ r w c9 c8 c5 hi hoc hgw hb h13 HF
    ·rw [uP h13]
     by_cases hk:S.C.keep<=S.now - (S.os.getD i qD).ended
     ·rw [uQ hk]
      exact Mi R g cap _ i S.now S.C.keep _ r w c9 c8 c5 hi hoc hgw hb ⟨h12,h13⟩ hk HF
     ·rw [uP hk]
      by_cases h14:(S.os.getD i qD).state=14
      ·rw [uQ h14]
       exact Dv R g cap _ i S.now S.C.keep _ r w c9 c8 c5 hi hoc hgw hb h14 hk HF
      ·rw [uP h14]
       exact Vt R g cap _ i S.now S.C.keep _ r w c9 c8 c5 hi hoc hgw hb ⟨h12,h13⟩ h14 hk HF
theorem xK {own:Nat->Prop} (h:saleAt w B R S ap lp cp vo va) (hs:Same own w w') (h1:¬ own R) (h2:∀ k,vo.ownBlock=some k->¬ own k) (h3:∀ k,va.ownBlock=some k->¬ own k) (h4:S.C.prices≠[]->∀ b off,ap=some (aq b off)->¬ own b):saleAt w' B R S ap lp cp vo va:=by
 refine ⟨(hs.block R (blt h.blk) h1).trans h.blk,?_,h.low,qG h.os (fun k hk=>hs.block k (uJ h.os k hk).2 (h2 k hk)),qG h.ansL (fun k hk=>hs.block k (uJ h.ansL k hk).2 (h3 k hk))⟩
 obtain ⟨t1,t2,t3,t4,t5⟩:=h.tiers
 refine ⟨t1,t2,t3,t4,fun hne=>?_⟩
 obtain ⟨b,off,e,hbw,hc⟩:=t5 hne
 exact ⟨b,off,e,uB hbw hs.size,fun k hk=>⟨(hs.cell hbw (h4 hne b off e)).trans (hc k hk).1,(hs.cell hbw (h4 hne b off e)).trans (hc k hk).2⟩⟩
theorem rN (h:salI S) {i:Nat} (hi:i<S.os.length) (st:Int) (hst:st=14\/(st≠12/\st≠13/\st≠14)) (h14:st=14->(S.os.getD i qD).state=13):salI (S.ends i st):=by
 have hm:=zG hi
 have hu:=h.units _ hm
 have hoo:=h.ords _ hm
 have hs:=h.stock
 refine ⟨fun x hx=>?_,?_,fun c hc0=>?_,h.cfg,h.now,fun x hx=>?_,h.prices⟩
 ·rcases nF hx with rfl|hx
  ·exact hu
  ·exact h.units x hx
 ·show qF (S.os.set i _) 13 0+qF (S.os.set i _) 14 0<=S.C.stock
  rw [xF hi,xF hi]
  generalize S.os.getD i qD=p at hu h14
  obtain ⟨pc,pu,ps,pce,pup,pe⟩:=p
  simp only [Ord.part,Ord.is] at *
  rcases hst with rfl|⟨h1,h2,h3⟩
  ·have:=h14 rfl
   subst this
   simp
   omega
  ·have e1:(st==13)=false:=by simpa using h2
   have e2:(st==14)=false:=by simpa using h3
   simp [e1,e2]
   split<;>split<;>omega
 ·show qF (S.os.set i _) 12 c<=4294967296
  rw [xF hi]
  have:=h.cap c hc0
  have hp:0<=(S.os.getD i qD).part 12 c:=by unfold Ord.part;split<;>omega
  have ho:Ord.part { S.os.getD i qD with state:=st,ended:=S.now } 12 c=0:=by
   have e:(st==12)=false:=by
    rcases hst with rfl|⟨h1,_,_⟩
    ·decide
    ·simpa using h1
   simp [Ord.part,Ord.is,e]
  omega
 ·rcases nF hx with rfl|hx
  ·exact ⟨hoo.1,h.now⟩
  ·exact h.ords x hx
end
end
theorem Ke (R:Nat) (r:Req) (w:World)
 (HF:Hid (∀ W,Below w.heap.size w W->Ca 164 #[pt R 0,r.val] W fun e w'=>e=.returned (iv (-1))/\Below W.heap.size W w')) :
 Ca 147 #[pt R 0,r.val] w fun e w'=>e=.returned (.agg #[iv 9,iv 0,iv 0,iv 0])/\Below w.heap.size w w':=by
 obtain ⟨k,t,c,u,o⟩:=r
 unfold Req.val at HF ⊢
 simp only at HF ⊢
 go_enter Tryz.func147,Tryz.ntmps147
 go_wp2_with (go_at_call 164;refine (HF.out _ bL).mono ?_;rintro e w1 ⟨rfl,b1⟩
              have hz1:w.heap.size+2<=w1.heap.size:=by have:=b1.size;simpa using this
              have n0:=(b1.block _ vS).trans (zq2 w #[iv k,iv t,iv c,iv u,iv o] 39 #[iv 0,iv 0,iv 0,iv 0] 33).out
              obtain ⟨s0,s1,s2,s3⟩:=qC n0
              have f0:=qA n0 0
              have f1:=qA n0 1
              have f2:=qA n0 2
              have f3:=qA n0 3
              have w01:Bl w w1:=uL (show Below w.heap.size w _ from bL) (b1.mono uS)
              have hsz0:w.heap.size<w1.heap.size:=uO
              have hsz1:w.heap.size+1<w1.heap.size:=by omega)
 refine uK (v:=.agg #[iv 9,iv 0,iv 0,iv 0]) (by simp [results,Tryz.results147,go_sem,s0,s1,s2,s3]) rfl ⟨rfl,?_⟩
 exact bL
theorem Jf (R g cap n i:Nat) (r:Req) (w:World) (h9:w.cell? ⟨R,9,none⟩=some (.slice (some ⟨g,0,none⟩) n cap)) (hi:i<n) (st:Int) (e2:w.cell? ⟨g,i * 6+2,none⟩=some (iv st)) (hgw:g<w.heap.size) (hs:st≠13/\st≠12)
 (HF:Hid (∀ W,Below w.heap.size w W->Ca 164 #[pt R 0,r.val] W fun e w'=>e=.returned (iv i)/\Below W.heap.size W w')) :
 Ca 147 #[pt R 0,r.val] w fun e w'=>e=.returned (.agg #[iv 9,iv 0,iv 0,iv 0])/\Below w.heap.size w w':=by
 obtain ⟨k,t,c,u,o⟩:=r
 unfold Req.val at HF ⊢
 simp only at HF ⊢
 have hRw:R<w.heap.size:=uC w _ h9
 have b0:(0:Int)<=(i:Int):=uO
 have b1':(i:Int)<(n:Int):=uO
 have bn:decide ((i:Int)<0)=false:=by simp
 have hs1:(st != 13)=true:=by simpa using hs.1
 have hs2:(st != 12)=true:=by simpa using hs.2
 go_enter Tryz.func147,Tryz.ntmps147
 go_wp2_with (go_at_call 164;refine (HF.out _ bL).mono ?_;rintro e w1 ⟨rfl,b1⟩
              have hz1:w.heap.size+2<=w1.heap.size:=by have:=b1.size;simpa using this
              have n0:=(b1.block _ vS).trans (zq2 w #[iv k,iv t,iv c,iv u,iv o] 39 #[iv 0,iv 0,iv 0,iv 0] 33).out
              obtain ⟨s0,s1,s2,s3⟩:=qC n0
              have f0:=qA n0 0
              have f1:=qA n0 1
              have f2:=qA n0 2
              have f3:=qA n0 3
              have w01:Bl w w1:=uL (show Below w.heap.size w _ from bL) (b1.mono uS)
              have hsz0:w.heap.size<w1.heap.size:=uO
              have hsz1:w.heap.size+1<w1.heap.size:=uO
              have d9:=(w01.cell (p:=⟨R,9,none⟩) hRw).trans h9
              have q2:=(w01.cell (p:=⟨g,i * 6+2,none⟩) hgw).trans e2
              have qo:w1.cell? ⟨w.heap.size,4,none⟩=some (iv o):=(b1.cell (p:=⟨w.heap.size,4,none⟩) uS).trans uU
              have hRw1:R<w1.heap.size:=uO
              have hgw1:g<w1.heap.size:=by omega)
 refine uK (v:=.agg #[iv 9,iv 0,iv 0,iv 0]) (by simp [results,Tryz.results147,go_sem,s0,s1,s2,s3]) rfl ⟨rfl,?_⟩
 exact bL
theorem dJ (w:World) (b:Nat) (v0 v1 v2 v3:Value):Same (fun x=>x=b) w ((((w.setCell ⟨b,0,none⟩ v0).setCell ⟨b,1,none⟩ v1).setCell ⟨b,2,none⟩ v2).setCell ⟨b,3,none⟩ v3) :=
 ⟨rfl,rfl,rfl,by simp [World.setCell],fun k _ hn=>by rw [uG _ ⟨b,3,none⟩ _ _ hn,uG _ ⟨b,2,none⟩ _ _ hn,uG _ ⟨b,1,none⟩ _ _ hn,uG _ ⟨b,0,none⟩ _ _ hn]⟩
theorem Lk (R g cap n i:Nat) (r:Req) (w:World) (h9:w.cell? ⟨R,9,none⟩=some (.slice (some ⟨g,0,none⟩) n cap)) (hi:i<n) (st:Int) (e2:w.cell? ⟨g,i * 6+2,none⟩=some (iv st)) (hgw:g<w.heap.size) (hs:st=13\/st=12) (Q1 Q2 Q3:World->Prop)
 (HF:Hid (∀ W,Below w.heap.size w W->Ca 164 #[pt R 0,r.val] W fun e w'=>e=.returned (iv i)/\Below W.heap.size W w'))
 (HE:Hid (∀ W,Below w.heap.size w W->Ca 149 #[pt R 0,iv i,iv 16] W fun e w'=>e=.returned (.tuple #[])/\Q1 w'/\Same (fun b=>b=g) W w'))
 (HP:Hid (∀ W,Q1 W->Ca 150 #[pt R 0] W fun e w'=>e=.returned (.tuple #[])/\Q2 w'/\Same (fun b=>b=g) W w'))
 (HQ:Hid (∀ W W',Q2 W->Same (fun b=>b=w.heap.size+1) W W'->Q3 W')) :
 Ca 147 #[pt R 0,r.val] w fun e w'=>e=.returned (.agg #[iv 8,iv r.order,iv 0,iv 0])/\Q3 w':=by
 obtain ⟨k,t,c,u,o⟩:=r
 unfold Req.val at HF ⊢
 simp only at HF ⊢
 have hRw:R<w.heap.size:=uC w _ h9
 have b0:(0:Int)<=(i:Int):=uO
 have b1':(i:Int)<(n:Int):=uO
 have bn:decide ((i:Int)<0)=false:=by simp
 rcases hs with rfl|rfl
 ·go_enter Tryz.func147,Tryz.ntmps147
  go_wp2_with (first
   | (go_at_call 164;refine (HF.out _ bL).mono ?_;rintro e w1 ⟨rfl,b1⟩
      have hz1:w.heap.size+2<=w1.heap.size:=by have:=b1.size;simpa using this
      have n0:=(b1.block _ vS).trans (zq2 w #[iv k,iv t,iv c,iv u,iv o] 39 #[iv 0,iv 0,iv 0,iv 0] 33).out
      obtain ⟨s0,s1,s2,s3⟩:=qC n0
      have f0:=qA n0 0
      have f1:=qA n0 1
      have f2:=qA n0 2
      have f3:=qA n0 3
      have w01:Bl w w1:=uL (show Below w.heap.size w _ from bL) (b1.mono uS)
      have hsz0:w.heap.size<w1.heap.size:=uO
      have hsz1:w.heap.size+1<w1.heap.size:=uO
      have d9:=(w01.cell (p:=⟨R,9,none⟩) hRw).trans h9
      have q2:=(w01.cell (p:=⟨g,i * 6+2,none⟩) hgw).trans e2
      have qo:w1.cell? ⟨w.heap.size,4,none⟩=some (iv o):=(b1.cell (p:=⟨w.heap.size,4,none⟩) uS).trans uU
      have hRw1:R<w1.heap.size:=uO
      have hgw1:g<w1.heap.size:=by omega)
   | (go_at_call 149;refine (HE.out _ (by first|exact w01|exact bL)).mono ?_;rintro e w2 ⟨rfl,hq1,hs2⟩
      have n2:=(hs2.block (w.heap.size+1) hsz1 (show w.heap.size+1≠g by omega)).trans n0
      have qo2:=(hs2.cell (b:=w.heap.size) (o:=4) hsz0 (show w.heap.size≠g by omega)).trans qo
      have hz2:=hs2.size)
   | (go_at_call 150;refine (HP.out _ hq1).mono ?_;rintro e w3 ⟨rfl,hq2,hs3⟩
      have n3:=(hs3.block (w.heap.size+1) uO (show w.heap.size+1≠g by omega)).trans n2
      have qo3:=(hs3.cell (b:=w.heap.size) (o:=4) uO (show w.heap.size≠g by omega)).trans qo2
      obtain ⟨t0,t1,t2,t3⟩:=qC n3
      have g0:=qA n3 0
      have g1:=qA n3 1
      have g2:=qA n3 2
      have g3:=qA n3 3))
  refine uK (v:=.agg #[iv 8,iv o,iv 0,iv 0]) (by simp [results,Tryz.results147,go_sem,t0,t1,t2,t3]) rfl ⟨rfl,?_⟩
  exact HQ.out _ _ hq2 (dJ _ _ _ _ _ _)
 ·go_enter Tryz.func147,Tryz.ntmps147
  go_wp2_with (first
   | (go_at_call 164;refine (HF.out _ bL).mono ?_;rintro e w1 ⟨rfl,b1⟩
      have hz1:w.heap.size+2<=w1.heap.size:=by have:=b1.size;simpa using this
      have n0:=(b1.block _ vS).trans (zq2 w #[iv k,iv t,iv c,iv u,iv o] 39 #[iv 0,iv 0,iv 0,iv 0] 33).out
      obtain ⟨s0,s1,s2,s3⟩:=qC n0
      have f0:=qA n0 0
      have f1:=qA n0 1
      have f2:=qA n0 2
      have f3:=qA n0 3
      have w01:Bl w w1:=uL (show Below w.heap.size w _ from bL) (b1.mono uS)
      have hsz0:w.heap.size<w1.heap.size:=uO
      have hsz1:w.heap.size+1<w1.heap.size:=uO
      have d9:=(w01.cell (p:=⟨R,9,none⟩) hRw).trans h9
      have q2:=(w01.cell (p:=⟨g,i * 6+2,none⟩) hgw).trans e2
      have qo:w1.cell? ⟨w.heap.size,4,none⟩=some (iv o):=(b1.cell (p:=⟨w.heap.size,4,none⟩) uS).trans uU
      have hRw1:R<w1.heap.size:=uO
      have hgw1:g<w1.heap.size:=by omega)
   | (go_at_call 149;refine (HE.out _ (by first|exact w01|exact bL)).mono ?_;rintro e w2 ⟨rfl,hq1,hs2⟩
      have n2:=(hs2.block (w.heap.size+1) hsz1 (show w.heap.size+1≠g by omega)).trans n0
      have qo2:=(hs2.cell (b:=w.heap.size) (o:=4) hsz0 (show w.heap.size≠g by omega)).trans qo
      have hz2:=hs2.size)
   | (go_at_call 150;refine (HP.out _ hq1).mono ?_;rintro e w3 ⟨rfl,hq2,hs3⟩
      have n3:=(hs3.block (w.heap.size+1) uO (show w.heap.size+1≠g by omega)).trans n2
      have qo3:=(hs3.cell (b:=w.heap.size) (o:=4) uO (show w.heap.size≠g by omega)).trans qo2
      obtain ⟨t0,t1,t2,t3⟩:=qC n3
      have g0:=qA n3 0
      have g1:=qA n3 1
      have g2:=qA n3 2
      have g3:=qA n3 3))
  refine uK (v:=.agg #[iv 8,iv o,iv 0,iv 0]) (by simp [results,Tryz.results147,go_sem,t0,t1,t2,t3]) rfl ⟨rfl,?_⟩
  exact HQ.out _ _ hq2 (dJ _ _ _ _ _ _)
section
def Sal.cancel (S:Sal) (r:Req):Rep × Sal:=match oM S.os r.cust r.order with
 | none=>(⟨9,0,0,0⟩,S)
 | some i=>if (S.os.getD i qD).state≠13/\(S.os.getD i qD).state≠12 then (⟨9,0,0,0⟩,S) else (⟨8,r.order,0,0⟩,(S.ends i 16).promote)
def xU (w w':World) (B R:Nat) (S':Sal) (ap:Option Addr) (lp cp:Nat) (vo va:Value) (n:Nat):Prop :=
 saleAt w' B R S' ap lp cp vo va/\salI S'/\S'.os.length=n/\Same (fun b=>vo.ownBlock=some b) w w'
theorem bO:∀ (n:Nat) (S:Sal),(yJ n S).os.length=S.os.length
 | 0,_=>rfl
 | n+1,S=>by
   unfold yJ
   split
   ·rfl
   ·split
    ·rfl
    ·rw [bO n]
     simp [Sal.holds,Sal.put]
theorem jL (S:Sal):S.promote.os.length=S.os.length:=bO _ S
theorem jU (S:Sal) (i:Nat) (st:Int):(S.ends i st).os.length=S.os.length:=by simp [Sal.ends,Sal.put]
section
variable {w w':World} {B R:Nat} {S:Sal} {ap:Option Addr} {lp cp:Nat} {vo va:Value}
theorem kU (h:saleAt w B R S ap lp cp vo va) (hI:salI S) (hb:Bl w w'):xU w w' B R S ap lp cp vo va S.os.length :=
 ⟨qL h hb,hI,rfl,Same.of_below hb⟩
theorem rL {W':World} {S':Sal} {n b:Nat} (h0:saleAt w B R S ap lp cp vo va) (hb:w.heap.size<=b) (h:xU w w' B R S' ap lp cp vo va n) (hs:Same (fun x=>x=b) w' W'):xU w W' B R S' ap lp cp vo va n:=by
 obtain ⟨h1,h2,h3,h4⟩:=h
 have hR:R<w.heap.size:=(blt h0.blk)
 have kvo:=uJ h0.os
 have kva:=uJ h0.ansL
 refine ⟨xK h1 hs (by show R≠b;omega) (fun k hk=>by have:=(kvo k hk).2;show k≠b;omega) (fun k hk=>by have:=(kva k hk).2;show k≠b;omega) (fun hne b' off e=>?_),h2,h3,Same.trans h4 hs (o2:=fun x=>x=b) (fun k hk e=>e.elim id (fun e=>uO))⟩
 have hne':S.C.prices≠[]:=fun c=>hne (List.length_eq_zero_iff.1 (h1.tiers.1.trans (h0.tiers.1.symm.trans (by rw [c];rfl))))
 obtain ⟨x,y,e',hbw,_⟩:=h0.tiers.2.2.2.2 hne'
 rw [e] at e'
 simp at e'
 show b'≠b
 omega
theorem Ql (h:saleAt w B R S ap lp cp vo va) (hI:salI S) (hl:S.os.length * 48+48<=140737488351232) (r:Req) (ho:1<=r.order/\r.order<=4294967296) :
 Ca 147 #[pt R 0,r.val] w fun e w'=>e=.returned (S.cancel r).1.val/\xU w w' B R (S.cancel r).2 ap lp cp vo va S.os.length:=by
 have HF:=bJ h hl r ho
 unfold Sal.cancel
 cases hf:oM S.os r.cust r.order with
 | none =>
   rw [hf] at HF
   exact (Ke R r w HF).mono (by rintro e w' ⟨rfl,hb⟩;exact ⟨rfl,kU h hI hb⟩)
 | some i =>
   rw [hf] at HF
   obtain ⟨hi,_,_⟩:=Vb ho.1 hf
   obtain ⟨g,cap,hvo,hgw,_,_,hoc,_⟩:=eF h hi
   obtain ⟨_,_,_,_,_,_,_,_,_,c9,_⟩:=jS h.blk
   rw [hvo] at c9
   simp only
   have hown:∀ b,vo.ownBlock=some b↔b=g:=fun b=>by rw [hvo];simp [Value.ownBlock];exact eq_comm
   by_cases hs:(S.os.getD i qD).state≠13/\(S.os.getD i qD).state≠12
   ·rw [uQ hs]
    exact (Jf R g cap _ i r w c9 hi _ hoc.2.2.1 hgw hs HF).mono (by rintro e w' ⟨rfl,hb⟩;exact ⟨rfl,kU h hI hb⟩)
   ·rw [uP hs]
    have hs':(S.os.getD i qD).state=13\/(S.os.getD i qD).state=12:=by
     by_cases e:(S.os.getD i qD).state=13
     ·exact .inl e
     ·exact .inr (Classical.byContradiction fun e2=>hs ⟨e,e2⟩)
    have hIe:salI (S.ends i 16):=rN hI hi 16 (.inr vO) (fun e=>by cases e)
    refine Lk R g cap _ i r w c9 hi _ hoc.2.2.1 hgw hs' (fun w2=>xU w w2 B R (S.ends i 16) ap lp cp vo va S.os.length) (fun w3=>xU w w3 B R (S.ends i 16).promote ap lp cp vo va S.os.length) _ HF (fun W hb=>?_) (fun W hW=>?_) (fun W W' hW hs=>rL h uO hW hs)
    ·refine (mF (qL h hb) hi 16 W (uM _ _)).mono ?_
     rintro e w' ⟨rfl,a1,a2⟩
     exact ⟨rfl,⟨a1,hIe,jU S i 16,Same.trans (Same.of_below (own:=fun _=>False) hb) a2 (fun k _ e=>e.elim False.elim id)⟩,⟨a2.os,a2.tape,a2.output,a2.size,fun k hk hn=>a2.block k hk (fun c=>hn ((hown k).1 c))⟩⟩
    ·obtain ⟨b1,b2,b3,b4⟩:=hW
     refine (gE B R _ ap lp cp vo va W b1 b2 (by rw [b3];exact hl)).mono ?_
     rintro e w' ⟨rfl,a1,a2,a3⟩
     exact ⟨rfl,⟨a1,a2,(jL _).trans b3,Same.trans b4 a3 (fun k _ e=>e.elim id id)⟩,⟨a3.os,a3.tape,a3.output,a3.size,fun k hk hn=>a3.block k hk (fun c=>hn ((hown k).1 c))⟩⟩
end
end
theorem Ys (R:Nat) (r:Req) (w:World)
 (HF:Hid (∀ W,Below w.heap.size w W->Ca 164 #[pt R 0,r.val] W fun e w'=>e=.returned (iv (-1))/\Below W.heap.size W w')) :
 Ca 146 #[pt R 0,r.val] w fun e w'=>e=.returned (.agg #[iv 9,iv 0,iv 0,iv 0])/\Below w.heap.size w w':=by
 obtain ⟨k,t,c,u,o⟩:=r
 unfold Req.val at HF ⊢
 simp only at HF ⊢
 go_enter Tryz.func146,Tryz.ntmps146
 go_wp2_with (go_at_call 164;refine (HF.out _ bL).mono ?_;rintro e w1 ⟨rfl,b1⟩
              have hz1:w.heap.size+2<=w1.heap.size:=by have:=b1.size;simpa using this
              have n0:=(b1.block _ vS).trans (zq2 w #[iv k,iv t,iv c,iv u,iv o] 39 #[iv 0,iv 0,iv 0,iv 0] 33).out
              obtain ⟨s0,s1,s2,s3⟩:=qC n0
              have f0:=qA n0 0
              have f1:=qA n0 1
              have f2:=qA n0 2
              have f3:=qA n0 3
              have w01:Bl w w1:=uL (show Below w.heap.size w _ from bL) (b1.mono uS)
              have hsz0:w.heap.size<w1.heap.size:=uO
              have hsz1:w.heap.size+1<w1.heap.size:=by omega)
 refine uK (v:=.agg #[iv 9,iv 0,iv 0,iv 0]) (by simp [results,Tryz.results146,go_sem,s0,s1,s2,s3]) rfl ⟨rfl,?_⟩
 exact bL
theorem Zi (R g cap n i:Nat) (r:Req) (w:World) (h9:w.cell? ⟨R,9,none⟩=some (.slice (some ⟨g,0,none⟩) n cap)) (hi:i<n) (st:Int) (e2:w.cell? ⟨g,i * 6+2,none⟩=some (iv st)) (hgw:g<w.heap.size) (hs:st≠13)
 (HF:Hid (∀ W,Below w.heap.size w W->Ca 164 #[pt R 0,r.val] W fun e w'=>e=.returned (iv i)/\Below W.heap.size W w')) :
 Ca 146 #[pt R 0,r.val] w fun e w'=>e=.returned (.agg #[iv 9,iv 0,iv 0,iv 0])/\Below w.heap.size w w':=by
 obtain ⟨k,t,c,u,o⟩:=r
 unfold Req.val at HF ⊢
 simp only at HF ⊢
 have hRw:R<w.heap.size:=uC w _ h9
 have b0:(0:Int)<=(i:Int):=uO
 have b1':(i:Int)<(n:Int):=uO
 have bn:decide ((i:Int)<0)=false:=by simp
 have hs1:(st != 13)=true:=by simpa using hs
 go_enter Tryz.func146,Tryz.ntmps146
 go_wp2_with (go_at_call 164;refine (HF.out _ bL).mono ?_;rintro e w1 ⟨rfl,b1⟩
              have hz1:w.heap.size+2<=w1.heap.size:=by have:=b1.size;simpa using this
              have n0:=(b1.block _ vS).trans (zq2 w #[iv k,iv t,iv c,iv u,iv o] 39 #[iv 0,iv 0,iv 0,iv 0] 33).out
              obtain ⟨s0,s1,s2,s3⟩:=qC n0
              have f0:=qA n0 0
              have f1:=qA n0 1
              have f2:=qA n0 2
              have f3:=qA n0 3
              have w01:Bl w w1:=uL (show Below w.heap.size w _ from bL) (b1.mono uS)
              have hsz0:w.heap.size<w1.heap.size:=uO
              have hsz1:w.heap.size+1<w1.heap.size:=uO
              have d9:=(w01.cell (p:=⟨R,9,none⟩) hRw).trans h9
              have q2:=(w01.cell (p:=⟨g,i * 6+2,none⟩) hgw).trans e2
              have qo:w1.cell? ⟨w.heap.size,4,none⟩=some (iv o):=(b1.cell (p:=⟨w.heap.size,4,none⟩) uS).trans uU
              have hRw1:R<w1.heap.size:=uO
              have hgw1:g<w1.heap.size:=by omega)
 refine uK (v:=.agg #[iv 9,iv 0,iv 0,iv 0]) (by simp [results,Tryz.results146,go_sem,s0,s1,s2,s3]) rfl ⟨rfl,?_⟩
 exact bL
theorem rX {own:Nat->Prop} {a w:World} (h:Same own a w):Same own a w.drew:=⟨h.os,h.tape,h.output,h.size,h.block⟩
def yM (S:Sal) (qs:List Nat):Sal:=qs.foldl (fun S q=>if S.left<(S.os.getD q qD).units then S.ends q 18 else S) S
theorem wK (S:Sal) (qs:List Nat) {k:Nat} (h:k<qs.length):yM S (qs.take (k+1))=if (yM S (qs.take k)).left<((yM S (qs.take k)).os.getD (qs.getD k 0) qD).units then (yM S (qs.take k)).ends (qs.getD k 0) 18 else yM S (qs.take k):=by
 have g:qs.getD k 0=qs[k]:=by simp [List.getD,uD h]
 unfold yM
 rw [List.take_succ_eq_append_getElem h,List.foldl_append,g]
 rfl
theorem Vc (R g cap n i:Nat) (r:Req) (w:World) (h9:w.cell? ⟨R,9,none⟩=some (.slice (some ⟨g,0,none⟩) n cap)) (hi:i<n) (st:Int) (e2:w.cell? ⟨g,i * 6+2,none⟩=some (iv st)) (hgw:g<w.heap.size) (hs:st=13) (qs:List Nat) (hqs:∀ q∈qs,q<n) (hql:qs.length * 48<=140737488351232) (m:Int)
 (Q1:World->Prop) (QD:Nat->World->Prop) (QP Q3:World->Prop) (dl:Nat->Int) (du:Nat->Int)
 (HF:Hid (∀ W,Below w.heap.size w W->Ca 164 #[pt R 0,r.val] W fun e w'=>e=.returned (iv i)/\Below W.heap.size W w'))
 (HE:Hid (∀ W,Below w.heap.size w W->Ca 149 #[pt R 0,iv i,iv 14] W fun e w'=>e=.returned (.tuple #[])/\Q1 w'/\Same (fun b=>b=g) W w'))
 (HQU:Hid (∀ W,Q1 W->Ca 120 #[pt R 0] W fun e w'=>∃ out,e=.returned out/\w'.ownsRow W.heap.size 3 1 out qs.length (qs.map Xv)/\Below W.heap.size W w'))
 (HQ0:Hid (∀ W W',Q1 W->Below W.heap.size W W'->QD 0 W'))
 (HQB:Hid (∀ k W W',QD k W->Below W.heap.size W W'->QD k W'))
 (HQR:Hid (∀ k W,QD k W->W.cell? ⟨R,9,none⟩=some (.slice (some ⟨g,0,none⟩) n cap)/\R<W.heap.size/\g<W.heap.size/\(k<qs.length->W.cell? ⟨g,qs.getD k 0 * 6+1,none⟩=some (iv (du k)))))
 (HLE:Hid (∀ k W,QD k W->Ca 148 #[pt R 0] W fun e w'=>e=.returned (iv (dl k))/\Below W.heap.size W w'))
 (HDR:Hid (∀ k W,k<qs.length->dl k<du k->QD k W->Ca 149 #[pt R 0,iv (qs.getD k 0:Nat),iv 18] W fun e w'=>e=.returned (.tuple #[])/\QD (k+1) w'/\Same (fun b=>b=g) W w'))
 (HND:Hid (∀ k W,k<qs.length->du k<=dl k->QD k W->QD (k+1) W))
 (HP:Hid (∀ W,QD qs.length W->Ca 150 #[pt R 0] W fun e w'=>e=.returned (.tuple #[])/\QP w'/\Same (fun b=>b=g) W w'/\∃ a b:Int,w'.cell? ⟨R,9,none⟩=some (.slice (some ⟨g,0,none⟩) n cap)/\w'.cell? ⟨g,i * 6+1,none⟩=some (iv a)/\w'.cell? ⟨g,i * 6+3,none⟩=some (iv b)/\a * b=m/\R<w'.heap.size/\g<w'.heap.size))
 (hm:0<=m/\m<=4611686018427387904)
 (HQ:Hid (∀ W W',QP W->Same (fun b=>b=w.heap.size+1) W W'->Q3 W')) :
 Ca 146 #[pt R 0,r.val] w fun e w'=>e=.returned (.agg #[iv 7,iv r.order,iv m,iv 0])/\Q3 w':=by
 obtain ⟨k,t,c,u,o⟩:=r
 unfold Req.val at HF ⊢
 simp only at HF ⊢
 have hRw:R<w.heap.size:=uC w _ h9
 have b0:(0:Int)<=(i:Int):=uO
 have b1':(i:Int)<(n:Int):=uO
 have bn:decide ((i:Int)<0)=false:=by simp
 subst hs
 go_enter Tryz.func146,Tryz.ntmps146
 go_wp2_with (first
  | (go_at_call 164;refine (HF.out _ bL).mono ?_;rintro e w1 ⟨rfl,b1⟩
     have hz1:w.heap.size+2<=w1.heap.size:=by have:=b1.size;simpa using this
     have n0:=(b1.block _ vS).trans (zq2 w #[iv k,iv t,iv c,iv u,iv o] 39 #[iv 0,iv 0,iv 0,iv 0] 33).out
     obtain ⟨s0,s1,s2,s3⟩:=qC n0
     have f0:=qA n0 0
     have f1:=qA n0 1
     have f2:=qA n0 2
     have f3:=qA n0 3
     have w01:Below w.heap.size w w1:=uL (show Below w.heap.size w _ from bL) (b1.mono uS)
     have hsz0:w.heap.size<w1.heap.size:=uO
     have hsz1:w.heap.size+1<w1.heap.size:=uO
     have d9:=(w01.cell (p:=⟨R,9,none⟩) hRw).trans h9
     have q2:=(w01.cell (p:=⟨g,i * 6+2,none⟩) hgw).trans e2
     have qo:w1.cell? ⟨w.heap.size,4,none⟩=some (iv o):=(b1.cell (p:=⟨w.heap.size,4,none⟩) uS).trans uU
     have hRw1:R<w1.heap.size:=uO
     have hgw1:g<w1.heap.size:=by omega)
  | (go_at_call 149;refine (HE.out _ (by first|exact w01|exact bL)).mono ?_;rintro e w2 ⟨rfl,hq1,hs2⟩
     have n2:=(hs2.block (w.heap.size+1) hsz1 (show w.heap.size+1≠g by omega)).trans n0
     have qo2:=(hs2.cell (b:=w.heap.size) (o:=4) hsz0 (show w.heap.size≠g by omega)).trans qo
     have hz2:=hs2.size)
  | (go_at_call 120;refine (HQU.out _ hq1).mono ?_;rintro e w3 ⟨out,rfl,hout,b3⟩
     obtain ⟨oa,oc,rfl⟩:=yE hout
     have hd3:=HQ0.out _ _ hq1 b3
     have n3:=(b3.block (w.heap.size+1) uO).trans n2
     have qo3:=(b3.cell (p:=⟨w.heap.size,4,none⟩) (by show w.heap.size<_;omega)).trans qo2
     have hz3:=b3.size))
 have HN3:Hid (w3.heap[w.heap.size+1]?=some (.cells #[iv 0,iv 0,iv 0,iv 0] 33)/\w3.cell? ⟨w.heap.size,4,none⟩=some (iv o)/\w3.ownsRow w2.heap.size 3 1 (.slice oa qs.length oc) qs.length (qs.map Xv)):=⟨n3,qo3,hout⟩
 clear n3 qo3 hout n2 qo2 hs2 n0 s0 s1 s2 s3 f0 f1 f2 f3 qo q2 d9 b1 w01 HE HQU HQ0 hq1 b3 h9 e2
 go_loopw [7] (fun i wr=>∃ k:Nat,k<=qs.length/\i=iv k/\Hid (QD k wr)/\Hid (wr.heap[w.heap.size+1]?=some (.cells #[iv 0,iv 0,iv 0,iv 0] 33)/\wr.cell? ⟨w.heap.size,4,none⟩=some (iv o)/\wr.ownsRow w2.heap.size 3 1 (.slice oa qs.length oc) qs.length (qs.map Xv))/\w3.heap.size<=wr.heap.size) (fun i _=>qs.length - (intOf i).toNat)
 case atStart=>exact ⟨0,Nat.zero_le _,rfl,hd3,HN3,uA _⟩
 case round =>
  obtain ⟨k,hk,rfl,hQ,HN,hzr⟩:=hrel
  obtain ⟨r9,hRr,hgr,hu⟩:=HQR.out k wr hQ.out
  by_cases hlt:k<qs.length
  ·have hu1:=hu hlt
   have hqk:qs.getD k 0<n:=by
    have:qs.getD k 0=qs[k]:=by simp [List.getD,uD hlt]
    rw [this]
    exact hqs _ (List.getElem_mem hlt)
   obtain ⟨qb,hqb,hqv⟩:∃ qb,oa=some ⟨qb,0,none⟩/\w2.heap.size<=qb:=by
    rcases HN.out.2.2.2 with ⟨_,h0⟩|⟨g',c',cur,hv,hB,_⟩
    ·omega
    ·simp at hv
     exact ⟨g',hv.1,hB⟩
   subst hqb
   have zq:wr.cell? ⟨qb,k,none⟩=some (iv (qs.getD k 0:Nat)):=by
    have:=HN.out.2.2.cells (g:=qb) rfl k (Xv (qs.getD k 0)) (by simp [uD hlt,List.getD])
    simpa [Addr.add_lit,Xv] using this
   have hqbr:qb<wr.heap.size:=uC wr _ zq
   have HLE2:Hid (∀ W,Below wr.heap.size wr W->Ca 148 #[pt R 0] W fun e w'=>e=.returned (iv (dl k))/\Below W.heap.size W w'):=fun W hb=>HLE.out k W (HQB.out k _ _ hQ.out hb)
   have k0:(0:Int)<=(k:Int):=uO
   have k1:(k:Int)<(qs.length:Int):=uO
   have q0:(0:Int)<=((qs.getD k 0:Nat):Int):=uO
   have q1:((qs.getD k 0:Nat):Int)<(n:Int):=uO
   have HDR2:Hid (dl k<du k->∀ W,Below wr.heap.size wr W->Ca 149 #[pt R 0,iv (qs.getD k 0:Nat),iv 18] W fun e w'=>e=.returned (.tuple #[])/\QD (k+1) w'/\Same (fun b=>b=g) W w'):=fun hd W hb=>HDR.out k W hlt hd (HQB.out k _ _ hQ.out hb)
   have HND2:Hid (du k<=dl k->∀ W,Below wr.heap.size wr W->QD (k+1) W):=fun hd W hb=>HND.out k W hlt hd (HQB.out k _ _ hQ.out hb)
   generalize qs.getD k 0=qk at hu1 hqk zq q0 q1 HDR2
   generalize dl k=dlk at HLE2 HDR2 HND2
   generalize du k=duk at hu1 HDR2 HND2
   clear hu HLE HDR HND HQB
   go_wp2_with fail
   go_region_held3 (fun w'=>w'.cell? ⟨R,9,none⟩=some (.slice (some ⟨g,0,none⟩) n cap)/\w'.cell? ⟨qb,k,none⟩=some (iv qk)/\w'.cell? ⟨g,qk * 6+1,none⟩=some (iv duk)) (simp [go_sem, *])
    (first|(go_at_call 148;refine (HLE2.out _ bL).mono ?_;rintro e w4 ⟨rfl,b⟩
            have e0:=(b.cell (p:=⟨R,9,none⟩) uS).trans (uN:_=some (.slice (some ⟨g,0,none⟩) n cap))
            have e1:=(b.cell (p:=⟨qb,k,none⟩) uS).trans (uN:_=some (iv qk))
            have e2:=(b.cell (p:=⟨g,qk * 6+1,none⟩) uS).trans (uN:_=some (iv duk))))
   clear e0 e1 e2
   have hb4:Below wr.heap.size wr w4:=uL (show Below wr.heap.size wr _ from bL) (b.mono vS)
   have zq4:=(hb4.cell (p:=⟨qb,k,none⟩) hqbr).trans zq
   have HN4:Hid (w4.heap[w.heap.size+1]?=some (.cells #[iv 0,iv 0,iv 0,iv 0] 33)/\w4.cell? ⟨w.heap.size,4,none⟩=some (iv o)/\w4.ownsRow w2.heap.size 3 1 (.slice (some ⟨qb,0,none⟩) qs.length oc) qs.length (qs.map Xv)):=⟨(hb4.block _ uO).trans HN.out.1,(hb4.cell (p:=⟨w.heap.size,4,none⟩) (by show w.heap.size<_;omega)).trans HN.out.2.1,qH HN.out.2.2 hb4 (uA _)⟩
   have hz4:=hb4.size
   clear b zq hu1
   by_cases hd:dlk<duk
   ·have hd':decide (dlk<duk)=true:=by simpa using hd
    have HDR3:=HDR2.out hd
    have HDR4:Hid (∀ W,Below wr.heap.size wr W->Ca 149 #[pt R 0,iv qk,iv 18] W fun e w'=>e=.returned (.tuple #[])/\QD (k+1) w'/\Same (fun b=>b=g) W w'):=HDR3
    clear HDR3
    go_wp2_with (go_at_call 149;refine (HDR4.out _ (by first|exact hb4|exact bL)).mono ?_;rintro e w5 ⟨rfl,hq5,hs5⟩)
    have HN5:Hid (w5.heap[w.heap.size+1]?=some (.cells #[iv 0,iv 0,iv 0,iv 0] 33)/\w5.cell? ⟨w.heap.size,4,none⟩=some (iv o)/\w5.ownsRow w2.heap.size 3 1 (.slice (some ⟨qb,0,none⟩) qs.length oc) qs.length (qs.map Xv)):=⟨(hs5.block _ uO (show w.heap.size+1≠g by omega)).trans HN4.out.1,(hs5.cell (b:=w.heap.size) (o:=4) uO (show w.heap.size≠g by omega)).trans HN4.out.2.1,qG HN4.out.2.2 (fun x hx=>hs5.block x (uJ HN4.out.2.2 x hx).2 (show x≠g by have:=(uJ HN4.out.2.2 x hx).1;omega))⟩
    have hz5:=hs5.size
    exact ⟨⟨k+1,uO,vN,hq5,HN5,uO⟩,by simp [intOf];omega⟩
   ·have hd':decide (dlk<duk)=false:=by simpa using hd
    have hq5:=HND2.out uO w4 hb4
    go_wp2
    exact ⟨⟨k+1,uO,vN,hq5,HN4,uO⟩,by simp [intOf];omega⟩
  ·have hke:k=qs.length:=uO
   subst hke
   have HP2:Hid (Ca 150 #[pt R 0] wr fun e w'=>e=.returned (.tuple #[])/\QP w'/\Same (fun b=>b=g) wr w'/\∃ a b:Int,w'.cell? ⟨R,9,none⟩=some (.slice (some ⟨g,0,none⟩) n cap)/\w'.cell? ⟨g,i * 6+1,none⟩=some (iv a)/\w'.cell? ⟨g,i * 6+3,none⟩=some (iv b)/\a * b=m/\R<w'.heap.size/\g<w'.heap.size):=HP.out wr hQ.out
   clear HP HQR HLE HDR HND HQB hu
   go_wp2_with (go_at_call 150;refine HP2.out.mono ?_;rintro e w5 ⟨rfl,hqp,hs5,x,y,y9,y1,y3,hxy,hR5,hg5⟩
                have n5:=(hs5.block (w.heap.size+1) uO (show w.heap.size+1≠g by omega)).trans HN.out.1
                have qo5:=(hs5.cell (b:=w.heap.size) (o:=4) uO (show w.heap.size≠g by omega)).trans HN.out.2.1
                obtain ⟨t0,t1,t2,t3⟩:=qC n5
                have g0:=qA n5 0
                have g1:=qA n5 1
                have g2:=qA n5 2
                have g3:=qA n5 3
                have hz5:=hs5.size
                have hv5:w.heap.size<w5.heap.size:=uO
                have hw5:w.heap.size+1<w5.heap.size:=uO
                have hwr:Hid (IntKind.i64.wrap (x * y)=m):=by rw [hxy];exact yA uO uO
                clear n5)
   have ng:g≠w.heap.size+1:=uO
   have nR:R≠w.heap.size+1:=uO
   have nw:w.heap.size≠w.heap.size+1:=uO
   clear HN HN3 hQ hd3 hs5 HP2 hzr
   clear hxy hm
   go_region_held3 (fun w'=>w'.cell? ⟨w.heap.size,4,none⟩=some (iv o)/\w'.cell? ⟨R,9,none⟩=some (.slice (some ⟨g,0,none⟩) n cap)/\w'.cell? ⟨g,i * 6+1,none⟩=some (iv x)/\w'.cell? ⟨g,i * 6+3,none⟩=some (iv y)) (simp [go_sem, *]) (fail)
   rw [hwr.out]
   go_wp2
   refine uK (v:=.agg #[iv 7,iv o,iv m,iv 0]) (by simp [results,Tryz.results146,go_sem,t0,t1,t2,t3]) rfl ⟨rfl,?_⟩
   exact HQ.out w5 _ hqp (rX (dJ _ _ _ _ _ _))
