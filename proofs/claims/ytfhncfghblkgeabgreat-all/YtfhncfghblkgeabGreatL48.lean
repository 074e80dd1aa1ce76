import Derived.Test.YtfhncfghblkgeabGreatL41
import Derived.Test.YtfhncfghblkgeabGreatL47
set_option maxRecDepth 100000
set_option maxHeartbeats 2000000
namespace Go.Proofs.YtfhncfghblkgeabGreat
open Go.RowKit
section
structure Al where
 S:SS
 T:TS
 Lb:List Value
 vb:Value
def Pd (σ:Al) (b:Nat):Prop:=σ.vb.ownBlock=some b\/∃ m∈σ.Lb,m.ownBlock=some b
structure invA (PS:World->Nat->(Nat->Prop)->Sal->Prop) (W:World) (ac:Option Addr) (lc cc:Nat) (j:Nat) (σ:Al) (w:World):Prop where
 S:invS PS W ac lc cc σ.T.vt σ.vb σ.T.vd j σ.S w
 T:invT W ac lc cc σ.S.vs σ.vb j σ.T w
 B:w.ownsRow (W.heap.size+1) 70 1 σ.vb σ.Lb.length σ.Lb
 lenB:σ.Lb.length<=j
 marks:∀ i,i<σ.Lb.length->marked w W.heap.size i (σ.Lb.getD i undef)
 ST:∀ b,Ic σ.S b->¬ Dx σ.T b
 SB:∀ b,Ic σ.S b->¬ Pd σ b
 TB:∀ b,Dx σ.T b->¬ Pd σ b
def Ww (W:World) (σ:Al) (b:Nat):Prop:=b=W.heap.size\/Ic σ.S b\/Dx σ.T b\/Pd σ b
theorem nK {w w':World} {P i:Nat} {v:Value} (h:marked w P i v) (hk:∀ k,v.ownBlock=some k->w'.heap[k]?=w.heap[k]?):marked w' P i v:=by
 rcases h with h|⟨g,n,h1,h2,h3,h4⟩
 ·exact .inl h
 ·exact .inr ⟨g,n,h1,h2,h3,(hk g (by rw [h1];rfl)).trans h4⟩
theorem eU {w:World} {P i k:Nat} {v:Value} (h:marked w P i v) (hk:v.ownBlock=some k):P<k/\k<w.heap.size/\∃ C,w.heap[k]?=some (.cells C 5):=by
 rcases h with h|⟨g,n,h1,h2,h3,h4⟩
 ·rw [h] at hk;simp [Value.ownBlock] at hk
 ·rw [h1] at hk
  simp [Value.ownBlock] at hk
  subst hk
  exact ⟨h3,(blt h4),_,h4⟩
theorem Rx {L:List Value} {i:Nat} (h:i<L.length):L.getD i undef∈L:=by
 simp only [List.getD,uD h,Option.getD_some]
 exact List.getElem_mem h
section
variable {PS:World->Nat->(Nat->Prop)->Sal->Prop} {W:World} {ac:Option Addr} {lc cc j:Nat} {σ:Al} {w w':World}
theorem eG (K:SendOK PS) {c2 c3 c4:Value} {σ:SS} (h:invS PS W ac lc cc c2 c3 c4 j σ w) {b:Nat} (hb:Ic σ b):W.heap.size<b/\b<w.heap.size:=by
 rcases hb with e|⟨a,e,he,hb⟩
 ·have:=uJ h.ss b e
  exact ⟨uO,this.2⟩
 ·exact ⟨(h.far a e he b hb).1,dO K (h.ent a e he) hb⟩
theorem lR {c1 c3:Value} {σ:TS} (h:invT W ac lc cc c1 c3 j σ w) {b:Nat} (hb:Dx σ b):W.heap.size<b/\b<w.heap.size:=by
 rcases hb with e|e|⟨m,hm,e⟩|⟨a,e,he,hb⟩
 ·have:=uJ h.ts b e
  exact ⟨uO,this.2⟩
 ·have:=uJ h.dues b e
  exact ⟨uO,this.2⟩
 ·obtain ⟨h1,h2,_⟩:=Zo h hm e
  exact ⟨h1,h2⟩
 ·exact ⟨(h.far a e he b hb).1,cN (h.ent a e he) hb⟩
theorem nT (h:invA PS W ac lc cc j σ w) {b:Nat} (hb:Pd σ b):W.heap.size<b/\b<w.heap.size:=by
 rcases hb with e|⟨m,hm,e⟩
 ·have:=uJ h.B b e
  exact ⟨uO,this.2⟩
 ·obtain ⟨i,hi,rfl⟩:=Ow hm
  obtain ⟨h1,h2,_⟩:=eU (h.marks i hi) e
  exact ⟨h1,h2⟩
theorem Zr {σ:SS} {b:Nat} (h:ZQ W σ b):b=W.heap.size\/Ic σ b:=by
 rcases h with h|h|⟨a,e,he,hb⟩
 ·exact .inl h
 ·exact .inr (.inl h)
 ·exact .inr (.inr ⟨a,e,he,hb⟩)
theorem cO {σ:TS} {b:Nat} (h:ZP W σ b):b=W.heap.size\/Dx σ b:=by
 rcases h with h|h|h|⟨a,e,he,hb⟩
 ·exact .inl h
 ·exact .inr (.inl h)
 ·exact .inr (.inr (.inl h))
 ·exact .inr (.inr (.inr (.inr ⟨a,e,he,hb⟩)))
theorem wI (h:invA PS W ac lc cc j σ w) (hk:∀ b,Pd σ b->w'.heap[b]?=w.heap[b]?):w'.ownsRow (W.heap.size+1) 70 1 σ.vb σ.Lb.length σ.Lb/\∀ i,i<σ.Lb.length->marked w' W.heap.size i (σ.Lb.getD i undef) :=
 ⟨qG h.B (fun k e=>hk k (.inl e)),fun i hi=>nK (h.marks i hi) (fun k e=>hk k (.inr ⟨_,Rx hi,e⟩))⟩
theorem Tx (h:invA PS W ac lc cc j σ w) (hs:Qf PS W ac lc cc σ.T.vt σ.vb σ.T.vd j σ.S w w'):(∃ σ',invA PS W ac lc cc (j+1) σ' w')/\Same (Ww W σ) w w':=by
 obtain ⟨σ',h1,h2,h3⟩:=hs
 have kT:∀ b,Dx σ.T b->w'.heap[b]?=w.heap[b]?:=fun b hb=>h2.block b (lR h.T hb).2 (fun c=>by
  rcases Zr c with c|c
  ·have:=(lR h.T hb).1;omega
  ·exact h.ST b c hb)
 have kB:∀ b,Pd σ b->w'.heap[b]?=w.heap[b]?:=fun b hb=>h2.block b (nT h hb).2 (fun c=>by
  rcases Zr c with c|c
  ·have:=(nT h hb).1;omega
  ·exact h.SB b c hb)
 obtain ⟨b1,b2⟩:=wI h kB
 refine ⟨⟨⟨σ',σ.T,σ.Lb,σ.vb⟩,h1,wF h.T h1.world h1.bel h2.size kT,b1,Nat.le_succ_of_le h.lenB,b2,fun b hb c=>?_,fun b hb c=>?_,h.TB⟩,⟨h2.os,h2.tape,h2.output,h2.size,fun k hk hn=>h2.block k hk (fun c=>hn ((Zr c).imp id .inl))⟩⟩
 ·rcases h3 b hb with d|d
  ·exact h.ST b d c
  ·have:=(lR h.T c).2;omega
 ·rcases h3 b hb with d|d
  ·exact h.SB b d c
  ·have:=(nT h c).2;omega
theorem Hq (K:SendOK PS) (h:invA PS W ac lc cc j σ w) (hs:Fv W ac lc cc σ.S.vs σ.vb j σ.T w w'):(∃ σ',invA PS W ac lc cc (j+1) σ' w')/\Same (Ww W σ) w w':=by
 obtain ⟨σ',h1,h2,h3⟩:=hs
 have kB:∀ b,Pd σ b->w'.heap[b]?=w.heap[b]?:=fun b hb=>h2.block b (nT h hb).2 (fun c=>by
  rcases cO c with c|c
  ·have:=(nT h hb).1;omega
  ·exact h.TB b c hb)
 obtain ⟨b1,b2⟩:=wI h kB
 have hS:=wV K h.S (c2':=σ'.vt) (c3':=σ.vb) (c4':=σ'.vd) h1.world h1.bel h2 (fun b hb c=>by
  rcases cO c with c|c
  ·have:=(eG K h.S hb).1;omega
  ·exact h.ST b hb c) (fun b c=>by
  rcases cO c with c|c
  ·omega
  ·have:=(lR h.T c).1;omega)
 refine ⟨⟨⟨σ.S,σ',σ.Lb,σ.vb⟩,hS,h1,b1,Nat.le_succ_of_le h.lenB,b2,fun b hb c=>?_,h.SB,fun b hb c=>?_⟩,⟨h2.os,h2.tape,h2.output,h2.size,fun k hk hn=>h2.block k hk (fun c=>hn ((cO c).imp id (fun c=>.inr (.inl c))))⟩⟩
 ·rcases h3 b c with d|d
  ·exact h.ST b hb d
  ·have:=(eG K h.S hb).2;omega
 ·rcases h3 b hb with d|d
  ·exact h.TB b d c
  ·have:=(nT h c).2;omega
theorem An (K:SendOK PS) (h:invA PS W ac lc cc j σ w) (hs:packedAns w w' W.heap.size (.slice ac lc cc) σ.S.vs σ.T.vt σ.vb σ.T.vd σ.Lb):(∃ σ',invA PS W ac lc cc (j+1) σ' w')/\Same (Ww W σ) w w':=by
 obtain ⟨v,vb',g1,g2,g3,g4,g5,g6⟩:=hs
 have hP:W.heap.size<w.heap.size:=(blt h.S.world)
 have hbel:Below W.heap.size W w':=⟨g4.os.trans h.S.bel.os,g4.tape.trans h.S.bel.tape,g4.output.trans h.S.bel.output,uX h.S.bel.size g4.size,fun k hk=>by
  rw [g4.block k uO (fun c=>c.elim (fun c=>uO) (fun c=>by have:=(uJ h.B k c).1;omega))]
  exact h.S.bel.block k hk⟩
 have kT:∀ b,Dx σ.T b->w'.heap[b]?=w.heap[b]?:=fun b hb=>g4.block b (lR h.T hb).2 (fun c=>c.elim (fun c=>by have:=(lR h.T hb).1;omega) (fun c=>h.TB b hb (.inl c)))
 have hS:=wV K h.S (c2':=σ.T.vt) (c3':=vb') (c4':=σ.T.vd) g1 hbel g4 (fun b hb c=>c.elim (fun c=>by have:=(eG K h.S hb).1;omega) (fun c=>h.SB b hb (.inl c))) (fun b c=>c.elim (fun c=>uO) (fun c=>by have:=(uJ h.B b c).1;omega))
 have hnew:∀ b,Pd ⟨σ.S,σ.T,σ.Lb++[v],vb'⟩ b->Pd σ b\/w.heap.size<=b:=fun b hb=>by
  rcases hb with e|⟨m,hm,e⟩
  ·exact (g5 b e).imp .inl id
  ·rcases List.mem_append.1 hm with hm|hm
   ·exact .inl (.inr ⟨m,hm,e⟩)
   ·have:m=v:=by simpa using hm
    rw [this] at e
    exact .inr (g6 b e)
 refine ⟨⟨⟨σ.S,σ.T,σ.Lb++[v],vb'⟩,hS,wF h.T g1 hbel g4.size kT,g2,by simp;exact h.lenB,fun i hi=>?_,h.ST,fun b hb c=>?_,fun b hb c=>?_⟩,⟨g4.os,g4.tape,g4.output,g4.size,fun k hk hn=>g4.block k hk (fun c=>hn (c.imp id (fun c=>.inr (.inr (.inl c)))))⟩⟩
 ·simp only [List.length_append,List.length_singleton] at hi
  by_cases hiL:i<σ.Lb.length
  ·show marked w' W.heap.size i ((σ.Lb++[v]).getD i undef)
   rw [Qo hiL]
   refine nK (h.marks i hiL) (fun k e=>?_)
   obtain ⟨m1,m2,C,hC⟩:=eU (h.marks i hiL) e
   exact g4.block k m2 (fun c=>c.elim (fun c=>uO) (Il h.B hC))
  ·have:i=σ.Lb.length:=uO
   subst this
   show marked w' W.heap.size σ.Lb.length ((σ.Lb++[v]).getD σ.Lb.length undef)
   rw [Jw]
   exact g3
 ·rcases hnew b c with d|d
  ·exact h.SB b hb d
  ·have:=(eG K h.S hb).2;omega
 ·rcases hnew b c with d|d
  ·exact h.TB b hb d
  ·have:=(lR h.T hb).2;omega
theorem lZ (K:SendOK PS) (h:invA PS W ac lc cc j σ w) (hb:Below w.heap.size w w'):invA PS W ac lc cc j σ w' :=
 ⟨aE K h.S hb,sV h.T hb,qH h.B hb (uA _),h.lenB,fun i hi=>nK (h.marks i hi) (fun k e=>hb.block k (eU (h.marks i hi) e).2.1),h.ST,h.SB,h.TB⟩
theorem Xw (h:invA PS W ac lc cc j σ w):invA PS W ac lc cc (j+1) σ w :=
 ⟨Ki h.S,Km h.T,h.B,Nat.le_succ_of_le h.lenB,h.marks,h.ST,h.SB,h.TB⟩
theorem Kj (K:SendOK PS) (h:invA PS W ac lc cc j σ w) (hb:Below w.heap.size w w'):(∃ σ',invA PS W ac lc cc (j+1) σ' w')/\Same (Ww W σ) w w':=⟨⟨σ,Xw (lZ K h hb)⟩,Same.of_below hb⟩
theorem St (K:SendOK PS) (h:invA PS W ac lc cc j σ w) {b:Nat} (hb:Ww W σ b):b<w.heap.size:=by
 rcases hb with rfl|hb|hb|hb
 ·exact (blt h.S.world)
 ·exact (eG K h.S hb).2
 ·exact (lR h.T hb).2
 ·exact (nT h hb).2
theorem Lv (W:World) (ac:Option Addr) (lc cc:Nat):invA PS W ac lc cc 0 ⟨⟨[],.slice none 0 0⟩,⟨[],.slice none 0 0,[],.slice none 0 0⟩,[],.slice none 0 0⟩ (W.alloc (.cells #[.slice ac lc cc,.slice none 0 0,.slice none 0 0,.slice none 0 0,.slice none 0 0] 81)):=by
 have e:∀ b,¬ Ic ⟨[],.slice none 0 0⟩ b:=fun b hb=>by
  rcases hb with e|⟨a,e,he,_⟩
  ·simp [Value.ownBlock] at e
  ·simp at he
 have e2:∀ b,¬ Dx ⟨[],.slice none 0 0,[],.slice none 0 0⟩ b:=fun b hb=>by
  rcases hb with e|e|⟨m,hm,_⟩|⟨a,e,he,_⟩
  ·simp [Value.ownBlock] at e
  ·simp [Value.ownBlock] at e
  ·simp at hm
  ·simp at he
 exact ⟨Gx W ac lc cc,Dt W ac lc cc,World.ownsRow_nil _ _ _ _,uA _,fun i hi=>by simp at hi,fun b hb=>absurd hb (e b),fun b hb=>absurd hb (e b),fun b hb=>absurd hb (e2 b)⟩
end
end
def rE (W:World) (b:Nat):Nat->List Value->World
 | _,[]=>W
 | o,v :: vs=>rE (W.sc b o v) b (o+1) vs
theorem rF {P P':World->(Nat->Prop)->Prop} {w W W':World} {own loc:Nat->Prop} (hw:∀ k,own k->k<w.heap.size) (hT:qX P w own loc W) (h:∀ o,P W o->zQ P' W W' o):qX P' w own loc W'/\∀ b,loc b->W'.heap[b]?=W.heap[b]?:=by
 obtain ⟨o1,a1,a2,a3,a4⟩:=hT
 obtain ⟨o2,b1,b2,b3⟩:=h o1 a1
 have z1:=a2.size
 have z2:=b2.size
 refine ⟨⟨o2,b1,Same.trans a2 b2 (fun k hk e=>e.elim id (fun e=>(a3 k e).elim id (fun e=>uO))),fun k e=>(b3 k e).elim (a3 k) (fun e=>.inr ⟨uO,fun c=>by have:=(a4 k c).2;omega⟩),fun k e=>⟨(a4 k e).1,by have:=(a4 k e).2;omega⟩⟩,fun b hb=>b2.block b (a4 b hb).2 (fun e=>?_)⟩
 rcases a3 b e with e|e
 ·have:=hw b e;have:=(a4 b hb).1;omega
 ·exact e.2 hb
theorem Jz (x n m j:Nat) (num z0 z1 z2 z3 z4 z5:Int) (w:World) (own:Nat->Prop) (hw:∀ k,own k->k<w.heap.size) (hnm:n=m+1) (hm:m<=4294967296) (hj:j<=m) (P0 P1 P2 P3 P4 P5:World->(Nat->Prop)->Prop) (K0:Keeps P0) (K1:Keeps P1) (K2:Keeps P2) (K4:Keeps P4) (h:P0 w own)
 (HG:Hid (jX w own P0 P0 62 #[pt x 11,.agg #[iv num,iv 0]] (.tuple #[iv j,.bool true])))
 (HC:Hid (∀ loc W,qX P0 w own loc W->∃ (b cap:Nat) (v0 v1 v2 v3 v4 v5:Value),x<W.heap.size/\b<W.heap.size/\W.cell? (aq x 13)=some (.slice (some (aq b 0)) n cap)/\W.cell? (aq b (m * 6))=some (iv z0)/\W.cell? (aq b (m * 6+1))=some (iv z1)/\W.cell? (aq b (m * 6+2))=some (iv z2)/\W.cell? (aq b (m * 6+3))=some (iv z3)/\W.cell? (aq b (m * 6+4))=some (iv z4)/\W.cell? (aq b (m * 6+5))=some (iv z5)/\W.cell? (aq b (j * 6))=some v0/\W.cell? (aq b (j * 6+1))=some v1/\W.cell? (aq b (j * 6+2))=some v2/\W.cell? (aq b (j * 6+3))=some v3/\W.cell? (aq b (j * 6+4))=some v4/\W.cell? (aq b (j * 6+5))=some v5/\W.frozen? (aq b (j * 6))=false/\W.frozen? (aq b (j * 6+1))=false/\W.frozen? (aq b (j * 6+2))=false/\W.frozen? (aq b (j * 6+3))=false/\W.frozen? (aq b (j * 6+4))=false/\W.frozen? (aq b (j * 6+5))=false/\qX P1 w own loc ((((((W.setCell (aq b (j * 6)) (iv z0)).setCell (aq b (j * 6+1)) (iv z1)).setCell (aq b (j * 6+2)) (iv z2)).setCell (aq b (j * 6+3)) (iv z3)).setCell (aq b (j * 6+4)) (iv z4)).setCell (aq b (j * 6+5)) (iv z5))/\∀ k,loc k->((((((W.setCell (aq b (j * 6)) (iv z0)).setCell (aq b (j * 6+1)) (iv z1)).setCell (aq b (j * 6+2)) (iv z2)).setCell (aq b (j * 6+3)) (iv z3)).setCell (aq b (j * 6+4)) (iv z4)).setCell (aq b (j * 6+5)) (iv z5)).heap[k]?=W.heap[k]?))
 (HP:Hid (jX w own P1 P2 99 #[pt x 11,.agg #[iv z0,iv 0],iv j] (.tuple #[])))
 (HR:Hid (jX w own P2 P3 137 #[pt x 11,.agg #[iv num,iv 0]] (.tuple #[])))
 (HL:Hid (∀ loc W,qX P3 w own loc W->∃ (b cap:Nat),x<W.heap.size/\n<=cap/\W.cell? (aq x 13)=some (.slice (some (aq b 0)) n cap)/\W.frozen? (aq x 13)=false/\qX P4 w own loc (W.setCell (aq x 13) (.slice (some (aq b 0)) m cap))))
 (HX1:Hid (∀ loc W,qX P1 w own loc W->x<W.heap.size)) (HX2:Hid (∀ loc W,qX P2 w own loc W->x<W.heap.size))
 (HS:Hid (jX w own P4 P5 160 #[pt x 11] (.tuple #[]))) :
 Ca 134 #[pt x 11,iv num] w fun e w'=>e=.returned (.tuple #[])/\zQ P5 w w' own:=by
 have he:wrap64 ((n:Int) - 1)=(m:Int):=by unfold wrap64;omega
 have d0:decide ((j:Int)<0)=false:=by simp
 have d1:decide ((m:Int)<(j:Int))=false:=by simp;omega
 have b0:(0:Int)<=(m:Int):=uO
 have b1:(m:Int)<(n:Int):=uO
 have b2:(0:Int)<=(j:Int):=uO
 have b3:(j:Int)<(n:Int):=uO
 replace hnm:Hid _:=hnm
 replace hw:Hid _:=hw
 go_enter Tryz.func134,Tryz.ntmps134
 go_wp2_with fail
 have kb:Hid ((w.alloc (.cells #[iv num,iv 0] 136)).heap[w.heap.size]?=some (.cells #[iv num,iv 0] 136)):=uF _ _
 have hT0:Hid (qX P0 w own (fun k=>k=w.heap.size) (w.alloc (.cells #[iv num,iv 0] 136))):=yH K0 h ((uM _ _).alloc (uA _) _) (by rintro k rfl;exact ⟨uA _,by simp⟩)
 generalize w.alloc (.cells #[iv num,iv 0] 136)=W0 at kb hT0 ⊢
 obtain ⟨y0,y1⟩:=qQ kb.out
 have hz:w.heap.size<W0.heap.size:=(blt kb.out)
 have hxW:x<W0.heap.size:=by
  obtain ⟨b,cap,v0,v1,v2,v3,v4,v5,hx,hb,hl,m0,m1,m2,m3,m4,m5,e0,e1,e2,e3,e4,e5,f0,f1,f2,f3,f4,f5,hs3,hs4⟩:=HC.out _ _ hT0.out
  exact hx
 go_region_held3 (fun w'=>w'.cell? (aq w.heap.size 0)=some (iv num)/\w'.cell? (aq w.heap.size 1)=some (iv 0)) (simp [go_sem, *])
  (first
    | (go_at_call 62;refine (HG.out _ _ (qI K0 hT0.out bL)).mono ?_;rintro e W1 ⟨rfl,hT1,hk⟩
       replace hT1:Hid _:=hT1
       have kb1:Hid (W1.heap[w.heap.size]?=some (.cells #[iv num,iv 0] 136)):=(hk w.heap.size rfl).trans kb.out
       obtain ⟨q0,q1⟩:=qQ kb1.out
       have hz1:w.heap.size<W1.heap.size:=(blt kb1.out)
       clear hk))
 clear y0 y1 hT0 kb HG hz hxW
 obtain ⟨b,cap,v0,v1,v2,v3,v4,v5,hx,hb,hl,m0,m1,m2,m3,m4,m5,e0,e1,e2,e3,e4,e5,f0,f1,f2,f3,f4,f5,hs3,hs4⟩:=HC.out _ _ hT1.out
 clear e0 f0 e1 f1 e2 f2 e3 f3 e4 f4 e5 f5 hs3 hs4
 go_wp2_with fail
 have lb:Hid ((W1.alloc (.cells #[iv z0,iv z1,iv z2,iv z3,iv z4,iv z5] 142)).heap[W1.heap.size]?=some (.cells #[iv z0,iv z1,iv z2,iv z3,iv z4,iv z5] 142)):=uF _ _
 have kb2:Hid ((W1.alloc (.cells #[iv z0,iv z1,iv z2,iv z3,iv z4,iv z5] 142)).heap[w.heap.size]?=some (.cells #[iv num,iv 0] 136)):=(uE _ _ _ hz1).trans kb1.out
 have hT2:Hid (qX P0 w own (fun k=>k=w.heap.size\/k=W1.heap.size) (W1.alloc (.cells #[iv z0,iv z1,iv z2,iv z3,iv z4,iv z5] 142))):=xI K0 hT1.out _
 clear hx hb hl m0 m1 m2 m3 m4 m5 q0 q1 hT1 kb1 hz1
 generalize W1.alloc (.cells #[iv z0,iv z1,iv z2,iv z3,iv z4,iv z5] 142)=W2 at lb kb2 hT2 ⊢
 generalize W1.heap.size=l at lb hT2 ⊢
 obtain ⟨b,cap,v0,v1,v2,v3,v4,v5,hx,hb,hl,m0,m1,m2,m3,m4,m5,e0,e1,e2,e3,e4,e5,f0,f1,f2,f3,f4,f5,hs3,hs4⟩:=HC.out _ _ hT2.out
 obtain ⟨s0,s1,s2,s3,s4,s5⟩:=qB lb.out
 have hlz:l<W2.heap.size:=(blt lb.out)
 replace hs3:Hid _:=hs3
 replace hs4:Hid _:=hs4
 clear m0 m1 m2 m3 m4 m5 HC
 go_region
 all_goals
  have hT3:=hs3.out
  have lb3:Hid _:=(hs4.out l (.inr rfl)).trans lb.out
  have kb3:Hid _:=(hs4.out w.heap.size (.inl rfl)).trans kb2.out
  clear hs3 hs4 hx hb hl e0 f0 s0 e1 f1 s1 e2 f2 s2 e3 f3 s3 e4 f4 s4 e5 f5 s5 hT2 lb kb2 hlz
  generalize ((((((W2.setCell (aq b (j * 6)) (iv z0)).setCell (aq b (j * 6+1)) (iv z1)).setCell (aq b (j * 6+2)) (iv z2)).setCell (aq b (j * 6+3)) (iv z3)).setCell (aq b (j * 6+4)) (iv z4)).setCell (aq b (j * 6+5)) (iv z5))=W3 at hT3 lb3 kb3 ⊢
  replace hT3:Hid (qX P1 w own (fun k=>k=w.heap.size\/k=l) W3):=hT3
  have u0:W3.cell? (aq l 0)=some (iv z0):=cB lb3.out
  have hx3:x<W3.heap.size:=HX1.out _ _ hT3.out
  have hlz:l<W3.heap.size:=(blt lb3.out)
  go_wp2_with fail
  go_region_held3 (fun w'=>w'.cell? (aq l 0)=some (iv z0)) (simp [go_sem, *])
   (first
     | (go_at_call 99;refine (HP.out _ _ (qI K1 hT3.out bL)).mono ?_;rintro e W4 ⟨rfl,hT4,hk⟩
        replace hT4:Hid _:=hT4
        have kb4:Hid (W4.heap[w.heap.size]?=some (.cells #[iv num,iv 0] 136)):=(hk w.heap.size (.inl rfl)).trans kb3.out
        have lb4:Hid (W4.heap[l]?=_):=(hk l (.inr rfl)).trans lb3.out
        have q0:W4.cell? (aq l 0)=some (iv z0):=cB lb4.out
        clear hk))
  clear u0 hx3 hlz hT3 lb3 kb3 q0 lb4 HP
  obtain ⟨y0,y1⟩:=qQ kb4.out
  have hx4:x<W4.heap.size:=HX2.out _ _ hT4.out
  have hz4:w.heap.size<W4.heap.size:=(blt kb4.out)
  go_wp2_with fail
  go_region_held3 (fun w'=>w'.cell? (aq w.heap.size 0)=some (iv num)/\w'.cell? (aq w.heap.size 1)=some (iv 0)) (simp [go_sem, *])
   (first
     | (go_at_call 137;refine (HR.out _ _ (qI K2 hT4.out bL)).mono ?_;rintro e W5 ⟨rfl,hT5,hk⟩
        replace hT5:Hid _:=hT5
        obtain ⟨q0,q1⟩:=qQ ((hk w.heap.size (.inl rfl)).trans kb4.out)
        clear hk))
  clear y0 y1 q0 q1 hx4 hz4 hT4 kb4 HR
  obtain ⟨b5,c5,hx5,hc5,hl5,hf5,hs5⟩:=HL.out _ _ hT5.out
  have b4:(m:Int)<=(c5:Int):=by have:=hnm.out;omega
  replace hs5:Hid _:=hs5
  clear hT5
  go_wp2_with (go_at_call 160;refine (HS.out _ _ (qI K4 hs5.out bL)).mono ?_;rintro e W6 ⟨rfl,hT6,hk⟩)
  first|go_end0|refine uK (uR rfl _ _ _) rfl ?_
  exact ⟨rfl,zE hT6⟩
theorem Qh (x n m j:Nat) (num z0 z1 z2 z3 z4 z5 z6 z7 z8:Int) (w:World) (own:Nat->Prop) (hw:∀ k,own k->k<w.heap.size) (hnm:n=m+1) (hm:m<=4294967296) (hj:j<=m) (P0 P1 P2 P3 P4 P5:World->(Nat->Prop)->Prop) (K0:Keeps P0) (K1:Keeps P1) (K2:Keeps P2) (K4:Keeps P4) (h:P0 w own)
 (HG:Hid (jX w own P0 P0 62 #[pt x 24,.agg #[iv num,iv 0]] (.tuple #[iv j,.bool true])))
 (HC:Hid (∀ loc W,qX P0 w own loc W->∃ (b cap:Nat) (v0 v1 v2 v3 v4 v5 v6 v7 v8:Value),x<W.heap.size/\b<W.heap.size/\W.cell? (aq x 26)=some (.slice (some (aq b 0)) n cap)/\W.cell? (aq b (m * 9))=some (iv z0)/\W.cell? (aq b (m * 9+1))=some (iv z1)/\W.cell? (aq b (m * 9+2))=some (iv z2)/\W.cell? (aq b (m * 9+3))=some (iv z3)/\W.cell? (aq b (m * 9+4))=some (iv z4)/\W.cell? (aq b (m * 9+5))=some (iv z5)/\W.cell? (aq b (m * 9+6))=some (iv z6)/\W.cell? (aq b (m * 9+7))=some (iv z7)/\W.cell? (aq b (m * 9+8))=some (iv z8)/\W.cell? (aq b (j * 9))=some v0/\W.cell? (aq b (j * 9+1))=some v1/\W.cell? (aq b (j * 9+2))=some v2/\W.cell? (aq b (j * 9+3))=some v3/\W.cell? (aq b (j * 9+4))=some v4/\W.cell? (aq b (j * 9+5))=some v5/\W.cell? (aq b (j * 9+6))=some v6/\W.cell? (aq b (j * 9+7))=some v7/\W.cell? (aq b (j * 9+8))=some v8/\W.frozen? (aq b (j * 9))=false/\W.frozen? (aq b (j * 9+1))=false/\W.frozen? (aq b (j * 9+2))=false/\W.frozen? (aq b (j * 9+3))=false/\W.frozen? (aq b (j * 9+4))=false/\W.frozen? (aq b (j * 9+5))=false/\W.frozen? (aq b (j * 9+6))=false/\W.frozen? (aq b (j * 9+7))=false/\W.frozen? (aq b (j * 9+8))=false/\qX P1 w own loc (((((((((W.setCell (aq b (j * 9)) (iv z0)).setCell (aq b (j * 9+1)) (iv z1)).setCell (aq b (j * 9+2)) (iv z2)).setCell (aq b (j * 9+3)) (iv z3)).setCell (aq b (j * 9+4)) (iv z4)).setCell (aq b (j * 9+5)) (iv z5)).setCell (aq b (j * 9+6)) (iv z6)).setCell (aq b (j * 9+7)) (iv z7)).setCell (aq b (j * 9+8)) (iv z8))/\∀ k,loc k->(((((((((W.setCell (aq b (j * 9)) (iv z0)).setCell (aq b (j * 9+1)) (iv z1)).setCell (aq b (j * 9+2)) (iv z2)).setCell (aq b (j * 9+3)) (iv z3)).setCell (aq b (j * 9+4)) (iv z4)).setCell (aq b (j * 9+5)) (iv z5)).setCell (aq b (j * 9+6)) (iv z6)).setCell (aq b (j * 9+7)) (iv z7)).setCell (aq b (j * 9+8)) (iv z8)).heap[k]?=W.heap[k]?))
 (HP:Hid (jX w own P1 P2 99 #[pt x 24,.agg #[iv z1,iv 0],iv j] (.tuple #[])))
 (HR:Hid (jX w own P2 P3 137 #[pt x 24,.agg #[iv num,iv 0]] (.tuple #[])))
 (HL:Hid (∀ loc W,qX P3 w own loc W->∃ (b cap:Nat),x<W.heap.size/\n<=cap/\W.cell? (aq x 26)=some (.slice (some (aq b 0)) n cap)/\W.frozen? (aq x 26)=false/\qX P4 w own loc (W.setCell (aq x 26) (.slice (some (aq b 0)) m cap))))
 (HX1:Hid (∀ loc W,qX P1 w own loc W->x<W.heap.size)) (HX2:Hid (∀ loc W,qX P2 w own loc W->x<W.heap.size))
 (HS:Hid (jX w own P4 P5 138 #[pt x 23] (.tuple #[]))) :
 Ca 105 #[pt x 23,iv num] w fun e w'=>e=.returned (.tuple #[])/\zQ P5 w w' own:=by
 have he:wrap64 ((n:Int) - 1)=(m:Int):=by unfold wrap64;omega
 have d0:decide ((j:Int)<0)=false:=by simp
 have d1:decide ((m:Int)<(j:Int))=false:=by simp;omega
 have b0:(0:Int)<=(m:Int):=uO
 have b1:(m:Int)<(n:Int):=uO
 have b2:(0:Int)<=(j:Int):=uO
 have b3:(j:Int)<(n:Int):=uO
 replace hnm:Hid _:=hnm
 replace hw:Hid _:=hw
 go_enter Tryz.func105,Tryz.ntmps105
 go_wp2_with fail
 have kb:Hid ((w.alloc (.cells #[iv num,iv 0] 136)).heap[w.heap.size]?=some (.cells #[iv num,iv 0] 136)):=uF _ _
 have hT0:Hid (qX P0 w own (fun k=>k=w.heap.size) (w.alloc (.cells #[iv num,iv 0] 136))):=yH K0 h ((uM _ _).alloc (uA _) _) (by rintro k rfl;exact ⟨uA _,by simp⟩)
 generalize w.alloc (.cells #[iv num,iv 0] 136)=W0 at kb hT0 ⊢
 obtain ⟨y0,y1⟩:=qQ kb.out
 have hz:w.heap.size<W0.heap.size:=(blt kb.out)
 have hxW:x<W0.heap.size:=by
  obtain ⟨b,cap,v0,v1,v2,v3,v4,v5,v6,v7,v8,hx,hb,hl,m0,m1,m2,m3,m4,m5,m6,m7,m8,e0,e1,e2,e3,e4,e5,e6,e7,e8,f0,f1,f2,f3,f4,f5,f6,f7,f8,hs3,hs4⟩:=HC.out _ _ hT0.out
  exact hx
 go_region_held3 (fun w'=>w'.cell? (aq w.heap.size 0)=some (iv num)/\w'.cell? (aq w.heap.size 1)=some (iv 0)) (simp [go_sem, *])
  (first
    | (go_at_call 62;refine (HG.out _ _ (qI K0 hT0.out bL)).mono ?_;rintro e W1 ⟨rfl,hT1,hk⟩
       replace hT1:Hid _:=hT1
       have kb1:Hid (W1.heap[w.heap.size]?=some (.cells #[iv num,iv 0] 136)):=(hk w.heap.size rfl).trans kb.out
       obtain ⟨q0,q1⟩:=qQ kb1.out
       have hz1:w.heap.size<W1.heap.size:=(blt kb1.out)
       clear hk))
 clear y0 y1 hT0 kb HG hz hxW
 obtain ⟨b,cap,v0,v1,v2,v3,v4,v5,v6,v7,v8,hx,hb,hl,m0,m1,m2,m3,m4,m5,m6,m7,m8,e0,e1,e2,e3,e4,e5,e6,e7,e8,f0,f1,f2,f3,f4,f5,f6,f7,f8,hs3,hs4⟩:=HC.out _ _ hT1.out
 clear e0 f0 e1 f1 e2 f2 e3 f3 e4 f4 e5 f5 e6 f6 e7 f7 e8 f8 hs3 hs4
 go_wp2_with fail
 have lb:Hid ((W1.alloc (.cells #[iv z0,iv z1,iv z2,iv z3,iv z4,iv z5,iv z6,iv z7,iv z8] 146)).heap[W1.heap.size]?=some (.cells #[iv z0,iv z1,iv z2,iv z3,iv z4,iv z5,iv z6,iv z7,iv z8] 146)):=uF _ _
 have kb2:Hid ((W1.alloc (.cells #[iv z0,iv z1,iv z2,iv z3,iv z4,iv z5,iv z6,iv z7,iv z8] 146)).heap[w.heap.size]?=some (.cells #[iv num,iv 0] 136)):=(uE _ _ _ hz1).trans kb1.out
 have hT2:Hid (qX P0 w own (fun k=>k=w.heap.size\/k=W1.heap.size) (W1.alloc (.cells #[iv z0,iv z1,iv z2,iv z3,iv z4,iv z5,iv z6,iv z7,iv z8] 146))):=xI K0 hT1.out _
 clear hx hb hl m0 m1 m2 m3 m4 m5 m6 m7 m8 q0 q1 hT1 kb1 hz1
 generalize W1.alloc (.cells #[iv z0,iv z1,iv z2,iv z3,iv z4,iv z5,iv z6,iv z7,iv z8] 146)=W2 at lb kb2 hT2 ⊢
 generalize W1.heap.size=l at lb hT2 ⊢
 obtain ⟨b,cap,v0,v1,v2,v3,v4,v5,v6,v7,v8,hx,hb,hl,m0,m1,m2,m3,m4,m5,m6,m7,m8,e0,e1,e2,e3,e4,e5,e6,e7,e8,f0,f1,f2,f3,f4,f5,f6,f7,f8,hs3,hs4⟩:=HC.out _ _ hT2.out
 obtain ⟨s0,s1,s2,s3,s4,s5,s6,s7,s8⟩:=zI lb.out
 have hlz:l<W2.heap.size:=(blt lb.out)
 replace hs3:Hid _:=hs3
 replace hs4:Hid _:=hs4
 clear m0 m1 m2 m3 m4 m5 m6 m7 m8 HC
 go_region
 all_goals
  have hT3:=hs3.out
  have lb3:Hid _:=(hs4.out l (.inr rfl)).trans lb.out
  have kb3:Hid _:=(hs4.out w.heap.size (.inl rfl)).trans kb2.out
  clear hs3 hs4 hx hb hl e0 f0 s0 e1 f1 s1 e2 f2 s2 e3 f3 s3 e4 f4 s4 e5 f5 s5 e6 f6 s6 e7 f7 s7 e8 f8 s8 hT2 lb kb2 hlz
  generalize (((((((((W2.setCell (aq b (j * 9)) (iv z0)).setCell (aq b (j * 9+1)) (iv z1)).setCell (aq b (j * 9+2)) (iv z2)).setCell (aq b (j * 9+3)) (iv z3)).setCell (aq b (j * 9+4)) (iv z4)).setCell (aq b (j * 9+5)) (iv z5)).setCell (aq b (j * 9+6)) (iv z6)).setCell (aq b (j * 9+7)) (iv z7)).setCell (aq b (j * 9+8)) (iv z8))=W3 at hT3 lb3 kb3 ⊢
  replace hT3:Hid (qX P1 w own (fun k=>k=w.heap.size\/k=l) W3):=hT3
  have u0:W3.cell? (aq l 1)=some (iv z1):=cB lb3.out
  have hx3:x<W3.heap.size:=HX1.out _ _ hT3.out
  have hlz:l<W3.heap.size:=(blt lb3.out)
  go_wp2_with fail
  go_region_held3 (fun w'=>w'.cell? (aq l 1)=some (iv z1)) (simp [go_sem, *])
   (first
     | (go_at_call 99;refine (HP.out _ _ (qI K1 hT3.out bL)).mono ?_;rintro e W4 ⟨rfl,hT4,hk⟩
        replace hT4:Hid _:=hT4
        have kb4:Hid (W4.heap[w.heap.size]?=some (.cells #[iv num,iv 0] 136)):=(hk w.heap.size (.inl rfl)).trans kb3.out
        have lb4:Hid (W4.heap[l]?=_):=(hk l (.inr rfl)).trans lb3.out
        have q0:W4.cell? (aq l 1)=some (iv z1):=cB lb4.out
        clear hk))
  clear u0 hx3 hlz hT3 lb3 kb3 q0 lb4 HP
  obtain ⟨y0,y1⟩:=qQ kb4.out
  have hx4:x<W4.heap.size:=HX2.out _ _ hT4.out
  have hz4:w.heap.size<W4.heap.size:=(blt kb4.out)
  go_wp2_with fail
  go_region_held3 (fun w'=>w'.cell? (aq w.heap.size 0)=some (iv num)/\w'.cell? (aq w.heap.size 1)=some (iv 0)) (simp [go_sem, *])
   (first
     | (go_at_call 137;refine (HR.out _ _ (qI K2 hT4.out bL)).mono ?_;rintro e W5 ⟨rfl,hT5,hk⟩
        replace hT5:Hid _:=hT5
        obtain ⟨q0,q1⟩:=qQ ((hk w.heap.size (.inl rfl)).trans kb4.out)
        clear hk))
  clear y0 y1 q0 q1 hx4 hz4 hT4 kb4 HR
  obtain ⟨b5,c5,hx5,hc5,hl5,hf5,hs5⟩:=HL.out _ _ hT5.out
  have b4:(m:Int)<=(c5:Int):=by have:=hnm.out;omega
  replace hs5:Hid _:=hs5
  clear hT5
  go_wp2_with (go_at_call 138;refine (HS.out _ _ (qI K4 hs5.out bL)).mono ?_;rintro e W6 ⟨rfl,hT6,hk⟩)
  first|go_end0|refine uK (uR rfl _ _ _) rfl ?_
  exact ⟨rfl,zE hT6⟩
section
def pv (x:Nat) (V:PV) (W:World) (o:Nat->Prop):Prop:=QE W x o V
theorem iA (x:Nat) (V:PV):Keeps (pv x V):=⟨fun h=>fF h,fun h hz hk=>dX h hz hk⟩
def ZX (x i:Nat) (V:PV) (W:World) (o:Nat->Prop):Prop:=QE W x o V/\∃ a n c,W.cell? (aq x i)=some (.slice (some a) n c)
theorem Iw {W:World} {x:Nat} {own:Nat->Prop} {V:PV} (h:QE W x own V):own x:=by
 obtain ⟨g,h⟩:=h
 exact h.ownx
theorem YY (x i:Nat) (V:PV):Keeps (ZX x i V):=⟨fun h=>fF h.1,fun h hz hk=>⟨dX h.1 hz hk,by
 obtain ⟨hp,a,n,c,e⟩:=h
 exact ⟨a,n,c,(uV (a:=(aq x i)) (hk x (Iw hp))).trans e⟩⟩⟩
theorem tX {b:Nat} {T:TypeId}:∀ (vs:List Value) (o:Nat) (W:World) (C:Array Value),W.heap[b]?=some (.cells C T)->∃ C':Array Value,(rE W b o vs).heap[b]?=some (.cells C' T)/\C'.toList=jP C.toList o vs
 | [],_,_,C,h=>⟨C,h,rfl⟩
 | v :: vs,o,W,C,h=>by
   obtain ⟨C',h1,h2⟩:=tX vs (o+1) (W.sc b o v) (C.setIfInBounds o v) (uH h v)
   exact ⟨C',h1,by rw [h2,Array.toList_setIfInBounds];rfl⟩
theorem nC {b:Nat}:∀ (vs:List Value) (o:Nat) (W:World),Same (fun k=>k=b) W (rE W b o vs)
 | [],_,W=>Same.of_below (uM _ _)
 | v :: vs,o,W=>Same.trans (jI (own:=fun k=>k=b) (Same.of_below (uM _ _)) b o v rfl) (nC vs (o+1) _) (fun k _ e=>by rcases e with e|e<;>exact e)
theorem lH {α:Type} {f:α->List Value} {s:Nat} (hf:∀ a,(f a).length=s):∀ (l:List α) (m:Nat),(l.flatMap f).take (m * s)=(l.take m).flatMap f
 | [],m=>by simp
 | a :: l,0=>by simp
 | a :: l,m+1=>by
   rw [List.flatMap_cons,List.take_succ_cons,List.flatMap_cons,← lH hf l m,List.take_append,hf,List.take_of_length_le (by rw [hf,Nat.succ_mul];omega),show (m+1) * s - s=m * s by rw [Nat.succ_mul];omega]
theorem pY (a:Option Addr) (n m c:Nat):Value.ownBlock (.slice a n c)=Value.ownBlock (.slice a m c):=by cases a<;>rfl
section
variable {W:World} {x:Nat} {own:Nat->Prop} {V:PV} {g:PG}
theorem PMem.ostore {b j:Nat} {Cb:Array Value} (h:PMem W x own V g) (hb:g.oo=some (aq b 0)) (hl:j<V.ol.length) (hC:W.heap[b]?=some (.cells Cb 142)) (o:POrd):yN W (rE W b (j * 6) o.vals) x own { V with ol:=V.ol.set j o }:=by
 obtain ⟨C',a1,ac⟩:=tX o.vals (j * 6) W Cb hC
 have a2:=nC (b:=b) o.vals (j * 6) W
 generalize rE W b (j * 6) o.vals=w' at a1 a2 ⊢
 have hbo:Value.ownBlock (.slice g.oo V.ol.length g.oc)=some b:=by rw [hb];rfl
 have hs':Same (g.xs V x) W w':=jO a2 (fun k e=>.inr (.inl (by rw [hbo,show k=b from e])))
 have hbx:x≠b:=fun e=>qP h.orow h.blk vO (by rw [hbo,e])
 have hlen:(V.ol.set j o).length=V.ol.length:=by simp
 refine h.turn hs' (V':={ V with ol:=V.ol.set j o }) (g':=g) ?_ rfl ⟨rfl,rfl,rfl⟩ ⟨rfl,rfl,rfl,rfl⟩ ⟨rfl,rfl,rfl,rfl⟩ ⟨h.stay hs' h.ot.1,h.ot.2,fun _ e=>.inl e⟩ ⟨h.stay hs' h.qt.1,h.qt.2,fun _ e=>.inl e⟩ ⟨h.stay hs' h.qz.1,h.qz.2,fun _ e=>.inl e⟩ ⟨h.stay hs' h.lu.1,h.lu.2,fun _ e=>.inl e⟩ ⟨h.stay hs' h.att.1,h.att.2,fun _ e=>.inl e⟩ ?_ ?_
 ·have:yS { V with ol:=V.ol.set j o } g=yS V g:=by unfold yS;simp only [hlen]
  rw [this]
  exact (a2.block x h.xw hbx).trans h.blk
 ·show w'.ownsRow 0 142 6 (.slice g.oo (V.ol.set j o).length g.oc) (V.ol.set j o).length (kV (V.ol.set j o))/\∀ k,Value.ownBlock (.slice g.oo (V.ol.set j o).length g.oc)=some k->_
  rw [hlen]
  refine ⟨⟨by rw [aF,hlen],.inr ?_⟩,fun k e=>.inl e⟩
  rcases h.orow.2 with ⟨_,h0⟩|⟨b',cap,cur,hv,q1,q2,q3,q4,q5,q6⟩
  ·omega
  ·simp only [Value.slice.injEq] at hv
   obtain ⟨e1,_,e2⟩:=hv
   have eb:b'=b:=by rw [hb] at e1;simp at e1;exact e1.symm
   subst eb
   rw [hC] at q2
   simp only [Option.some.injEq,Obj.cells.injEq,and_true] at q2
   subst q2
   refine ⟨b',cap,C',by rw [hb,e2],q1,a1,q3,q4,?_,?_⟩
   ·have:=congrArg List.length ac
    rw [nW,Array.length_toList,Array.length_toList] at this
    rw [this];exact q5
   ·rw [ac,dQ,q6,sW _ _ _ hl]
 ·refine ⟨qG h.arow (fun k e=>a2.block k (uJ h.arow k e).2 (fun c=>?_)),fun k e=>.inl e⟩
  exact qP h.arow hC vO (by rw [e,show k=b from c])
theorem PMem.ocut {m:Nat} (h:PMem W x own V g) (hn:V.ol.length=m+1):yN W (W.sc x 13 (.slice g.oo m g.oc)) x own { V with ol:=V.ol.take m }:=by
 have hlen:(V.ol.take m).length=m:=by simp;omega
 have hs0:Same (fun k=>k=x) W (W.sc x 13 (.slice g.oo m g.oc)):=jI (Same.of_below (uM _ _)) x _ _ rfl
 have hs':Same (g.xs V x) W (W.sc x 13 (.slice g.oo m g.oc)):=jO hs0 (fun k e=>.inl e)
 refine h.turn hs' (V':={ V with ol:=V.ol.take m }) (g':=g) ?_ rfl ⟨rfl,rfl,rfl⟩ ⟨rfl,rfl,rfl,rfl⟩ ⟨rfl,rfl,rfl,rfl⟩ ⟨h.stay hs' h.ot.1,h.ot.2,fun _ e=>.inl e⟩ ⟨h.stay hs' h.qt.1,h.qt.2,fun _ e=>.inl e⟩ ⟨h.stay hs' h.qz.1,h.qz.2,fun _ e=>.inl e⟩ ⟨h.stay hs' h.lu.1,h.lu.2,fun _ e=>.inl e⟩ ⟨h.stay hs' h.att.1,h.att.2,fun _ e=>.inl e⟩ ?_ ?_
 ·rw [uH h.blk]
  unfold yS
  simp only [hlen]
  rfl
 ·show (W.sc x 13 (.slice g.oo m g.oc)).ownsRow 0 142 6 (.slice g.oo (V.ol.take m).length g.oc) (V.ol.take m).length (kV (V.ol.take m))/\∀ k,Value.ownBlock (.slice g.oo (V.ol.take m).length g.oc)=some k->_
  rw [hlen]
  refine ⟨⟨by rw [aF,hlen],.inr ?_⟩,fun k e=>.inl ((pY _ _ _ _).trans e)⟩
  rcases h.orow.2 with ⟨_,h0⟩|⟨b,cap,cur,hv,q1,q2,q3,q4,q5,q6⟩
  ·omega
  ·simp only [Value.slice.injEq] at hv
   obtain ⟨e1,_,e2⟩:=hv
   have hbx:b≠x:=fun e=>qP h.orow h.blk vO (by rw [e1,← e];rfl)
   refine ⟨b,cap,cur,by rw [e1,e2],q1,(uG _ (aq x 13) _ _ hbx).trans q2,uO,q4,q5,?_⟩
   rw [show m * 6=min (m * 6) (V.ol.length * 6) by rw [hn];omega,← List.take_take,q6]
   exact lH (f:=POrd.vals) (s:=6) (fun _=>rfl) V.ol m
 ·refine ⟨qG h.arow (fun k e=>uG _ (aq x 13) _ _ (fun c=>qP h.arow h.blk vO (by rw [e,show k=x from c]))),fun k e=>.inl e⟩
theorem Ts (h:ZX x 13 V W own) (hz:V.ol.length<=4294967296) :
 Ca 160 #[pt x 11] W fun e w'=>e=.returned (.tuple #[])/\zQ (fun W o=>∃ rm,QE W x o { V with orm:=rm }) W w' own:=by
 obtain ⟨⟨g,h⟩,a,na,ca,ha⟩:=h
 rw [h.cell 13 (.slice g.oo V.ol.length g.oc) rfl] at ha
 simp only [Option.some.injEq,Value.slice.injEq] at ha
 rcases h.orow.2 with ⟨hv,_⟩|⟨b,cap,cur,hv,_⟩
 ·simp only [Value.slice.injEq] at hv
  rw [hv.1] at ha
  cases ha.1
 ·simp only [Value.slice.injEq] at hv
  have hb:=hv.1
  have h1:∀ u∈kV V.ol,u.oneCell'=true:=by
   intro u hu
   obtain ⟨o,_,hu⟩:=List.mem_flatMap.1 hu
   simp only [POrd.vals,List.mem_cons,List.not_mem_nil,or_false] at hu
   rcases hu with rfl|rfl|rfl|rfl|rfl|rfl<;>rfl
  refine (Th x 11 b V.ol.length g.oc (yS V g) 105 V.orm (kV V.ol) W h.blk (by rw [← hb];rfl) rfl (by rw [← hb];exact h.orow) h1 uO).mono ?_
  rintro e w' ⟨rfl,b',c',rm,a1,a2,a3,a4⟩
  have hs':Same (g.xs V x) W w':=jO a3 (fun k e=>.inl e)
  have:yN W w' x own { V with orm:=rm }:=by
   refine h.turn hs' (V':={ V with orm:=rm }) (g':={ g with oo:=some (aq b' 0),oc:=c' }) a1 rfl ⟨rfl,rfl,rfl⟩ ⟨rfl,rfl,rfl,rfl⟩ ⟨rfl,rfl,rfl,rfl⟩ ⟨h.stay hs' h.ot.1,h.ot.2,fun _ e=>.inl e⟩ ⟨h.stay hs' h.qt.1,h.qt.2,fun _ e=>.inl e⟩ ⟨h.stay hs' h.qz.1,h.qz.2,fun _ e=>.inl e⟩ ⟨h.stay hs' h.lu.1,h.lu.2,fun _ e=>.inl e⟩ ⟨h.stay hs' h.att.1,h.att.2,fun _ e=>.inl e⟩ ?_ ?_
   ·refine ⟨a2,fun k e=>?_⟩
    have e4:b'=k:=by simpa [Value.ownBlock] using e
    rw [← e4]
    exact a4.imp (fun e=>by rw [hb,e];rfl) id
   ·refine ⟨qG h.arow (fun k e=>a3.block k (uJ h.arow k e).2 (fun c=>qP h.arow h.blk vO (by rw [e,show k=x from c]))),fun k e=>.inl e⟩
  obtain ⟨o2,b1,b2,b3⟩:=this
  exact ⟨rfl,o2,⟨rm,b1⟩,b2,b3⟩
theorem Ek {k1 u v:Int} (h:QE W x own V) (hs:srt V.ot) (hn:yO (k1,0) V.ot=some u) :
 Ca 99 #[pt x 11,.agg #[iv k1,iv 0],iv v] W fun e w'=>e=.returned (.tuple #[])/\yN W w' x own { V with ot:=zD (k1,0) v V.ot }:=by
 obtain ⟨g,h⟩:=h
 refine (Vq x 11 (yS V g) 105 vO g.ot V.ot.length k1 0 v u W h.blk rfl rfl h.ot.1 (by rw [h.ot.2];exact hs) (by rw [h.ot.2];exact hn)).mono ?_
 rintro e w' ⟨rfl,t',a1,a2,a3,a4,a5⟩
 rw [h.ot.2] at a3
 have e1:(V.ot.length:Int)=((zD (k1,0) v V.ot).length:Int):=by rw [dA hs hn]
 rw [e1] at a1
 exact ⟨rfl,h.turnX a4 (V':={ V with ot:=zD (k1,0) v V.ot }) (g':={ g with ot:=t' }) a1 rfl ⟨rfl,rfl,rfl⟩ ⟨rfl,rfl,rfl,rfl⟩ ⟨rfl,rfl,rfl,rfl⟩ ⟨a2,a3,a5⟩ ⟨h.stayX a4 h.qt.1,h.qt.2,fun _ e=>.inl e⟩ ⟨h.stayX a4 h.qz.1,h.qz.2,fun _ e=>.inl e⟩ ⟨h.stayX a4 h.lu.1,h.lu.2,fun _ e=>.inl e⟩ ⟨h.stayX a4 h.att.1,h.att.2,fun _ e=>.inl e⟩ ⟨rfl,rfl,rfl⟩ ⟨rfl,rfl,rfl⟩⟩
theorem Gn {k1 u:Int} (h:QE W x own V) (hs:srt V.ot) (hn:yO (k1,0) V.ot=some u) (hz:V.ot.length<=4294967296) :
 Ca 137 #[pt x 11,.agg #[iv k1,iv 0]] W fun e w'=>e=.returned (.tuple #[])/\yN W w' x own { V with ot:=xC (k1,0) V.ot }:=by
 obtain ⟨g,h⟩:=h
 have l1:=bC hs hn
 refine (vU x 11 (yS V g) 105 vO g.ot V.ot.length k1 0 u W h.blk rfl rfl h.ot.1 (by rw [h.ot.2];exact hs) (by rw [h.ot.2];exact hn) ⟨uO,uO⟩).mono ?_
 rintro e w' ⟨rfl,t',a1,a2,a3,a4,a5⟩
 rw [h.ot.2] at a3
 have e1:(V.ot.length:Int) - 1=((xC (k1,0) V.ot).length:Int):=uO
 rw [e1] at a1
 exact ⟨rfl,h.turnX a4 (V':={ V with ot:=xC (k1,0) V.ot }) (g':={ g with ot:=t' }) a1 rfl ⟨rfl,rfl,rfl⟩ ⟨rfl,rfl,rfl,rfl⟩ ⟨rfl,rfl,rfl,rfl⟩ ⟨a2,a3,a5⟩ ⟨h.stayX a4 h.qt.1,h.qt.2,fun _ e=>.inl e⟩ ⟨h.stayX a4 h.qz.1,h.qz.2,fun _ e=>.inl e⟩ ⟨h.stayX a4 h.lu.1,h.lu.2,fun _ e=>.inl e⟩ ⟨h.stayX a4 h.att.1,h.att.2,fun _ e=>.inl e⟩ ⟨rfl,rfl,rfl⟩ ⟨rfl,rfl,rfl⟩⟩
theorem Rm {j:Nat} {a z:POrd} (h:QE W x own V) (hL:Listed POrd.num V.ot V.ol) (hz:V.ol.length<=4294967296) (hzt:V.ot.length=V.ol.length) (hj:V.ol[j]?=some a) (hzz:V.ol[V.ol.length - 1]?=some z) :
 Ca 134 #[pt x 11,iv a.num] W fun e w'=>e=.returned (.tuple #[])/\∃ rm,yN W w' x own { V with ot:=xC (a.num,0) (zD (z.num,0) j V.ot),ol:=oB V.ol j z,orm:=rm }:=by
 have hjl:=(List.getElem?_eq_some_iff.1 hj).1
 have hw:∀ k,own k->k<W.heap.size:=fF h
 obtain ⟨m,hm⟩:∃ m,V.ol.length=m+1:=⟨V.ol.length - 1,uO⟩
 rw [hm,Nat.add_sub_cancel] at hzz
 have gj:=vT hL hj
 have gz:=vT hL hzz
 have s1:srt (zD (z.num,0) j V.ot):=gC _ _ hL.srt
 obtain ⟨u,gu⟩:∃ u,yO (a.num,0) (zD (z.num,0) j V.ot)=some u:=by
  by_cases e:((a.num,0):Int × Int)=(z.num,0)
  ·exact ⟨_,(hM s1).2 (gR.2 (.inl (by rw [e])))⟩
  ·exact ⟨_,(hM s1).2 (gR.2 (.inr ⟨gG gj,e⟩))⟩
 have l1:(zD (z.num,0) j V.ot).length=V.ot.length:=dA hL.srt gz
 refine (Jz x V.ol.length m j a.num z.num z.cust z.units z.st z.cents z.upto W own hw hm uO uO
  (pv x V) (pv x { V with ol:=V.ol.set j z }) (pv x { V with ol:=V.ol.set j z,ot:=zD (z.num,0) j V.ot }) (pv x { V with ol:=V.ol.set j z,ot:=xC (a.num,0) (zD (z.num,0) j V.ot) }) (ZX x 13 { V with ol:=(V.ol.set j z).take m,ot:=xC (a.num,0) (zD (z.num,0) j V.ot) }) (fun W o=>∃ rm,QE W x o { V with ol:=(V.ol.set j z).take m,ot:=xC (a.num,0) (zD (z.num,0) j V.ot),orm:=rm })
  (iA _ _) (iA _ _) (iA _ _) (YY _ _ _) h (fun loc W' hT=>fV (iA _ _) hw (fun W o hp=>?_) W' hT) (fun loc W' hT=>?_) (fun loc W' hT=>qS (P:=pv x { V with ol:=V.ol.set j z }) hw (fun W o hp=>Ek (V:={ V with ol:=V.ol.set j z }) hp hL.srt gz) W' hT) (fun loc W' hT=>qS (P:=pv x { V with ol:=V.ol.set j z,ot:=zD (z.num,0) j V.ot }) hw (fun W o hp=>Gn (V:={ V with ol:=V.ol.set j z,ot:=zD (z.num,0) j V.ot }) hp s1 gu (by show (zD (z.num,0) j V.ot).length<=_;omega)) W' hT) (fun loc W' hT=>?_) (fun loc W' hT=>?_) (fun loc W' hT=>?_) (fun loc W' hT=>qS (P:=ZX x 13 { V with ol:=(V.ol.set j z).take m,ot:=xC (a.num,0) (zD (z.num,0) j V.ot) }) hw (fun W o hp=>Ts (V:={ V with ol:=(V.ol.set j z).take m,ot:=xC (a.num,0) (zD (z.num,0) j V.ot) }) hp (by show ((V.ol.set j z).take m).length<=_;simp;omega)) W' hT)).mono ?_
 ·obtain ⟨g,hp⟩:=hp
  have:=xE x 11 g.ot a.num 0 W (hp.cell 11 _ rfl) hp.ot.1 (by rw [hp.ot.2];exact hL.srt)
  rw [hp.ot.2,gj] at this
  exact this
 ·obtain ⟨o1,⟨g,hp⟩,b2,b3,b4⟩:=id hT
  obtain ⟨b,Cb,hb,_,hC,c0,c1,c2,c3,c4,c5⟩:=hp.ocells hzz
  obtain ⟨b',Cb',hb',_,hC',d0,d1,d2,d3,d4,d5⟩:=hp.ocells hj
  have eb:b'=b:=by rw [hb] at hb';simp at hb';exact hb'.symm
  subst eb
  have hp0:=hp
  obtain ⟨t1,t2⟩:=rF (P':=pv x { V with ol:=V.ol.set j z }) (W':=rE W' b' (j * 6) z.vals) hw hT (fun o hp=>by
   obtain ⟨g',hp⟩:=hp
   obtain ⟨b2,Cb2,hb2,_,hC2,e0,e1,e2,e3,e4,e5⟩:=hp.ocells hzz
   have q1:=(hp.cell 13 (.slice g'.oo V.ol.length g'.oc) rfl).symm.trans (hp0.cell 13 (.slice g.oo V.ol.length g.oc) rfl)
   simp only [Option.some.injEq,Value.slice.injEq] at q1
   have eb:b2=b':=by rw [hb2,hb] at q1;simpa using q1.1
   subst eb
   exact hp.ostore hb2 hjl hC2 z)
  exact ⟨b',g.oc,_,_,_,_,_,_,hp.xw,(blt hC),by rw [← hb];exact hp.cell 13 _ rfl,c0,c1,c2,c3,c4,c5,d0,d1,d2,d3,d4,d5,qA hC _,qA hC _,qA hC _,qA hC _,qA hC _,qA hC _,t1,t2⟩
 ·obtain ⟨o1,⟨g,hp⟩,b2,b3,b4⟩:=id hT
  have hlen:(V.ol.set j z).length=m+1:=by simp;exact hm
  rcases hp.orow.2 with ⟨_,h0⟩|⟨b,cap,cur,hv,q1,q2,q3,q4⟩
  ·have h0:(V.ol.set j z).length=0:=h0
   omega
  ·simp only [Value.slice.injEq] at hv
   have hc:W'.cell? (aq x 13)=some (.slice (some (aq b 0)) V.ol.length g.oc):=by
    rw [hp.cell 13 (.slice g.oo (V.ol.set j z).length g.oc) rfl,hv.1,List.length_set]
   have q3':V.ol.length<=g.oc:=by
    have:(V.ol.set j z).length<=cap:=q3
    rw [List.length_set] at this
    rw [hv.2.2];exact this
   refine ⟨b,g.oc,hp.xw,q3',hc,qA hp.blk _,(rF (P:=pv x { V with ol:=V.ol.set j z,ot:=xC (a.num,0) (zD (z.num,0) j V.ot) }) hw hT (fun o hp2=>?_)).1⟩
   obtain ⟨g2,hp2⟩:=hp2
   have e3:=(hp2.cell 13 (.slice g2.oo (V.ol.set j z).length g2.oc) rfl).symm.trans (hp.cell 13 (.slice g.oo (V.ol.set j z).length g.oc) rfl)
   simp only [Option.some.injEq,Value.slice.injEq] at e3
   have:=hp2.ocut (m:=m) hlen
   rw [e3.1,e3.2.2,hv.1] at this
   obtain ⟨o2,r1,r2,r3⟩:=this
   exact ⟨o2,⟨r1,_,m,g.oc,by rw [uI (uH hp.blk _)];rfl⟩,r2,r3⟩
 ·obtain ⟨o1,⟨g,hp⟩,_⟩:=hT
  exact hp.xw
 ·obtain ⟨o1,⟨g,hp⟩,_⟩:=hT
  exact hp.xw
 ·rintro e w' ⟨rfl,o2,⟨rm,r1⟩,r2,r3⟩
  refine ⟨rfl,rm,o2,?_,r2,r3⟩
  unfold oB
  rw [hm,Nat.add_sub_cancel]
  exact r1
theorem Dw (ol:List PAns) (j:Nat) (o:PAns) (h:j<ol.length):jP (xZ ol) (j * 9) o.vals=xZ (ol.set j o):=nY (f:=PAns.vals) (s:=9) (fun _=>rfl) ol j o h
theorem PMem.acellsT {j:Nat} {o:PAns} (h:PMem W x own V g) (hj:V.al[j]?=some o):∃ b Cb,g.ao=some (aq b 0)/\j<V.al.length/\W.heap[b]?=some (.cells Cb 146)/\W.cell? (aq b (j * 9))=some (iv o.k)/\W.cell? (aq b (j * 9+1))=some (iv o.t)/\W.cell? (aq b (j * 9+2))=some (iv o.c)/\W.cell? (aq b (j * 9+3))=some (iv o.u)/\W.cell? (aq b (j * 9+4))=some (iv o.o)/\W.cell? (aq b (j * 9+5))=some (iv o.rk)/\W.cell? (aq b (j * 9+6))=some (iv o.ro)/\W.cell? (aq b (j * 9+7))=some (iv o.rc)/\W.cell? (aq b (j * 9+8))=some (iv o.ru):=by
 have hl:=(List.getElem?_eq_some_iff.1 hj).1
 have hd:V.al.getD j pans0=o:=by simp [List.getD,hj]
 have ho:=h.arow
 rcases ho.2 with ⟨_,h0⟩|⟨b,cap,cur,hv,_,hh,_⟩
 ·omega
 ·have hv':=hv
  simp only [Value.slice.injEq] at hv'
  obtain ⟨e1,_,e2⟩:=hv'
  rw [hv] at ho
  have c:∀ k,k<9->∀ u,o.vals[k]?=some u->W.cell? (aq b (j * 9+k))=some u:=fun k hk u hu=>by
   have:=ho.cells (g:=b) rfl _ _ ((iK hl k hk).trans (by rw [hd];exact hu))
   rwa [Addr.add_lit,Nat.zero_add] at this
  exact ⟨b,cur,e1,hl,hh,c 0 uO _ rfl,c 1 uO _ rfl,c 2 uO _ rfl,c 3 uO _ rfl,c 4 uO _ rfl,c 5 uO _ rfl,c 6 uO _ rfl,c 7 uO _ rfl,c 8 uO _ rfl⟩
theorem PMem.astore {b j:Nat} {Cb:Array Value} (h:PMem W x own V g) (hb:g.ao=some (aq b 0)) (hl:j<V.al.length) (hC:W.heap[b]?=some (.cells Cb 146)) (o:PAns):yN W (rE W b (j * 9) o.vals) x own { V with al:=V.al.set j o }:=by
 obtain ⟨C',a1,ac⟩:=tX o.vals (j * 9) W Cb hC
 have a2:=nC (b:=b) o.vals (j * 9) W
 generalize rE W b (j * 9) o.vals=w' at a1 a2 ⊢
 have hbo:Value.ownBlock (.slice g.ao V.al.length g.ac)=some b:=by rw [hb];rfl
 have hs':Same (g.xs V x) W w':=jO a2 (fun k e=>.inr (.inr (by rw [hbo,show k=b from e])))
 have hbx:x≠b:=fun e=>qP h.arow h.blk vO (by rw [hbo,e])
 have hlen:(V.al.set j o).length=V.al.length:=by simp
 refine h.turn hs' (V':={ V with al:=V.al.set j o }) (g':=g) ?_ rfl ⟨rfl,rfl,rfl⟩ ⟨rfl,rfl,rfl,rfl⟩ ⟨rfl,rfl,rfl,rfl⟩ ⟨h.stay hs' h.ot.1,h.ot.2,fun _ e=>.inl e⟩ ⟨h.stay hs' h.qt.1,h.qt.2,fun _ e=>.inl e⟩ ⟨h.stay hs' h.qz.1,h.qz.2,fun _ e=>.inl e⟩ ⟨h.stay hs' h.lu.1,h.lu.2,fun _ e=>.inl e⟩ ⟨h.stay hs' h.att.1,h.att.2,fun _ e=>.inl e⟩ ?_ ?_
 ·have:yS { V with al:=V.al.set j o } g=yS V g:=by unfold yS;simp only [hlen]
  rw [this]
  exact (a2.block x h.xw hbx).trans h.blk
 ·refine ⟨qG h.orow (fun k e=>a2.block k (uJ h.orow k e).2 (fun c=>?_)),fun k e=>.inl e⟩
  exact qP h.orow hC vO (by rw [e,show k=b from c])
 ·show w'.ownsRow 0 146 9 (.slice g.ao (V.al.set j o).length g.ac) (V.al.set j o).length (xZ (V.al.set j o))/\∀ k,Value.ownBlock (.slice g.ao (V.al.set j o).length g.ac)=some k->_
  rw [hlen]
  refine ⟨⟨by rw [wO,hlen],.inr ?_⟩,fun k e=>.inl e⟩
  rcases h.arow.2 with ⟨_,h0⟩|⟨b',cap,cur,hv,q1,q2,q3,q4,q5,q6⟩
  ·omega
  ·simp only [Value.slice.injEq] at hv
   obtain ⟨e1,_,e2⟩:=hv
   have eb:b'=b:=by rw [hb] at e1;simp at e1;exact e1.symm
   subst eb
   rw [hC] at q2
   simp only [Option.some.injEq,Obj.cells.injEq,and_true] at q2
   subst q2
   refine ⟨b',cap,C',by rw [hb,e2],q1,a1,q3,q4,?_,?_⟩
   ·have:=congrArg List.length ac
    rw [nW,Array.length_toList,Array.length_toList] at this
    rw [this];exact q5
   ·rw [ac,dQ,q6,Dw _ _ _ hl]
theorem PMem.acut {m:Nat} (h:PMem W x own V g) (hn:V.al.length=m+1):yN W (W.sc x 26 (.slice g.ao m g.ac)) x own { V with al:=V.al.take m }:=by
 have hlen:(V.al.take m).length=m:=by simp;omega
 have hs0:Same (fun k=>k=x) W (W.sc x 26 (.slice g.ao m g.ac)):=jI (Same.of_below (uM _ _)) x _ _ rfl
 have hs':Same (g.xs V x) W (W.sc x 26 (.slice g.ao m g.ac)):=jO hs0 (fun k e=>.inl e)
 refine h.turn hs' (V':={ V with al:=V.al.take m }) (g':=g) ?_ rfl ⟨rfl,rfl,rfl⟩ ⟨rfl,rfl,rfl,rfl⟩ ⟨rfl,rfl,rfl,rfl⟩ ⟨h.stay hs' h.ot.1,h.ot.2,fun _ e=>.inl e⟩ ⟨h.stay hs' h.qt.1,h.qt.2,fun _ e=>.inl e⟩ ⟨h.stay hs' h.qz.1,h.qz.2,fun _ e=>.inl e⟩ ⟨h.stay hs' h.lu.1,h.lu.2,fun _ e=>.inl e⟩ ⟨h.stay hs' h.att.1,h.att.2,fun _ e=>.inl e⟩ ?_ ?_
 ·rw [uH h.blk]
  unfold yS
  simp only [hlen]
  rfl
 ·refine ⟨qG h.orow (fun k e=>uG _ (aq x 26) _ _ (fun c=>qP h.orow h.blk vO (by rw [e,show k=x from c]))),fun k e=>.inl e⟩
 ·show (W.sc x 26 (.slice g.ao m g.ac)).ownsRow 0 146 9 (.slice g.ao (V.al.take m).length g.ac) (V.al.take m).length (xZ (V.al.take m))/\∀ k,Value.ownBlock (.slice g.ao (V.al.take m).length g.ac)=some k->_
  rw [hlen]
  refine ⟨⟨by rw [wO,hlen],.inr ?_⟩,fun k e=>.inl ((pY _ _ _ _).trans e)⟩
  rcases h.arow.2 with ⟨_,h0⟩|⟨b,cap,cur,hv,q1,q2,q3,q4,q5,q6⟩
  ·omega
  ·simp only [Value.slice.injEq] at hv
   obtain ⟨e1,_,e2⟩:=hv
   have hbx:b≠x:=fun e=>qP h.arow h.blk vO (by rw [e1,← e];rfl)
   refine ⟨b,cap,cur,by rw [e1,e2],q1,(uG _ (aq x 26) _ _ hbx).trans q2,uO,q4,q5,?_⟩
   rw [show m * 9=min (m * 9) (V.al.length * 9) by rw [hn];omega,← List.take_take,q6]
   exact lH (f:=PAns.vals) (s:=9) (fun _=>rfl) V.al m
theorem Rb (h:ZX x 26 V W own) (hz:V.al.length<=4294967296) :
 Ca 138 #[pt x 23] W fun e w'=>e=.returned (.tuple #[])/\zQ (fun W o=>∃ rm,QE W x o { V with arm:=rm }) W w' own:=by
 obtain ⟨⟨g,h⟩,a,na,ca,ha⟩:=h
 rw [h.cell 26 (.slice g.ao V.al.length g.ac) rfl] at ha
 simp only [Option.some.injEq,Value.slice.injEq] at ha
 rcases h.arow.2 with ⟨hv,_⟩|⟨b,cap,cur,hv,_⟩
 ·simp only [Value.slice.injEq] at hv
  rw [hv.1] at ha
  cases ha.1
 ·simp only [Value.slice.injEq] at hv
  have hb:=hv.1
  have h1:∀ u∈xZ V.al,u.oneCell'=true:=by
   intro u hu
   obtain ⟨o,_,hu⟩:=List.mem_flatMap.1 hu
   simp only [PAns.vals,List.mem_cons,List.not_mem_nil,or_false] at hu
   rcases hu with rfl|rfl|rfl|rfl|rfl|rfl|rfl|rfl|rfl<;>rfl
  refine (Nb x 23 b V.al.length g.ac (yS V g) 105 V.arm (xZ V.al) W h.blk (by rw [← hb];rfl) rfl (by rw [← hb];exact h.arow) h1 uO).mono ?_
  rintro e w' ⟨rfl,b',c',rm,a1,a2,a3,a4⟩
  have hs':Same (g.xs V x) W w':=jO a3 (fun k e=>.inl e)
  have:yN W w' x own { V with arm:=rm }:=by
   refine h.turn hs' (V':={ V with arm:=rm }) (g':={ g with ao:=some (aq b' 0),ac:=c' }) a1 rfl ⟨rfl,rfl,rfl⟩ ⟨rfl,rfl,rfl,rfl⟩ ⟨rfl,rfl,rfl,rfl⟩ ⟨h.stay hs' h.ot.1,h.ot.2,fun _ e=>.inl e⟩ ⟨h.stay hs' h.qt.1,h.qt.2,fun _ e=>.inl e⟩ ⟨h.stay hs' h.qz.1,h.qz.2,fun _ e=>.inl e⟩ ⟨h.stay hs' h.lu.1,h.lu.2,fun _ e=>.inl e⟩ ⟨h.stay hs' h.att.1,h.att.2,fun _ e=>.inl e⟩ ?_ ?_
   ·refine ⟨qG h.orow (fun k e=>a3.block k (uJ h.orow k e).2 (fun c=>qP h.orow h.blk vO (by rw [e,show k=x from c]))),fun k e=>.inl e⟩
   ·refine ⟨a2,fun k e=>?_⟩
    have e4:b'=k:=by simpa [Value.ownBlock] using e
    rw [← e4]
    exact a4.imp (fun e=>by rw [hb,e];rfl) id
  obtain ⟨o2,b1,b2,b3⟩:=this
  exact ⟨rfl,o2,⟨rm,b1⟩,b2,b3⟩
theorem Iu {k1 u v:Int} (h:QE W x own V) (hs:srt V.att) (hn:yO (k1,0) V.att=some u) :
 Ca 99 #[pt x 24,.agg #[iv k1,iv 0],iv v] W fun e w'=>e=.returned (.tuple #[])/\yN W w' x own { V with att:=zD (k1,0) v V.att }:=by
 obtain ⟨g,h⟩:=h
 refine (Vq x 24 (yS V g) 105 vO g.att V.att.length k1 0 v u W h.blk rfl rfl h.att.1 (by rw [h.att.2];exact hs) (by rw [h.att.2];exact hn)).mono ?_
 rintro e w' ⟨rfl,t',a1,a2,a3,a4,a5⟩
 rw [h.att.2] at a3
 have e1:(V.att.length:Int)=((zD (k1,0) v V.att).length:Int):=by rw [dA hs hn]
 rw [e1] at a1
 exact ⟨rfl,h.turnX a4 (V':={ V with att:=zD (k1,0) v V.att }) (g':={ g with att:=t' }) a1 rfl ⟨rfl,rfl,rfl⟩ ⟨rfl,rfl,rfl,rfl⟩ ⟨rfl,rfl,rfl,rfl⟩ ⟨h.stayX a4 h.ot.1,h.ot.2,fun _ e=>.inl e⟩ ⟨h.stayX a4 h.qt.1,h.qt.2,fun _ e=>.inl e⟩ ⟨h.stayX a4 h.qz.1,h.qz.2,fun _ e=>.inl e⟩ ⟨h.stayX a4 h.lu.1,h.lu.2,fun _ e=>.inl e⟩ ⟨a2,a3,a5⟩ ⟨rfl,rfl,rfl⟩ ⟨rfl,rfl,rfl⟩⟩
theorem Gw {k1 u:Int} (h:QE W x own V) (hs:srt V.att) (hn:yO (k1,0) V.att=some u) (hz:V.att.length<=4294967296) :
 Ca 137 #[pt x 24,.agg #[iv k1,iv 0]] W fun e w'=>e=.returned (.tuple #[])/\yN W w' x own { V with att:=xC (k1,0) V.att }:=by
 obtain ⟨g,h⟩:=h
 have l1:=bC hs hn
 refine (vU x 24 (yS V g) 105 vO g.att V.att.length k1 0 u W h.blk rfl rfl h.att.1 (by rw [h.att.2];exact hs) (by rw [h.att.2];exact hn) ⟨uO,uO⟩).mono ?_
 rintro e w' ⟨rfl,t',a1,a2,a3,a4,a5⟩
 rw [h.att.2] at a3
 have e1:(V.att.length:Int) - 1=((xC (k1,0) V.att).length:Int):=uO
 rw [e1] at a1
 exact ⟨rfl,h.turnX a4 (V':={ V with att:=xC (k1,0) V.att }) (g':={ g with att:=t' }) a1 rfl ⟨rfl,rfl,rfl⟩ ⟨rfl,rfl,rfl,rfl⟩ ⟨rfl,rfl,rfl,rfl⟩ ⟨h.stayX a4 h.ot.1,h.ot.2,fun _ e=>.inl e⟩ ⟨h.stayX a4 h.qt.1,h.qt.2,fun _ e=>.inl e⟩ ⟨h.stayX a4 h.qz.1,h.qz.2,fun _ e=>.inl e⟩ ⟨h.stayX a4 h.lu.1,h.lu.2,fun _ e=>.inl e⟩ ⟨a2,a3,a5⟩ ⟨rfl,rfl,rfl⟩ ⟨rfl,rfl,rfl⟩⟩
theorem Ac {j:Nat} {a z:PAns} (h:QE W x own V) (hL:Listed PAns.t V.att V.al) (hz:V.al.length<=4294967296) (hzt:V.att.length=V.al.length) (hj:V.al[j]?=some a) (hzz:V.al[V.al.length - 1]?=some z) :
 Ca 105 #[pt x 23,iv a.t] W fun e w'=>e=.returned (.tuple #[])/\∃ rm,yN W w' x own { V with att:=xC (a.t,0) (zD (z.t,0) j V.att),al:=oB V.al j z,arm:=rm }:=by
 have hjl:=(List.getElem?_eq_some_iff.1 hj).1
 have hw:∀ k,own k->k<W.heap.size:=fF h
 obtain ⟨m,hm⟩:∃ m,V.al.length=m+1:=⟨V.al.length - 1,uO⟩
 rw [hm,Nat.add_sub_cancel] at hzz
 have gj:=vT hL hj
 have gz:=vT hL hzz
 have s1:srt (zD (z.t,0) j V.att):=gC _ _ hL.srt
 obtain ⟨u,gu⟩:∃ u,yO (a.t,0) (zD (z.t,0) j V.att)=some u:=by
  by_cases e:((a.t,0):Int × Int)=(z.t,0)
  ·exact ⟨_,(hM s1).2 (gR.2 (.inl (by rw [e])))⟩
  ·exact ⟨_,(hM s1).2 (gR.2 (.inr ⟨gG gj,e⟩))⟩
 have l1:(zD (z.t,0) j V.att).length=V.att.length:=dA hL.srt gz
 refine (Qh x V.al.length m j a.t z.k z.t z.c z.u z.o z.rk z.ro z.rc z.ru W own hw hm uO uO
  (pv x V) (pv x { V with al:=V.al.set j z }) (pv x { V with al:=V.al.set j z,att:=zD (z.t,0) j V.att }) (pv x { V with al:=V.al.set j z,att:=xC (a.t,0) (zD (z.t,0) j V.att) }) (ZX x 26 { V with al:=(V.al.set j z).take m,att:=xC (a.t,0) (zD (z.t,0) j V.att) }) (fun W o=>∃ rm,QE W x o { V with al:=(V.al.set j z).take m,att:=xC (a.t,0) (zD (z.t,0) j V.att),arm:=rm })
  (iA _ _) (iA _ _) (iA _ _) (YY _ _ _) h (fun loc W' hT=>fV (iA _ _) hw (fun W o hp=>?_) W' hT) (fun loc W' hT=>?_) (fun loc W' hT=>qS (P:=pv x { V with al:=V.al.set j z }) hw (fun W o hp=>Iu (V:={ V with al:=V.al.set j z }) hp hL.srt gz) W' hT) (fun loc W' hT=>qS (P:=pv x { V with al:=V.al.set j z,att:=zD (z.t,0) j V.att }) hw (fun W o hp=>Gw (V:={ V with al:=V.al.set j z,att:=zD (z.t,0) j V.att }) hp s1 gu (by show (zD (z.t,0) j V.att).length<=_;omega)) W' hT) (fun loc W' hT=>?_) (fun loc W' hT=>?_) (fun loc W' hT=>?_) (fun loc W' hT=>qS (P:=ZX x 26 { V with al:=(V.al.set j z).take m,att:=xC (a.t,0) (zD (z.t,0) j V.att) }) hw (fun W o hp=>Rb (V:={ V with al:=(V.al.set j z).take m,att:=xC (a.t,0) (zD (z.t,0) j V.att) }) hp (by show ((V.al.set j z).take m).length<=_;simp;omega)) W' hT)).mono ?_
 ·obtain ⟨g,hp⟩:=hp
  have:=xE x 24 g.att a.t 0 W (hp.cell 24 _ rfl) hp.att.1 (by rw [hp.att.2];exact hL.srt)
  rw [hp.att.2,gj] at this
  exact this
 ·obtain ⟨o1,⟨g,hp⟩,b2,b3,b4⟩:=id hT
  obtain ⟨b,Cb,hb,_,hC,c0,c1,c2,c3,c4,c5,c6,c7,c8⟩:=hp.acellsT hzz
  obtain ⟨b',Cb',hb',_,hC',d0,d1,d2,d3,d4,d5,d6,d7,d8⟩:=hp.acellsT hj
  have eb:b'=b:=by rw [hb] at hb';simp at hb';exact hb'.symm
  subst eb
  have hp0:=hp
  obtain ⟨t1,t2⟩:=rF (P':=pv x { V with al:=V.al.set j z }) (W':=rE W' b' (j * 9) z.vals) hw hT (fun o hp=>by
   obtain ⟨g',hp⟩:=hp
   obtain ⟨b2,Cb2,hb2,_,hC2,e0,e1,e2,e3,e4,e5,e6,e7,e8⟩:=hp.acellsT hzz
   have q1:=(hp.cell 26 (.slice g'.ao V.al.length g'.ac) rfl).symm.trans (hp0.cell 26 (.slice g.ao V.al.length g.ac) rfl)
   simp only [Option.some.injEq,Value.slice.injEq] at q1
   have eb:b2=b':=by rw [hb2,hb] at q1;simpa using q1.1
   subst eb
   exact hp.astore hb2 hjl hC2 z)
  exact ⟨b',g.ac,_,_,_,_,_,_,_,_,_,hp.xw,(blt hC),by rw [← hb];exact hp.cell 26 _ rfl,c0,c1,c2,c3,c4,c5,c6,c7,c8,d0,d1,d2,d3,d4,d5,d6,d7,d8,qA hC _,qA hC _,qA hC _,qA hC _,qA hC _,qA hC _,qA hC _,qA hC _,qA hC _,t1,t2⟩
 ·obtain ⟨o1,⟨g,hp⟩,b2,b3,b4⟩:=id hT
  have hlen:(V.al.set j z).length=m+1:=by simp;exact hm
  rcases hp.arow.2 with ⟨_,h0⟩|⟨b,cap,cur,hv,q1,q2,q3,q4⟩
  ·have h0:(V.al.set j z).length=0:=h0
   omega
  ·simp only [Value.slice.injEq] at hv
   have hc:W'.cell? (aq x 26)=some (.slice (some (aq b 0)) V.al.length g.ac):=by
    rw [hp.cell 26 (.slice g.ao (V.al.set j z).length g.ac) rfl,hv.1,List.length_set]
   have q3':V.al.length<=g.ac:=by
    have:(V.al.set j z).length<=cap:=q3
    rw [List.length_set] at this
    rw [hv.2.2];exact this
   refine ⟨b,g.ac,hp.xw,q3',hc,qA hp.blk _,(rF (P:=pv x { V with al:=V.al.set j z,att:=xC (a.t,0) (zD (z.t,0) j V.att) }) hw hT (fun o hp2=>?_)).1⟩
   obtain ⟨g2,hp2⟩:=hp2
   have e3:=(hp2.cell 26 (.slice g2.ao (V.al.set j z).length g2.ac) rfl).symm.trans (hp.cell 26 (.slice g.ao (V.al.set j z).length g.ac) rfl)
   simp only [Option.some.injEq,Value.slice.injEq] at e3
   have:=hp2.acut (m:=m) hlen
   rw [e3.1,e3.2.2,hv.1] at this
   obtain ⟨o2,r1,r2,r3⟩:=this
   exact ⟨o2,⟨r1,_,m,g.ac,by rw [uI (uH hp.blk _)];rfl⟩,r2,r3⟩
 ·obtain ⟨o1,⟨g,hp⟩,_⟩:=hT
  exact hp.xw
 ·obtain ⟨o1,⟨g,hp⟩,_⟩:=hT
  exact hp.xw
 ·rintro e w' ⟨rfl,o2,⟨rm,r1⟩,r2,r3⟩
  refine ⟨rfl,rm,o2,?_,r2,r3⟩
  unfold oB
  rw [hm,Nat.add_sub_cancel]
  exact r1
end
end
