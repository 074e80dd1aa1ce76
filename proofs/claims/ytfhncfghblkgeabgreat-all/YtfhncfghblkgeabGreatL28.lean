import Derived.Test.YtfhncfghblkgeabGreatL25
import Derived.Test.YtfhncfghblkgeabGreatL27
set_option maxRecDepth 100000
set_option maxHeartbeats 2000000
namespace Go.Proofs.YtfhncfghblkgeabGreat
open Go.RowKit
theorem Tryz.infoAnswer:(Tryz.prog.info? 211).map (fun i=>(i.zero,i.size,i.bytes))=some (some (.agg #[.string ByteArray.empty,iv 0,iv 0,iv 0,iv 0,iv 0,iv 0]),7,64):=by kernel_rfl
def iI (w w':World) (B R:Nat) (v:Value) (n:Nat) (E L:List Value):Prop :=
 ∃ C g cap,w.heap[R]?=some (.cells C 170)/\w'.heap[R]?=some (.cells (C.setIfInBounds 10 (.slice (some (aq g 0)) (n+1) cap)) 170 (0,0))/\w'.ownsRow B 211 7 (.slice (some (aq g 0)) (n+1) cap) (n+1) (E++L)/\Same (fun b=>b=R\/v.ownBlock=some b) w w'/\(v.ownBlock=some g\/w.heap.size<=g)
theorem Ps {w1 w3:World} {B R n g cap:Nat} {C:Array Value} {v:Value} {E L:List Value} {O:Obj} (hR1:w1.heap[R]?=some (.cells C 170)) (hv:v.ownBlock≠some R)
 (hown:w3.ownsRow B 211 7 (.slice (some (aq g 0)) (n+1) cap) (n+1) (E++L)) (hg:(w1.alloc O).grownBy w3 v.ownBlock) (hat:v.ownBlock=some g\/g=w1.heap.size+1) :
 iI w1 (w3.sc R 10 (.slice (some (aq g 0)) (n+1) cap)) B R v n E L:=by
 have hR:R<w1.heap.size:=(blt hR1)
 have k1:∀ k,k<w1.heap.size->v.ownBlock≠some k->w3.heap[k]?=w1.heap[k]?:=fun k hk hn=>(hg.block k uT (fun e=>hn e.symm)).trans (uE w1 O k hk)
 have z3:w1.heap.size+1<=w3.heap.size:=by have:=hg.size;simpa using this
 have hR3:w3.heap[R]?=some (.cells C 170):=(k1 R hR hv).trans hR1
 have ks:∀ k,k≠R->(w3.sc R 10 (.slice (some (aq g 0)) (n+1) cap)).heap[k]?=w3.heap[k]?:=fun k hk=>uG _ (aq R 10) _ _ hk
 have hgR:g≠R:=by
  rintro rfl
  rcases hat with e|e
  ·exact hv e
  ·omega
 refine ⟨C,g,cap,hR1,uH hR3 _,qG hown (fun k hk=>ks k (fun e=>hgR (by simp [Value.ownBlock] at hk;exact hk.trans e))),⟨hg.os,hg.tape,hg.output,by simp [World.setCell];omega,fun k hk hn=>?_⟩,hat.imp id (fun e=>uO)⟩
 rw [ks k (fun e=>hn (.inl e)),k1 k hk (fun e=>hn (.inr e))]
theorem lG {own:Nat->Prop} {w w':World} {a:Option Addr} {len cap:Nat} {l:List Int} (h:qJ w a len cap l) (hs:Same own w w') (hn:l≠[]->∀ b off,a=some (aq b off)->¬ own b):qJ w' a len cap l:=by
 obtain ⟨h1,h2,h3,h4,h5⟩:=h
 refine ⟨h1,h2,h3,h4,fun hne=>?_⟩
 obtain ⟨b,off,e,hb,hc⟩:=h5 hne
 exact ⟨b,off,e,uB hb hs.size,fun i hi=>(hs.cell hb (hn hne b off e)).trans (hc i hi)⟩
theorem qU {w:World} {R:Nat} {c0 c1 c2 c3 c4:Value} {T:TypeId} (h:w.heap[R]?=some (.cells #[c0,c1,c2,c3,c4] T)):w.cell? (aq R 0)=some c0/\w.cell? (aq R 1)=some c1/\w.cell? (aq R 2)=some c2/\w.cell? (aq R 3)=some c3/\w.cell? (aq R 4)=some c4 :=
 ⟨cB h,cB h,cB h,cB h,cB h⟩
theorem Pg (R bl bc:Nat) (ba:Option Addr) (k t c u o:Int) (w:World) (hk:k=1\/k=2\/k=3) (v:Value) (l:List Ans) (p:Ans->Bool) (h10:w.cell? (aq R 10)=some v) (hd:Xc w v l) (hl:l.length * 64<=140737488355328) (hfree:∀ j,j<l.length->¬ (p (l.getD j zU)=true/\(l.getD j zU).token=t)) (m tok:Int) (h6:w.cell? (aq R 6)=some (iv tok)) (hmt:m≠tok) (hl2:l.length * 64+64<=140737488355328)
 (B:Nat) (E:List Value) (now p0 p1 p2 p3:Int) (own:Nat->Prop) (hown:∀ b,own b->b<w.heap.size) (Q1:World->World->Prop) (bs:List Int) (hBw:B<=w.heap.size)
 (HDO:Hid ((k=1->∀ W,Below w.heap.size w W->Ca 145 #[pt R 0,.agg #[iv k,iv t,iv c,iv u,iv o]] W fun e w'=>e=.returned (.agg #[iv p0,iv p1,iv p2,iv p3])/\Q1 W w'/\Same own W w')/\(k=2->∀ W,Below w.heap.size w W->Ca 146 #[pt R 0,.agg #[iv k,iv t,iv c,iv u,iv o]] W fun e w'=>e=.returned (.agg #[iv p0,iv p1,iv p2,iv p3])/\Q1 W w'/\Same own W w')/\(k=3->∀ W,Below w.heap.size w W->Ca 147 #[pt R 0,.agg #[iv k,iv t,iv c,iv u,iv o]] W fun e w'=>e=.returned (.agg #[iv p0,iv p1,iv p2,iv p3])/\Q1 W w'/\Same own W w')))
 (HQS:Hid (∀ Wc W W' b,w.heap.size<=b->b<Wc.heap.size->Q1 Wc W->Same (fun x=>x=b) W W'->Q1 Wc W'))
 (HQ1:Hid (∀ Wc W,Below w.heap.size w Wc->Q1 Wc W->qJ W ba bl bc bs/\(bs≠[]->∀ b off,ba=some (aq b off)->b≠R/\Value.ownBlock v≠some b)/\W.ownsRow B 211 7 v l.length E/\∃ C,W.heap[R]?=some (.cells C 170)/\C[10]?=some v/\C[8]?=some (iv now)))
 (HUP:Hid (∀ W,Below w.heap.size w W->Ca 77 #[.slice ba bl bc] W fun e w'=>e=.returned (.tuple #[.agg #[iv k,iv t,iv c,iv u,iv o],iv 0])/\Below W.heap.size W w'))
 (HR:Hid (∀ a∈l,∀ W,Below w.heap.size w W->Ca 144 #[pt R 0,a.val] W fun e w'=>e=.returned (.bool (p a))/\Below W.heap.size W w'))
 (HAN:Hid (∀ W,Below w.heap.size w W->Ca 123 #[pt R 0] W fun e w'=>e=.returned (iv m)/\Below W.heap.size W w')) :
 Ca 118 #[pt R 0,.slice ba bl bc] w fun e w'=>e=.returned (.agg #[iv p0,iv p1,iv p2,iv p3])/\∃ Wc W5 W6,Q1 Wc W5/\Below w.heap.size w Wc/\w.heap.size<Wc.heap.size/\w.heap.size<W5.heap.size/\iI W5 W6 B R v l.length E [.string (strOfNums bs),iv t,iv p0,iv p1,iv p2,iv p3,iv now]/\Same (fun x=>x=w.heap.size) W6 w':=by
 replace h6:Hid _:=h6
 have hmd:(m==tok)=false:=by simpa using hmt
 clear hmt
 obtain ⟨a,cp,rfl,hc⟩:=hd
 have hRw:R<w.heap.size:=uC w _ h10
 have HC:Hid (0<l.length->∃ g,a=some (aq g 0)/\g<w.heap.size/\∀ i,i<l.length->Mz w g i (l.getD i zU)):=hc
 have H10:Hid (w.cell? (aq R 10)=some (.slice a l.length cp)):=h10
 clear hc h10
 go_enter Tryz.func118,Tryz.ntmps118
 go_wp2_with fail
 refine (HUP.out _ bL).mono ?_
 rintro e w1 ⟨rfl,b1⟩
 have w01:Below w.heap.size w w1:=uL (show Below w.heap.size w _ from bL) (b1.mono vS)
 have n0:w1.heap[w.heap.size]?=some (.cells #[iv 0,iv 0,iv 0,iv 0] 33):=(b1.block _ vS).trans (uF w _)
 have hz:w.heap.size<w1.heap.size:=(blt n0)
 clear b1
 replace hk:Hid _:=hk
 have hk4:(k==4)=false:=by have:=hk.out;simp;omega
 go_wp2_with fail
 have w00:Below w.heap.size w (w1.alloc (.cells #[iv k,iv t,iv c,iv u,iv o] 39)):=w01.alloc uO _
 have nn:(w1.alloc (.cells #[iv k,iv t,iv c,iv u,iv o] 39)).heap[w.heap.size]?=some (.cells #[iv 0,iv 0,iv 0,iv 0] 33):=(uE w1 _ _ hz).trans n0
 have rq:(w1.alloc (.cells #[iv k,iv t,iv c,iv u,iv o] 39)).heap[w1.heap.size]?=some (.cells #[iv k,iv t,iv c,iv u,iv o] 39):=uF _ _
 have hqz:w1.heap.size<(w1.alloc (.cells #[iv k,iv t,iv c,iv u,iv o] 39)).heap.size:=by simp
 generalize w1.alloc (.cells #[iv k,iv t,iv c,iv u,iv o] 39)=W0 at w00 nn rq hqz ⊢
 clear w01 n0
 generalize w1.heap.size=q at rq hz hqz ⊢
 replace nn:Hid _:=nn
 replace rq:Hid _:=rq
 have hR0:R<W0.heap.size:=uB hRw w00.size
 have H0:Hid (W0.cell? (aq R 10)=some (.slice a l.length cp)):=(w00.cell (p:=(aq R 10)) hRw).trans H10.out
 go_loopw [7] (fun i wr=>∃ j:Nat,j<=l.length/\i=iv j/\Below W0.heap.size W0 wr) (fun i _=>l.length - (intOf i).toNat)
 case atStart=>exact ⟨0,Nat.zero_le _,rfl,uM _ _⟩
 case round =>
  obtain ⟨j,hj,rfl,hbel⟩:=hrel
  have c10:=(hbel.cell (p:=(aq R 10)) hR0).trans H0.out
  have hRr:R<wr.heap.size:=uB hR0 hbel.size
  have hzr:=hbel.size
  by_cases hlt:j<l.length
  ·skip
   obtain ⟨g,rfl,hgw,hcell⟩:=HC.out uO
   have hg0:g<W0.heap.size:=uB hgw w00.size
   have hgr:g<wr.heap.size:=uB hg0 hbel.size
   obtain ⟨e0,e1,e2,e3,e4,e5,e6⟩:=hcell j hlt
   have hmem:l.getD j zU∈l:=by
    simp only [List.getD,uD hlt,Option.getD_some]
    exact List.getElem_mem hlt
   have HRK:Hid (∀ W,Below w.heap.size w W->Ca 144 #[pt R 0,(l.getD j zU).val] W fun e w'=>e=.returned (.bool (p (l.getD j zU)))/\Below W.heap.size W w'):=HR.out _ hmem
   have bb:Below w.heap.size w wr:=uL w00 (hbel.mono w00.size)
   replace e0:=(bb.cell (p:=(aq g (j * 7))) hgw).trans e0
   replace e1:=(bb.cell (p:=(aq g (j * 7+1))) hgw).trans e1
   replace e2:=(bb.cell (p:=(aq g (j * 7+2))) hgw).trans e2
   replace e3:=(bb.cell (p:=(aq g (j * 7+3))) hgw).trans e3
   replace e4:=(bb.cell (p:=(aq g (j * 7+4))) hgw).trans e4
   replace e5:=(bb.cell (p:=(aq g (j * 7+5))) hgw).trans e5
   replace e6:=(bb.cell (p:=(aq g (j * 7+6))) hgw).trans e6
   have b0:(0:Int)<=(j:Int):=uO
   have b1:(j:Int)<(l.length:Int):=uO
   have bbH:Hid (Below w.heap.size w wr):=bb
   have hbH:Hid (Below W0.heap.size W0 wr):=hbel
   by_cases hp:p (l.getD j zU)=true
   ·have hn:¬ (l.getD j zU).token=t:=fun e=>hfree j hlt ⟨hp,e⟩
    rw [hp] at HRK
    generalize l.getD j zU=x at e0 e1 e2 e3 e4 e5 e6 HRK hn
    obtain ⟨f,tk,⟨kk,oo,cc,uu⟩,at'⟩:=x
    unfold Ans.val at HRK
    simp only at e0 e1 e2 e3 e4 e5 e6 HRK hn
    have hnd:(tk==t)=false:=by simpa using hn
    clear hcell HC HR hmem
    go_wp2_with (first
     | (go_at_call 144;refine (HRK.out _ bL).mono ?_;rintro e wA ⟨rfl,b⟩
        have hA:Below wr.heap.size wr wA:=by first|exact b|exact uL (show Below wr.heap.size wr _ from bL) b
        have d10:=(hA.cell (p:=(aq R 10)) hRr).trans c10
        have d0:=(hA.cell (p:=(aq g (j * 7))) hgr).trans e0
        have d1:=(hA.cell (p:=(aq g (j * 7+1))) hgr).trans e1
        have d2:=(hA.cell (p:=(aq g (j * 7+2))) hgr).trans e2
        have d3:=(hA.cell (p:=(aq g (j * 7+3))) hgr).trans e3
        have d4:=(hA.cell (p:=(aq g (j * 7+4))) hgr).trans e4
        have d5:=(hA.cell (p:=(aq g (j * 7+5))) hgr).trans e5
        have d6:=(hA.cell (p:=(aq g (j * 7+6))) hgr).trans e6
        have hRA:R<wA.heap.size:=uB hRr hA.size
        have hgA:g<wA.heap.size:=uB hgr hA.size
        have hWA:Below W0.heap.size W0 wA:=uL hbH.out (hA.mono hbH.out.size)
        have rA:=(hWA.block q hqz).trans rq.out
        have dt:wA.cell? (aq q 1)=some (iv t):=cB rA
        have hqA:q<wA.heap.size:=(blt rA)
        clear b hA))
    go_quiet (fail)
    go_wp2
    exact ⟨⟨j+1,uO,vN,bL⟩,by simp [intOf];omega⟩
   ·have hp':p (l.getD j zU)=false:=by simpa using hp
    rw [hp'] at HRK
    generalize l.getD j zU=x at e0 e1 e2 e3 e4 e5 e6 HRK
    obtain ⟨f,tk,⟨kk,oo,cc,uu⟩,at'⟩:=x
    unfold Ans.val at HRK
    simp only at e0 e1 e2 e3 e4 e5 e6 HRK
    clear hcell HC HR hmem hp hp'
    go_wp2_with (first
     | (go_at_call 144;refine (HRK.out _ bL).mono ?_;rintro e wA ⟨rfl,b⟩
        have hA:Below wr.heap.size wr wA:=by first|exact b|exact uL (show Below wr.heap.size wr _ from bL) b
        have d10:=(hA.cell (p:=(aq R 10)) hRr).trans c10
        have d0:=(hA.cell (p:=(aq g (j * 7))) hgr).trans e0
        have d1:=(hA.cell (p:=(aq g (j * 7+1))) hgr).trans e1
        have d2:=(hA.cell (p:=(aq g (j * 7+2))) hgr).trans e2
        have d3:=(hA.cell (p:=(aq g (j * 7+3))) hgr).trans e3
        have d4:=(hA.cell (p:=(aq g (j * 7+4))) hgr).trans e4
        have d5:=(hA.cell (p:=(aq g (j * 7+5))) hgr).trans e5
        have d6:=(hA.cell (p:=(aq g (j * 7+6))) hgr).trans e6
        have hRA:R<wA.heap.size:=uB hRr hA.size
        have hgA:g<wA.heap.size:=uB hgr hA.size
        have hWA:Below W0.heap.size W0 wA:=uL hbH.out (hA.mono hbH.out.size)
        have rA:=(hWA.block q hqz).trans rq.out
        have dt:wA.cell? (aq q 1)=some (iv t):=cB rA
        have hqA:q<wA.heap.size:=(blt rA)
        clear b hA))
    go_quiet (fail)
    go_wp2
    exact ⟨⟨j+1,uO,vN,bL⟩,by simp [intOf];omega⟩
  ·have hje:j=l.length:=uO
   subst hje
   have bb:Below w.heap.size w wr:=uL w00 (hbel.mono w00.size)
   have bbH:Hid (Below w.heap.size w wr):=bb
   have hbH:Hid (Below W0.heap.size W0 wr):=hbel
   clear bb HC HR hfree
   have hkc:((k==1)=true/\(k==2)=false/\k=1)\/((k==1)=false/\(k==2)=true/\k=2)\/((k==1)=false/\(k==2)=false/\k=3):=by rcases hk.out with h|h|h<;>simp [h]
   clear hk hk4
   rcases hkc with ⟨e1,e2,hk⟩|⟨e1,e2,hk⟩|⟨e1,e2,hk⟩
   all_goals replace hk:Hid _:=hk
   all_goals
    go_wp2_with (first
     | (go_at_call 123;refine (HAN.out _ bL).mono ?_;rintro e wA ⟨rfl,b⟩
        have hWA:Below W0.heap.size W0 wA:=uL hbH.out (b.mono hbH.out.size)
        have bA:Below w.heap.size w wA:=uL w00 (hWA.mono w00.size)
        have d6:=(bA.cell (p:=(aq R 6)) hRw).trans h6.out
        have hRA:R<wA.heap.size:=uB hRw bA.size
        have nA:Hid _:=(hWA.block w.heap.size uO).trans nn.out
        have rA:Hid _:=(hWA.block q hqz).trans rq.out
        obtain ⟨q0,q1,q2,q3,q4⟩:=qU rA.out
        have hzA:w.heap.size<wA.heap.size:=(blt nA.out)
        have hqA:q<wA.heap.size:=(blt rA.out)
        clear b)
     | ((first|(go_at_call 145;refine (HDO.out.1 hk.out _ bL).mono ?_)|(go_at_call 146;refine (HDO.out.2.1 hk.out _ bL).mono ?_)|(go_at_call 147;refine (HDO.out.2.2 hk.out _ bL).mono ?_));rintro e w2 ⟨rfl,hq2,hs2⟩
        have hz2:wA.heap.size+1<=w2.heap.size:=by have:=hs2.size;simpa using this
        have n2:Hid _:=(hs2.block w.heap.size uT (fun e=>by have:=hown _ e;omega)).trans ((uE wA _ _ hzA).trans nA.out)
        have r2:Hid _:=(hs2.block q uT (fun e=>by have:=hown _ e;omega)).trans ((uE wA _ _ hqA).trans rA.out)
        have p2':w2.heap[wA.heap.size]?=some (.cells #[iv 0,iv 0,iv 0,iv 0] 33):=(hs2.block wA.heap.size vS (fun e=>by have:=hown _ e;omega)).trans (uF wA _)
        have hp2:Hid _:=p2'
        obtain ⟨s0,s1,s2,s3⟩:=qC p2'
        have f0:=qA p2' 0
        have f1:=qA p2' 1
        have f2:=qA p2' 2
        have f3:=qA p2' 3
        have hpz:wA.heap.size<w2.heap.size:=uO
        clear p2' hs2 d6 q0 q1 q2 q3 q4))
    have hsW:Same (fun x=>x=wA.heap.size) w2 ((((w2.setCell (aq wA.heap.size 0) (iv p0)).setCell (aq wA.heap.size 1) (iv p1)).setCell (aq wA.heap.size 2) (iv p2)).setCell (aq wA.heap.size 3) (iv p3)):=dJ _ _ _ _ _ _
    have hbc:Below w.heap.size w (wA.alloc (.cells #[iv 0,iv 0,iv 0,iv 0] 33)):=bA.alloc uO _
    have hzc:w.heap.size<(wA.alloc (.cells #[iv 0,iv 0,iv 0,iv 0] 33)).heap.size:=by simp;omega
    have hq5:=HQS.out _ w2 _ wA.heap.size uO vS hq2 hsW
    have n5:Hid _:=(hsW.block w.heap.size uO uO).trans n2.out
    have r5:Hid _:=(hsW.block q uO uO).trans r2.out
    have p5:Hid (((((w2.setCell (aq wA.heap.size 0) (iv p0)).setCell (aq wA.heap.size 1) (iv p1)).setCell (aq wA.heap.size 2) (iv p2)).setCell (aq wA.heap.size 3) (iv p3)).heap[wA.heap.size]?=some (.cells #[iv p0,iv p1,iv p2,iv p3] 33)):=uH (uH (uH (uH hp2.out _) _) _) _
    have hz5:wA.heap.size<((((w2.setCell (aq wA.heap.size 0) (iv p0)).setCell (aq wA.heap.size 1) (iv p1)).setCell (aq wA.heap.size 2) (iv p2)).setCell (aq wA.heap.size 3) (iv p3)).heap.size:=uB hpz hsW.size
    clear hsW hp2 s0 s1 s2 s3 f0 f1 f2 f3 n2 r2 hq2 rA nA
    generalize ((((w2.setCell (aq wA.heap.size 0) (iv p0)).setCell (aq wA.heap.size 1) (iv p1)).setCell (aq wA.heap.size 2) (iv p2)).setCell (aq wA.heap.size 3) (iv p3))=W5 at hq5 n5 r5 p5 hz5 ⊢
    generalize wA.alloc (.cells #[iv 0,iv 0,iv 0,iv 0] 33)=Wc at hbc hzc hq5
    clear hpz hz2
    have hqp:q≠wA.heap.size:=uO
    have hwp:w.heap.size≠wA.heap.size:=uO
    have hRp:R≠wA.heap.size:=uO
    have hRq:R≠q:=uO
    have hRs:R≠w.heap.size:=uO
    have hws5:w.heap.size<W5.heap.size:=uO
    have hqs5:q<W5.heap.size:=uO
    have hRs5:R<W5.heap.size:=uO
    have hBs5:B<=W5.heap.size:=uO
    clear hzA hqA hRA bA hWA
    generalize wA.heap.size=pb at p5 hz5 hqp hwp hRp ⊢
    obtain ⟨k1,k2,k3,C,hC,C10,C8⟩:=HQ1.out Wc W5 hbc hq5
    have x10:W5.cell? (aq R 10)=some (.slice a l.length cp):=by rw [uI hC];exact C10
    have x8:W5.cell? (aq R 8)=some (iv now):=by rw [uI hC];exact C8
    have xt:W5.cell? (aq q 1)=some (iv t):=cB r5.out
    obtain ⟨y0,y1,y2,y3⟩:=qC p5.out
    have hvR:Value.ownBlock (.slice a l.length cp)≠some R:=qP k3 hC vO
    have hvq:Value.ownBlock (.slice a l.length cp)≠some q:=qP k3 r5.out vO
    have hvp:Value.ownBlock (.slice a l.length cp)≠some pb:=qP k3 p5.out vO
    have hvw:Value.ownBlock (.slice a l.length cp)≠some w.heap.size:=qP k3 n5.out vO
    obtain ⟨i0,j0,j1,j2,j3⟩:=info_parts Tryz.infoAnswer
    have hnb:Hid ((W5.alloc (.cells #[.string (strOfNums bs),iv t,iv p0,iv p1,iv p2,iv p3,iv now] 211)).heap[W5.heap.size]?=some (.cells #[.string (strOfNums bs),iv t,iv p0,iv p1,iv p2,iv p3,iv now] 211)):=uF _ _
    have HO5:Hid (W5.ownsRow B 211 7 (.slice a l.length cp) l.length E):=k3
    have HAE:Hid (∀ w3 g cp' O,w3.ownsRow B 211 7 (.slice (some (aq g 0)) (l.length+1) cp') (l.length+1) (E++[.string (strOfNums bs),iv t,iv p0,iv p1,iv p2,iv p3,iv now])->(W5.alloc O).grownBy w3 (Value.ownBlock (.slice a l.length cp))->(Value.ownBlock (.slice a l.length cp)=some g\/g=W5.heap.size+1)->iI W5 (w3.setCell (aq R 10) (.slice (some (aq g 0)) (l.length+1) cp')) B R (.slice a l.length cp) l.length E [.string (strOfNums bs),iv t,iv p0,iv p1,iv p2,iv p3,iv now]):=fun w3 g cp' O x y z=>Ps hC hvR x y z
    have HSA:Hid (∀ W,Below W5.heap.size W5 W->qJ W ba bl bc bs):=fun W hW=>qM k1 hW
    have HK3:Hid (∀ w3 O,(W5.alloc O).drew.grownBy w3 (Value.ownBlock (.slice a l.length cp))->w3.heap[R]?=some (.cells C 170)/\w3.heap[w.heap.size]?=some (.cells #[iv 0,iv 0,iv 0,iv 0] 33)/\w3.cell? (aq q 1)=some (iv t)/\w3.heap[pb]?=some (.cells #[iv p0,iv p1,iv p2,iv p3] 33)/\qJ w3 ba bl bc bs):=fun w3 O hg=>by
     have k3:∀ k,k<W5.heap.size->Value.ownBlock (.slice a l.length cp)≠some k->w3.heap[k]?=W5.heap[k]?:=fun k hk hn=>(hg.block k uT (fun e=>hn e.symm)).trans (uE W5 _ k hk)
     have r3:=(k3 q hqs5 hvq).trans r5.out
     have hz3:W5.heap.size<=w3.heap.size:=uX vS hg.size
     exact ⟨(k3 R hRs5 hvR).trans hC,(k3 _ hws5 hvw).trans n5.out,cB r3,(k3 pb hz5 hvp).trans p5.out,lG (own:=fun b=>Value.ownBlock (.slice a l.length cp)=some b) k1 ⟨hg.os,hg.tape,hg.output,hz3,fun k hk hn=>k3 k hk hn⟩ (fun hne b off e=>(k2 hne b off e).2)⟩
    have HS4:Hid (∀ w3 v',qJ w3 ba bl bc bs->qJ (w3.setCell (aq R 10) v') ba bl bc bs):=fun w3 v' h=>lG (own:=fun b=>b=R) h ⟨rfl,rfl,rfl,by simp [World.setCell],fun k _ hn=>uG _ (aq R 10) _ _ hn⟩ (fun hne b off e=>(k2 hne b off e).1)
    replace hbc:Hid _:=hbc
    have CC:Hid (C[10]?=some (.slice a l.length cp)/\C[8]?=some (iv now)):=⟨C10,C8⟩
    have KC:Hid _:=hC
    clear k1 k2 k3 C10 C8 hC
    replace hvR:Hid _:=hvR
    replace hvq:Hid _:=hvq
    replace hvp:Hid _:=hvp
    replace hvw:Hid _:=hvw
    refine wp_region_held_drew (S:=(fun w'=>qJ w' ba bl bc bs/\w'.cell? (aq q 1)=some (iv t)/\w'.cell? (aq pb 0)=some (iv p0)/\w'.cell? (aq pb 1)=some (iv p1)/\w'.cell? (aq pb 2)=some (iv p2)/\w'.cell? (aq pb 3)=some (iv p3)/\w'.cell? (aq R 8)=some (iv now))) vK (by refine ⟨HSA.out _ bL,?_⟩;simp [go_sem, *]) (fun hHeld=>?_)
    refine wpAnyH_take (i:=0) (v:=?_) rfl vK vK vK (fun _ _ _ h=>h) (Or.inl ⟨by rfl,?_⟩) vP ?_
    rotate_left
    ·(intro w_ hSw;(try dsimp only at hSw);go_simp;try with_reducible rfl)
    simp only [Act.put,List.getElem_toArray,List.getElem_cons_zero,List.setIfInBounds_toArray,List.set_cons_zero,List.set_cons_succ]
    refine wpAnyH_take (i:=1) (v:=?_) rfl vK vK vK (fun _ _ _ h=>h) (Or.inl ⟨by rfl,?_⟩) vP ?_
    rotate_left
    ·(intro w_ hSw;(try dsimp only at hSw);go_simp;try with_reducible rfl)
    simp only [Act.put,lA,lB,lC,lD,lE,lF]
    refine wpAnyH_take (i:=2) (v:=?_) rfl vK vK vK (fun _ _ _ h=>h) (Or.inl ⟨by rfl,?_⟩) vP ?_
    rotate_left
    ·(intro w_ hSw;(try dsimp only at hSw);go_simp;try with_reducible rfl)
    simp only [Act.put,lA,lB,lC,lD,lE,lF]
    refine wpAnyH_take (i:=3) (v:=?_) rfl vK vK vK (fun _ _ _ h=>h) (Or.inl ⟨by rfl,?_⟩) vP ?_
    rotate_left
    ·(intro w_ hSw;(try dsimp only at hSw);go_simp;try with_reducible rfl)
    simp only [Act.put,lA,lB,lC,lD,lE,lF]
    refine wpAnyH_take (i:=5) (v:=?_) rfl vK vK vK (fun _ _ _ h=>h) (Or.inl ⟨by rfl,?_⟩) vP ?_
    rotate_left
    ·(intro w_ hSw;(try dsimp only at hSw);go_simp;try with_reducible rfl)
    simp only [Act.put,lA,lB,lC,lD,lE,lF]
    refine wpAnyH_take (i:=6) (v:=?_) rfl vK vK vK (fun _ _ _ h=>h) (Or.inl ⟨by rfl,?_⟩) vP ?_
    rotate_left
    ·(intro w_ hSw;have hcv:=xP hSw.1;(try dsimp only at hSw);go_simp;try with_reducible rfl)
    simp only [Act.put,lA,lB,lC,lD,lE,lF]
    refine wpAnyH_take (i:=7) (v:=?_) rfl vK vK vK (fun _ _ _ h=>h) (Or.inl ⟨by rfl,?_⟩) vP ?_
    rotate_left
    ·(intro w_ hSw;(try dsimp only at hSw);go_simp;try with_reducible rfl)
    simp only [Act.put,lA,lB,lC,lD,lE,lF]
    refine wpAnyH_take (i:=8) (v:=?_) rfl vK vK vK (fun _ _ _ h=>h) (Or.inl ⟨by rfl,?_⟩) vP ?_
    rotate_left
    ·(intro w_ hSw;(try dsimp only at hSw);go_simp;try with_reducible rfl)
    simp only [Act.put,lA,lB,lC,lD,lE,lF]
    refine wpAnyH_take (i:=9) (v:=?_) rfl vK vK vK (fun _ _ _ h=>h) (Or.inl ⟨by rfl,?_⟩) vP ?_
    rotate_left
    ·(intro w_ hSw;(try dsimp only at hSw);go_simp;try with_reducible rfl)
    simp only [Act.put,lA,lB,lC,lD,lE,lF]
    refine wpAnyH_take (i:=10) (v:=?_) rfl vK vK vK (fun _ _ _ h=>h) (Or.inl ⟨by rfl,?_⟩) vP ?_
    rotate_left
    ·(intro w_ hSw;(try dsimp only at hSw);go_simp;try with_reducible rfl)
    simp only [Act.put,lA,lB,lC,lD,lE,lF]
    refine wpAnyH_take (i:=11) (v:=?_) rfl vK vK vK (fun _ _ _ h=>h) (Or.inl ⟨by rfl,?_⟩) vP ?_
    rotate_left
    ·(intro w_ hSw;(try dsimp only at hSw);go_simp;try with_reducible rfl)
    simp only [Act.put,lA,lB,lC,lD,lE,lF]
    refine wpAnyH_take (i:=12) (v:=?_) rfl vK vK vK (fun _ _ _ h=>h) (Or.inl ⟨by rfl,?_⟩) vP ?_
    rotate_left
    ·(intro w_ hSw;(try dsimp only at hSw);go_simp;try with_reducible rfl)
    simp only [Act.put,lA,lB,lC,lD,lE,lF]
    refine wpAnyH_take (i:=13) (v:=?_) rfl vK vK vK (fun _ _ _ h=>h) (Or.inl ⟨by rfl,?_⟩) vP ?_
    rotate_left
    ·(intro w_ hSw;(try dsimp only at hSw);go_simp;try with_reducible rfl)
    simp only [Act.put,lA,lB,lC,lD,lE,lF]
    refine wpAnyH_take (i:=14) (v:=?_) rfl vK vK vK (fun _ _ _ h=>h) (Or.inl ⟨by rfl,?_⟩) vP ?_
    rotate_left
    ·(intro w_ hSw;(try dsimp only at hSw);go_simp;try with_reducible rfl)
    simp only [Act.put,lA,lB,lC,lD,lE,lF]
    refine wpAnyH_ready (rs:=[4,15]) vK vS ?_
    refine AllReadyH.cons rfl (fun K hK=>?_) (AllReadyH.cons rfl (fun K hK=>?_) AllReadyH.nil)
    go_simp
    refine hK.out _ _ (by (try dsimp only);refine ⟨HSA.out _ bL,?_⟩;simp [go_sem, *]) (fun hHeld=>?_)
    clear hK K
    refine wpAnyH_ready (rs:=[15]) vK vS ?_
    rotate_left
    go_simp
    refine hK.out _ _ (by (try dsimp only);refine ⟨HSA.out _ bL,?_⟩;simp [go_sem, *]) (fun hHeld=>?_)
    clear hK K
    refine wpAnyH_ready (rs:=[4]) vK vS ?_
    all_goals
     refine AllReadyH.cons rfl (fun K hK=>?_) AllReadyH.nil
     go_simp
     refine hK.out _ _ (by (try dsimp only);refine ⟨HSA.out _ bL,?_⟩;simp [go_sem, *]) (fun hHeld=>?_)
     clear hK K
     refine wpAnyH_ready (rs:=[16]) vK vS ?_
     refine AllReadyH.cons rfl (fun K hK=>?_) AllReadyH.nil
     refine step_append_lies _ (by rfl) _ _ _ (by rfl) B 211 i0 (.agg #[.string ByteArray.empty,iv 0,iv 0,iv 0,iv 0,iv 0,iv 0]) 7 64 Tryz.underlying168 j0 j1 j2 j3 rfl uO (.slice a l.length cp) l.length E (by rfl) ((show W5.ownsRow B 211 7 (.slice a l.length cp) l.length E from HO5.out).alloc _).drew (aq W5.heap.size 0) 1 1 [.string (strOfNums bs),iv t,iv p0,iv p1,iv p2,iv p3,iv now] (by rfl) (by rfl) (World.news_of_block (cs:=#[.string (strOfNums bs),iv t,iv p0,iv p1,iv p2,iv p3,iv now]) (t:=211) (fr:=(0,0)) hnb.out) (by simp [Value.oneCell']) uO (by unfold maxLen;omega) uO uT (W5.heap.size+1) vS ?_
     intro gg cp' w3 hown3 hgrow hat hlt
     obtain ⟨hR3,n3,g1,gp,gs⟩:=HK3.out w3 _ hgrow
     replace hown3:Hid _:=hown3
     replace hgrow:Hid _:=hgrow
     replace hat:Hid _:=hat
     replace gs:Hid (qJ w3 ba bl bc bs):=gs
     have g10:w3.cell? (aq R 10)=some (.slice a l.length cp):=by rw [uI hR3];exact CC.out.1
     have g8:w3.cell? (aq R 8)=some (iv now):=by rw [uI hR3];exact CC.out.2
     have gf:=qA hR3 10
     obtain ⟨z0,z1,z2,z3⟩:=qC gp
     have hR3w:R<w3.heap.size:=(blt hR3)
     replace hR3:Hid _:=hR3
     replace n3:Hid _:=n3
     replace gp:Hid _:=gp
     refine hK.out _ _ (by (try dsimp only);refine ⟨gs.out,?_⟩;simp [go_sem, *]) (fun hHeld=>?_)
     clear hK K
     refine wpAnyH_take (i:=17) (v:=?_) rfl vK vK vK (fun _ _ _ h=>h) (Or.inl ⟨by rfl,?_⟩) vP ?_
     rotate_left
     ·(intro w_ hSw;(try dsimp only at hSw);go_simp;try with_reducible rfl)
     simp only [Act.put,lA,lB,lC,lD,lE,lF]
     refine wpAnyH_take (i:=18) (v:=?_) rfl vK vK vK (fun _ _ _ h=>h) (Or.inl ⟨by rfl,?_⟩) vP ?_
     rotate_left
     ·(intro w_ hSw;(try dsimp only at hSw);go_simp;try with_reducible rfl)
     simp only [Act.put,lA,lB,lC,lD,lE,lF]
     refine wpAnyH_ready (rs:=[19]) vK vS ?_
     refine AllReadyH.cons rfl (fun K hK=>?_) AllReadyH.nil
     go_simp
     refine hK.out _ _ (by (try dsimp only);refine ⟨HS4.out _ _ gs.out,?_⟩;simp [go_sem, *]) (fun hHeld=>?_)
     clear hK K
     refine wpAnyH_done vK ?_ _
     have HA:Hid (iI W5 (w3.setCell (aq R 10) (.slice (some (aq gg 0)) (l.length+1) cp')) B R (.slice a l.length cp) l.length E [.string (strOfNums bs),iv t,iv p0,iv p1,iv p2,iv p3,iv now]):=HAE.out w3 gg cp' _ hown3.out ⟨hgrow.out.os,hgrow.out.tape,hgrow.out.output,hgrow.out.size,hgrow.out.block⟩ hat.out
     have n6:=(uG w3 (aq R 10) (.slice (some (aq gg 0)) (l.length+1) cp') _ (Ne.symm hRs)).trans n3.out
     have p6:=(uG w3 (aq R 10) (.slice (some (aq gg 0)) (l.length+1) cp') _ (Ne.symm hRp)).trans gp.out
     clear g10 g8 gf z0 z1 z2 z3 hR3w hR3 n3 gp hown3 hgrow hat hlt g1 gs hHeld x10 x8 xt y0 y1 y2 y3
     generalize w3.setCell (aq R 10) (.slice (some (aq gg 0)) (l.length+1) cp')=W6 at HA n6 p6 ⊢
     obtain ⟨s0,s1,s2,s3⟩:=qC n6
     obtain ⟨y0,y1,y2,y3⟩:=qC p6
     have f0:=qA n6 0
     have f1:=qA n6 1
     have f2:=qA n6 2
     have f3:=qA n6 3
     have hz6:w.heap.size<W6.heap.size:=(blt n6)
     have hp6:pb<W6.heap.size:=(blt p6)
     clear n6 p6
     go_wp2
     refine uK (v:=.agg #[iv p0,iv p1,iv p2,iv p3]) (by simp [results,Tryz.results118,go_sem,s0,s1,s2,s3]) rfl ⟨rfl,Wc,W5,W6,hq5,hbc.out,hzc,hws5,HA.out,?_⟩
     exact dJ _ _ _ _ _ _
