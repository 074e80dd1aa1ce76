import Derived.Test.YtfhncfghblkgeabGreatL20
import Derived.Test.YtfhncfghblkgeabGreatL24
set_option maxRecDepth 100000
set_option maxHeartbeats 2000000
namespace Go.Proofs.YtfhncfghblkgeabGreat
open Go.RowKit
section
def Ans.val (a:Ans):Value:=.agg #[.string a.frame,iv a.token,iv a.rep.kind,iv a.rep.order,iv a.rep.cents,iv a.rep.upto,iv a.at']
def Sal.remem (S:Sal) (a:Ans):Bool:=decide (S.now - a.at'<S.C.keep)
def Sal.answers (S:Sal):Nat:=(S.ansL.filter S.remem).length
def Mz (w:World) (g i:Nat) (a:Ans):Prop :=
 w.cell? (aq g (i * 7))=some (.string a.frame)/\w.cell? (aq g (i * 7+1))=some (iv a.token)/\w.cell? (aq g (i * 7+2))=some (iv a.rep.kind)/\w.cell? (aq g (i * 7+3))=some (iv a.rep.order)/\w.cell? (aq g (i * 7+4))=some (iv a.rep.cents)/\w.cell? (aq g (i * 7+5))=some (iv a.rep.upto)/\w.cell? (aq g (i * 7+6))=some (iv a.at')
def Xc (w:World) (v:Value) (l:List Ans):Prop:=∃ a c,v=.slice a l.length c/\(0<l.length->∃ g,a=some (aq g 0)/\g<w.heap.size/\∀ i,i<l.length->Mz w g i (l.getD i zU))
theorem Xo {w:World} {B:Nat} {v:Value} {l:List Ans} {T:TypeId} (h:w.ownsRow B T 7 v l.length (rT l)):Xc w v l:=by
 rcases h.2 with ⟨rfl,h0⟩|⟨g,cap,cur,rfl,hg,hh,_⟩
 ·exact ⟨none,0,by rw [h0],fun hp=>uO⟩
 ·refine ⟨_,_,rfl,fun _=>⟨g,rfl,(blt hh),fun i hi=>?_⟩⟩
  have c:∀ j,j<7->∀ u,(l.getD i zU).vals[j]?=some u->w.cell? (aq g (i * 7+j))=some u:=fun j hj u hu=>by
   have:=h.cells (g:=g) rfl _ _ ((Ut hi j hj).trans hu)
   rwa [Addr.add_lit,Nat.zero_add] at this
  exact ⟨c 0 uO _ rfl,c 1 uO _ rfl,c 2 uO _ rfl,c 3 uO _ rfl,c 4 uO _ rfl,c 5 uO _ rfl,c 6 uO _ rfl⟩
theorem pQ (R:Nat) (now keep:Int) (a:Ans) (w:World) (h8:w.cell? (aq R 8)=some (iv now)) (h5:w.cell? (aq R 5)=some (iv keep)) (hb:0<=now/\now<=4611686018427387904/\0<=a.at'/\a.at'<=4611686018427387904) :
 Ca 144 #[pt R 0,a.val] w fun e w'=>e=.returned (.bool (decide (now - a.at'<keep)))/\Below w.heap.size w w':=by
 have hRw:R<w.heap.size:=uC w _ h8
 obtain ⟨f,t,⟨k,o,c,u⟩,at'⟩:=a
 unfold Ans.val
 simp only at hb ⊢
 have hw:IntKind.i64.wrap (now - at')=now - at':=yA uO uO
 go_enter Tryz.func144,Tryz.ntmps144
 go_wp2_with fail
 go_quiet (fail)
 go_wp2
 go_ret
 exact ⟨rfl,bL⟩
theorem Yf (R:Nat) (v:Value) (l:List Ans) (p:Ans->Bool) (w:World) (h10:w.cell? (aq R 10)=some v) (hd:Xc w v l) (hl:l.length * 64<=140737488355328)
 (HR:Hid (∀ a∈l,∀ W,Below w.heap.size w W->Ca 144 #[pt R 0,a.val] W fun e w'=>e=.returned (.bool (p a))/\Below W.heap.size W w')) :
 Ca 123 #[pt R 0] w fun e w'=>e=.returned (iv (l.filter p).length)/\Below w.heap.size w w':=by
 obtain ⟨a,cp,rfl,hc⟩:=hd
 have hRw:R<w.heap.size:=uC w _ h10
 have HC:Hid (0<l.length->∃ g,a=some (aq g 0)/\g<w.heap.size/\∀ i,i<l.length->Mz w g i (l.getD i zU)):=hc
 have H10:Hid (w.cell? (aq R 10)=some (.slice a l.length cp)):=h10
 clear hc h10
 go_enter Tryz.func123,Tryz.ntmps123
 go_wp2_with fail
 go_loopw [3,4] (fun n i wr=>∃ k:Nat,k<=l.length/\i=iv k/\n=iv ((l.take k).filter p).length/\Below w.heap.size w wr) (fun _ i _=>l.length - (intOf i).toNat)
 case atStart=>exact ⟨0,Nat.zero_le _,rfl,rfl,uM _ _⟩
 case round =>
  obtain ⟨k,hk,rfl,rfl,hbel⟩:=hrel
  have c10:=(hbel.cell (p:=(aq R 10)) hRw).trans H10.out
  have hRr:R<wr.heap.size:=uB hRw hbel.size
  have hz:=hbel.size
  by_cases hlt:k<l.length
  ·obtain ⟨g,rfl,hgw,hcell⟩:=HC.out uO
   obtain ⟨e0,e1,e2,e3,e4,e5,e6⟩:=hcell k hlt
   have hgr:g<wr.heap.size:=uB hgw hbel.size
   have hmem:l.getD k zU∈l:=by
    simp only [List.getD,uD hlt,Option.getD_some]
    exact List.getElem_mem hlt
   have HRK:Hid (∀ W,Below w.heap.size w W->Ca 144 #[pt R 0,(l.getD k zU).val] W fun e w'=>e=.returned (.bool (p (l.getD k zU)))/\Below W.heap.size W w'):=HR.out _ hmem
   have HN:Hid (((l.take (k+1)).filter p).length=((l.take k).filter p).length+if p (l.getD k zU) then 1 else 0):=by
    unfold Hid
    rw [List.take_succ_eq_append_getElem hlt,List.filter_append,List.length_append]
    have:l.getD k zU=l[k]:=by simp [List.getD,uD hlt]
    rw [this]
    cases h:p l[k]<;>simp [h]
   have hfl:((l.take k).filter p).length<=k:=uX (List.length_filter_le _ _) uT
   replace e0:=(hbel.cell (p:=(aq g (k * 7))) hgw).trans e0
   replace e1:=(hbel.cell (p:=(aq g (k * 7+1))) hgw).trans e1
   replace e2:=(hbel.cell (p:=(aq g (k * 7+2))) hgw).trans e2
   replace e3:=(hbel.cell (p:=(aq g (k * 7+3))) hgw).trans e3
   replace e4:=(hbel.cell (p:=(aq g (k * 7+4))) hgw).trans e4
   replace e5:=(hbel.cell (p:=(aq g (k * 7+5))) hgw).trans e5
   replace e6:=(hbel.cell (p:=(aq g (k * 7+6))) hgw).trans e6
   have b0:(0:Int)<=(k:Int):=uO
   have b1:(k:Int)<(l.length:Int):=uO
   generalize l.getD k zU=x at e0 e1 e2 e3 e4 e5 e6 HRK HN
   generalize p x=px at HRK HN
   obtain ⟨f,t,⟨kk,oo,cc,uu⟩,at'⟩:=x
   unfold Ans.val at HRK
   simp only at e0 e1 e2 e3 e4 e5 e6 HRK
   generalize hm1:((l.take (k+1)).filter p).length=m1 at HN
   have HK:Hid (((l.take (k+1)).filter p).length=m1):=hm1
   clear hm1
   generalize ((l.take k).filter p).length=m at HN hfl
   clear hcell HC HR
   cases px
   ·have hm2:m1=m:=by simpa using HN.out
    go_wp2_with (go_at_call 144;refine (HRK.out _ bL).mono ?_;rintro e w1 ⟨rfl,b⟩)
    have hb1:Below w.heap.size w w1:=uL (show Below w.heap.size w _ from bL) (b.mono uO)
    exact ⟨⟨k+1,uO,vN,by rw [HK.out,hm2],hb1⟩,by simp [intOf];omega⟩
   ·have hm2:m1=m+1:=by simpa using HN.out
    go_wp2_with (go_at_call 144;refine (HRK.out _ bL).mono ?_;rintro e w1 ⟨rfl,b⟩)
    have hb1:Below w.heap.size w w1:=uL (show Below w.heap.size w _ from bL) (b.mono uO)
    exact ⟨⟨k+1,uO,vN,by rw [HK.out,hm2];go_num,hb1⟩,by simp [intOf];omega⟩
  ·have hke:k=l.length:=uO
   subst hke
   go_wp2
   go_ret
   exact ⟨by rw [List.take_length];rfl,hbel⟩
section
variable {w:World} {B R:Nat} {S:Sal} {ap:Option Addr} {lp cp:Nat} {vo va:Value}
theorem rG (h:saleAt w B R S ap lp cp vo va) (hI:salI S) (hat:∀ a∈S.ansL,0<=a.at'/\a.at'<=4611686018427387904) (hl:S.ansL.length * 64<=140737488355328) :
 ∀ W,Below w.heap.size w W->Ca 123 #[pt R 0] W fun e w'=>e=.returned (iv S.answers)/\Below W.heap.size W w':=by
 intro W hW
 have h':=qL h hW
 refine Yf R va S.ansL S.remem W (cB h'.blk) (Xo h'.ansL) hl (fun a ha W2 h2=>?_)
 have h'':=qL h' h2
 obtain ⟨_,_,_,_,_,c5,_,_,c8,_⟩:=jS h''.blk
 exact pQ R S.now S.C.keep a W2 c8 c5 ⟨hI.now.1,hI.now.2,(hat a ha).1,(hat a ha).2⟩
end
end
theorem La (R bl bc:Nat) (ba:Option Addr) (k t c u o:Int) (w:World) (hk:k=1\/k=2\/k=3) (v:Value) (l:List Ans) (p:Ans->Bool) (h10:w.cell? (aq R 10)=some v) (hd:Xc w v l) (hl:l.length * 64<=140737488355328) (i0:Nat) (hi0:i0<l.length) (hfree:∀ j,j<i0->¬ (p (l.getD j zU)=true/\(l.getD j zU).token=t)) (hp0:p (l.getD i0 zU)=true) (ht0:(l.getD i0 zU).token=t)
 (bs:List Int) (hbs:qJ w ba bl bc bs) (rv:Value) (HV:Hid ((l.getD i0 zU).frame=strOfNums bs->rv=(l.getD i0 zU).rep.val)) (HV':Hid (¬ (l.getD i0 zU).frame=strOfNums bs->rv=.agg #[iv 10,iv 0,iv 0,iv 0]))
 (HUP:Hid (∀ W,Below w.heap.size w W->Ca 77 #[.slice ba bl bc] W fun e w'=>e=.returned (.tuple #[.agg #[iv k,iv t,iv c,iv u,iv o],iv 0])/\Below W.heap.size W w'))
 (HR:Hid (∀ a∈l,∀ W,Below w.heap.size w W->Ca 144 #[pt R 0,a.val] W fun e w'=>e=.returned (.bool (p a))/\Below W.heap.size W w')) :
 Ca 118 #[pt R 0,.slice ba bl bc] w fun e w'=>e=.returned rv/\Below w.heap.size w w':=by
 obtain ⟨a,cp,rfl,hc⟩:=hd
 have hRw:R<w.heap.size:=uC w _ h10
 have HC:Hid (0<l.length->∃ g,a=some (aq g 0)/\g<w.heap.size/\∀ i,i<l.length->Mz w g i (l.getD i zU)):=hc
 have H10:Hid (w.cell? (aq R 10)=some (.slice a l.length cp)):=h10
 clear hc h10
 go_enter Tryz.func118,Tryz.ntmps118
 go_wp2_with fail
 refine (HUP.out _ bL).mono ?_
 rintro e w1 ⟨rfl,b1⟩
 have w01:Below w.heap.size w w1:=uL (show Below w.heap.size w _ from bL) (b1.mono vS)
 have n0:w1.heap[w.heap.size]?=some (.cells #[iv 0,iv 0,iv 0,iv 0] 33):=(b1.block _ vS).trans (uF w _)
 have hz:w.heap.size<w1.heap.size:=(blt n0)
 clear b1
 replace hk:Hid _:=hk
 have hk4:(k==4)=false:=by have:=hk.out;simp;omega
 go_wp2_with fail
 have w00:Below w.heap.size w (w1.alloc (.cells #[iv k,iv t,iv c,iv u,iv o] 39)):=w01.alloc uO _
 have nn:(w1.alloc (.cells #[iv k,iv t,iv c,iv u,iv o] 39)).heap[w.heap.size]?=some (.cells #[iv 0,iv 0,iv 0,iv 0] 33):=(uE w1 _ _ hz).trans n0
 have rq:(w1.alloc (.cells #[iv k,iv t,iv c,iv u,iv o] 39)).heap[w1.heap.size]?=some (.cells #[iv k,iv t,iv c,iv u,iv o] 39):=uF _ _
 have hqz:w1.heap.size<(w1.alloc (.cells #[iv k,iv t,iv c,iv u,iv o] 39)).heap.size:=by simp
 generalize w1.alloc (.cells #[iv k,iv t,iv c,iv u,iv o] 39)=W0 at w00 nn rq hqz ⊢
 clear w01 n0
 generalize w1.heap.size=q at rq hz hqz ⊢
 replace nn:Hid _:=nn
 replace rq:Hid _:=rq
 have hR0:R<W0.heap.size:=uB hRw w00.size
 have H0:Hid (W0.cell? (aq R 10)=some (.slice a l.length cp)):=(w00.cell (p:=(aq R 10)) hRw).trans H10.out
 go_loopw [7] (fun i wr=>∃ j:Nat,j<=i0/\i=iv j/\Below W0.heap.size W0 wr) (fun i _=>l.length - (intOf i).toNat)
 case atStart=>exact ⟨0,Nat.zero_le _,rfl,uM _ _⟩
 case round =>
  obtain ⟨j,hj,rfl,hbel⟩:=hrel
  have c10:=(hbel.cell (p:=(aq R 10)) hR0).trans H0.out
  have hRr:R<wr.heap.size:=uB hR0 hbel.size
  have hzr:=hbel.size
  have hlt:j<l.length:=uO
  obtain ⟨g,rfl,hgw,hcell⟩:=HC.out uO
  have hg0:g<W0.heap.size:=uB hgw w00.size
  have hgr:g<wr.heap.size:=uB hg0 hbel.size
  obtain ⟨e0,e1,e2,e3,e4,e5,e6⟩:=hcell j hlt
  have hmem:l.getD j zU∈l:=by
   simp only [List.getD,uD hlt,Option.getD_some]
   exact List.getElem_mem hlt
  have HRK:Hid (∀ W,Below w.heap.size w W->Ca 144 #[pt R 0,(l.getD j zU).val] W fun e w'=>e=.returned (.bool (p (l.getD j zU)))/\Below W.heap.size W w'):=HR.out _ hmem
  have bb:Below w.heap.size w wr:=uL w00 (hbel.mono w00.size)
  replace e0:=(bb.cell (p:=(aq g (j * 7))) hgw).trans e0
  replace e1:=(bb.cell (p:=(aq g (j * 7+1))) hgw).trans e1
  replace e2:=(bb.cell (p:=(aq g (j * 7+2))) hgw).trans e2
  replace e3:=(bb.cell (p:=(aq g (j * 7+3))) hgw).trans e3
  replace e4:=(bb.cell (p:=(aq g (j * 7+4))) hgw).trans e4
  replace e5:=(bb.cell (p:=(aq g (j * 7+5))) hgw).trans e5
  replace e6:=(bb.cell (p:=(aq g (j * 7+6))) hgw).trans e6
  have b0:(0:Int)<=(j:Int):=uO
  have b1:(j:Int)<(l.length:Int):=uO
  have bbH:Hid (Below w.heap.size w wr):=bb
  have hbH:Hid (Below W0.heap.size W0 wr):=hbel
  by_cases hji:j<i0
  ·skip
   by_cases hp:p (l.getD j zU)=true
   ·have hn:¬ (l.getD j zU).token=t:=fun e=>hfree j hji ⟨hp,e⟩
    rw [hp] at HRK
    generalize l.getD j zU=x at e0 e1 e2 e3 e4 e5 e6 HRK hn
    obtain ⟨f,tk,⟨kk,oo,cc,uu⟩,at'⟩:=x
    unfold Ans.val at HRK
    simp only at e0 e1 e2 e3 e4 e5 e6 HRK hn
    have hnd:(tk==t)=false:=by simpa using hn
    clear hcell HC HR hmem
    go_wp2_with (first
     | (go_at_call 144;refine (HRK.out _ bL).mono ?_;rintro e wA ⟨rfl,b⟩
        have hA:Below wr.heap.size wr wA:=by first|exact b|exact uL (show Below wr.heap.size wr _ from bL) b
        have d10:=(hA.cell (p:=(aq R 10)) hRr).trans c10
        have d0:=(hA.cell (p:=(aq g (j * 7))) hgr).trans e0
        have d1:=(hA.cell (p:=(aq g (j * 7+1))) hgr).trans e1
        have d2:=(hA.cell (p:=(aq g (j * 7+2))) hgr).trans e2
        have d3:=(hA.cell (p:=(aq g (j * 7+3))) hgr).trans e3
        have d4:=(hA.cell (p:=(aq g (j * 7+4))) hgr).trans e4
        have d5:=(hA.cell (p:=(aq g (j * 7+5))) hgr).trans e5
        have d6:=(hA.cell (p:=(aq g (j * 7+6))) hgr).trans e6
        have hRA:R<wA.heap.size:=uB hRr hA.size
        have hgA:g<wA.heap.size:=uB hgr hA.size
        have hWA:Below W0.heap.size W0 wA:=uL hbH.out (hA.mono hbH.out.size)
        have rA:=(hWA.block q hqz).trans rq.out
        have dt:wA.cell? (aq q 1)=some (iv t):=cB rA
        have hqA:q<wA.heap.size:=(blt rA)
        clear b hA))
    go_quiet (fail)
    go_wp2
    exact ⟨⟨j+1,uO,vN,bL⟩,by simp [intOf];omega⟩
   ·have hp':p (l.getD j zU)=false:=by simpa using hp
    rw [hp'] at HRK
    generalize l.getD j zU=x at e0 e1 e2 e3 e4 e5 e6 HRK
    obtain ⟨f,tk,⟨kk,oo,cc,uu⟩,at'⟩:=x
    unfold Ans.val at HRK
    simp only at e0 e1 e2 e3 e4 e5 e6 HRK
    clear hcell HC HR hmem hp hp'
    go_wp2_with (first
     | (go_at_call 144;refine (HRK.out _ bL).mono ?_;rintro e wA ⟨rfl,b⟩
        have hA:Below wr.heap.size wr wA:=by first|exact b|exact uL (show Below wr.heap.size wr _ from bL) b
        have d10:=(hA.cell (p:=(aq R 10)) hRr).trans c10
        have d0:=(hA.cell (p:=(aq g (j * 7))) hgr).trans e0
        have d1:=(hA.cell (p:=(aq g (j * 7+1))) hgr).trans e1
        have d2:=(hA.cell (p:=(aq g (j * 7+2))) hgr).trans e2
        have d3:=(hA.cell (p:=(aq g (j * 7+3))) hgr).trans e3
        have d4:=(hA.cell (p:=(aq g (j * 7+4))) hgr).trans e4
        have d5:=(hA.cell (p:=(aq g (j * 7+5))) hgr).trans e5
        have d6:=(hA.cell (p:=(aq g (j * 7+6))) hgr).trans e6
        have hRA:R<wA.heap.size:=uB hRr hA.size
        have hgA:g<wA.heap.size:=uB hgr hA.size
        have hWA:Below W0.heap.size W0 wA:=uL hbH.out (hA.mono hbH.out.size)
        have rA:=(hWA.block q hqz).trans rq.out
        have dt:wA.cell? (aq q 1)=some (iv t):=cB rA
        have hqA:q<wA.heap.size:=(blt rA)
        clear b hA))
    go_quiet (fail)
    go_wp2
    exact ⟨⟨j+1,uO,vN,bL⟩,by simp [intOf];omega⟩
  ·have hje:j=i0:=uO
   subst hje
   rw [hp0] at HRK
   have HBS:Hid (∀ W,Below w.heap.size w W->(convert 70 9 (.slice ba bl bc)).run Tryz.prog W=.ok (.string (strOfNums bs)) W):=fun W hW=>xP (qM hbs hW)
   have w00H:Hid (Below w.heap.size w W0):=w00
   generalize hx:l.getD j zU=x at e0 e1 e2 e3 e4 e5 e6 HRK ht0
   obtain ⟨f,tk,⟨kk,oo,cc,uu⟩,at'⟩:=x
   replace hx:Hid _:=hx
   unfold Ans.val at HRK
   simp only at e0 e1 e2 e3 e4 e5 e6 HRK ht0
   have htd:(tk==t)=true:=by simpa using ht0
   clear hcell HC HR hmem hbs hfree hp0 ht0
   show _
   by_cases hfe:f=strOfNums bs
   ·have hE:(f.toList==(strOfNums bs).toList)=true:=by rw [hfe];simp
    replace hfe:Hid _:=hfe
    go_wp2_with (first
     | (go_at_call 144;refine (HRK.out _ bL).mono ?_;rintro e wA ⟨rfl,b⟩
        have hA:Below wr.heap.size wr wA:=by first|exact b|exact uL (show Below wr.heap.size wr _ from bL) b
        have d10:=(hA.cell (p:=(aq R 10)) hRr).trans c10
        have d0:=(hA.cell (p:=(aq g (j * 7))) hgr).trans e0
        have d1:=(hA.cell (p:=(aq g (j * 7+1))) hgr).trans e1
        have d2:=(hA.cell (p:=(aq g (j * 7+2))) hgr).trans e2
        have d3:=(hA.cell (p:=(aq g (j * 7+3))) hgr).trans e3
        have d4:=(hA.cell (p:=(aq g (j * 7+4))) hgr).trans e4
        have d5:=(hA.cell (p:=(aq g (j * 7+5))) hgr).trans e5
        have d6:=(hA.cell (p:=(aq g (j * 7+6))) hgr).trans e6
        have hRA:R<wA.heap.size:=uB hRr hA.size
        have hgA:g<wA.heap.size:=uB hgr hA.size
        have hWA:Below W0.heap.size W0 wA:=uL hbH.out (hA.mono hbH.out.size)
        have rA:=(hWA.block q hqz).trans rq.out
        have dt:wA.cell? (aq q 1)=some (iv t):=cB rA
        have hqA:q<wA.heap.size:=(blt rA)
        clear b hA))
    have hcv:∀ m,(convert 70 9 (.slice ba bl bc)).run Tryz.prog (wA.drewN m)=.ok (.string (strOfNums bs)) (wA.drewN m):=fun m=>HBS.out _ (qY (uL w00H.out (hWA.mono w00H.out.size)))
    go_quiet (fail)
    go_wp2_with fail
    go_quiet (fail)
    have nA:=(hWA.block w.heap.size uO).trans nn.out
    obtain ⟨s0,s1,s2,s3⟩:=qC nA
    have f0:=qA nA 0
    have f1:=qA nA 1
    have f2:=qA nA 2
    have f3:=qA nA 3
    have hzA:w.heap.size<wA.heap.size:=(blt nA)
    have wWA:=uL w00H.out (hWA.mono w00H.out.size)
    clear nA
    go_wp2
    refine uK (v:=.agg #[iv kk,iv oo,iv cc,iv uu]) (by simp [results,Tryz.results118,go_sem,s0,s1,s2,s3]) rfl ⟨by rw [HV.out (by rw [hx.out];exact hfe.out),hx.out];rfl,?_⟩
    exact bL
   ·have hE:(f.toList==(strOfNums bs).toList)=false:=by
     rw [ByteArray.toList_eq,ByteArray.toList_eq]
     simp only [beq_eq_false_iff_ne,ne_eq]
     exact fun e=>hfe (ByteArray.ext (Array.toList_inj.1 e))
    replace hfe:Hid _:=hfe
    go_wp2_with (first
     | (go_at_call 144;refine (HRK.out _ bL).mono ?_;rintro e wA ⟨rfl,b⟩
        have hA:Below wr.heap.size wr wA:=by first|exact b|exact uL (show Below wr.heap.size wr _ from bL) b
        have d10:=(hA.cell (p:=(aq R 10)) hRr).trans c10
        have d0:=(hA.cell (p:=(aq g (j * 7))) hgr).trans e0
        have d1:=(hA.cell (p:=(aq g (j * 7+1))) hgr).trans e1
        have d2:=(hA.cell (p:=(aq g (j * 7+2))) hgr).trans e2
        have d3:=(hA.cell (p:=(aq g (j * 7+3))) hgr).trans e3
        have d4:=(hA.cell (p:=(aq g (j * 7+4))) hgr).trans e4
        have d5:=(hA.cell (p:=(aq g (j * 7+5))) hgr).trans e5
        have d6:=(hA.cell (p:=(aq g (j * 7+6))) hgr).trans e6
        have hRA:R<wA.heap.size:=uB hRr hA.size
        have hgA:g<wA.heap.size:=uB hgr hA.size
        have hWA:Below W0.heap.size W0 wA:=uL hbH.out (hA.mono hbH.out.size)
        have rA:=(hWA.block q hqz).trans rq.out
        have dt:wA.cell? (aq q 1)=some (iv t):=cB rA
        have hqA:q<wA.heap.size:=(blt rA)
        clear b hA))
    have hcv:∀ m,(convert 70 9 (.slice ba bl bc)).run Tryz.prog (wA.drewN m)=.ok (.string (strOfNums bs)) (wA.drewN m):=fun m=>HBS.out _ (qY (uL w00H.out (hWA.mono w00H.out.size)))
    go_quiet (fail)
    go_wp2_with fail
    go_quiet (fail)
    have nA:=(hWA.block w.heap.size uO).trans nn.out
    obtain ⟨s0,s1,s2,s3⟩:=qC nA
    have f0:=qA nA 0
    have f1:=qA nA 1
    have f2:=qA nA 2
    have f3:=qA nA 3
    have hzA:w.heap.size<wA.heap.size:=(blt nA)
    have wWA:=uL w00H.out (hWA.mono w00H.out.size)
    clear nA
    go_wp2
    refine uK (v:=.agg #[iv 10,iv 0,iv 0,iv 0]) (by simp [results,Tryz.results118,go_sem,s0,s1,s2,s3]) rfl ⟨by rw [HV'.out (by rw [hx.out];exact hfe.out)],?_⟩
    exact bL
theorem Gg (R bl bc:Nat) (ba:Option Addr) (k t c u o:Int) (w:World) (hk:k=1\/k=2\/k=3) (v:Value) (l:List Ans) (p:Ans->Bool) (h10:w.cell? (aq R 10)=some v) (hd:Xc w v l) (hl:l.length * 64<=140737488355328) (hfree:∀ j,j<l.length->¬ (p (l.getD j zU)=true/\(l.getD j zU).token=t)) (m:Int) (h6:w.cell? (aq R 6)=some (iv m))
 (HUP:Hid (∀ W,Below w.heap.size w W->Ca 77 #[.slice ba bl bc] W fun e w'=>e=.returned (.tuple #[.agg #[iv k,iv t,iv c,iv u,iv o],iv 0])/\Below W.heap.size W w'))
 (HR:Hid (∀ a∈l,∀ W,Below w.heap.size w W->Ca 144 #[pt R 0,a.val] W fun e w'=>e=.returned (.bool (p a))/\Below W.heap.size W w'))
 (HAN:Hid (∀ W,Below w.heap.size w W->Ca 123 #[pt R 0] W fun e w'=>e=.returned (iv m)/\Below W.heap.size W w')) :
 Ca 118 #[pt R 0,.slice ba bl bc] w fun e w'=>e=.returned (.agg #[iv 11,iv 0,iv 0,iv 0])/\Below w.heap.size w w':=by
 replace h6:Hid _:=h6
 obtain ⟨a,cp,rfl,hc⟩:=hd
 have hRw:R<w.heap.size:=uC w _ h10
 have HC:Hid (0<l.length->∃ g,a=some (aq g 0)/\g<w.heap.size/\∀ i,i<l.length->Mz w g i (l.getD i zU)):=hc
 have H10:Hid (w.cell? (aq R 10)=some (.slice a l.length cp)):=h10
 clear hc h10
 go_enter Tryz.func118,Tryz.ntmps118
 go_wp2_with fail
 refine (HUP.out _ bL).mono ?_
 rintro e w1 ⟨rfl,b1⟩
 have w01:Below w.heap.size w w1:=uL (show Below w.heap.size w _ from bL) (b1.mono vS)
 have n0:w1.heap[w.heap.size]?=some (.cells #[iv 0,iv 0,iv 0,iv 0] 33):=(b1.block _ vS).trans (uF w _)
 have hz:w.heap.size<w1.heap.size:=(blt n0)
 clear b1
 replace hk:Hid _:=hk
 have hk4:(k==4)=false:=by have:=hk.out;simp;omega
 go_wp2_with fail
 have w00:Below w.heap.size w (w1.alloc (.cells #[iv k,iv t,iv c,iv u,iv o] 39)):=w01.alloc uO _
 have nn:(w1.alloc (.cells #[iv k,iv t,iv c,iv u,iv o] 39)).heap[w.heap.size]?=some (.cells #[iv 0,iv 0,iv 0,iv 0] 33):=(uE w1 _ _ hz).trans n0
 have rq:(w1.alloc (.cells #[iv k,iv t,iv c,iv u,iv o] 39)).heap[w1.heap.size]?=some (.cells #[iv k,iv t,iv c,iv u,iv o] 39):=uF _ _
 have hqz:w1.heap.size<(w1.alloc (.cells #[iv k,iv t,iv c,iv u,iv o] 39)).heap.size:=by simp
 generalize w1.alloc (.cells #[iv k,iv t,iv c,iv u,iv o] 39)=W0 at w00 nn rq hqz ⊢
 clear w01 n0
 generalize w1.heap.size=q at rq hz hqz ⊢
 replace nn:Hid _:=nn
 replace rq:Hid _:=rq
 have hR0:R<W0.heap.size:=uB hRw w00.size
 have H0:Hid (W0.cell? (aq R 10)=some (.slice a l.length cp)):=(w00.cell (p:=(aq R 10)) hRw).trans H10.out
 go_loopw [7] (fun i wr=>∃ j:Nat,j<=l.length/\i=iv j/\Below W0.heap.size W0 wr) (fun i _=>l.length - (intOf i).toNat)
 case atStart=>exact ⟨0,Nat.zero_le _,rfl,uM _ _⟩
 case round =>
  obtain ⟨j,hj,rfl,hbel⟩:=hrel
  have c10:=(hbel.cell (p:=(aq R 10)) hR0).trans H0.out
  have hRr:R<wr.heap.size:=uB hR0 hbel.size
  have hzr:=hbel.size
  by_cases hlt:j<l.length
  ·skip
   obtain ⟨g,rfl,hgw,hcell⟩:=HC.out uO
   have hg0:g<W0.heap.size:=uB hgw w00.size
   have hgr:g<wr.heap.size:=uB hg0 hbel.size
   obtain ⟨e0,e1,e2,e3,e4,e5,e6⟩:=hcell j hlt
   have hmem:l.getD j zU∈l:=by
    simp only [List.getD,uD hlt,Option.getD_some]
    exact List.getElem_mem hlt
   have HRK:Hid (∀ W,Below w.heap.size w W->Ca 144 #[pt R 0,(l.getD j zU).val] W fun e w'=>e=.returned (.bool (p (l.getD j zU)))/\Below W.heap.size W w'):=HR.out _ hmem
   have bb:Below w.heap.size w wr:=uL w00 (hbel.mono w00.size)
   replace e0:=(bb.cell (p:=(aq g (j * 7))) hgw).trans e0
   replace e1:=(bb.cell (p:=(aq g (j * 7+1))) hgw).trans e1
   replace e2:=(bb.cell (p:=(aq g (j * 7+2))) hgw).trans e2
   replace e3:=(bb.cell (p:=(aq g (j * 7+3))) hgw).trans e3
   replace e4:=(bb.cell (p:=(aq g (j * 7+4))) hgw).trans e4
   replace e5:=(bb.cell (p:=(aq g (j * 7+5))) hgw).trans e5
   replace e6:=(bb.cell (p:=(aq g (j * 7+6))) hgw).trans e6
   have b0:(0:Int)<=(j:Int):=uO
   have b1:(j:Int)<(l.length:Int):=uO
   have bbH:Hid (Below w.heap.size w wr):=bb
   have hbH:Hid (Below W0.heap.size W0 wr):=hbel
   by_cases hp:p (l.getD j zU)=true
   ·have hn:¬ (l.getD j zU).token=t:=fun e=>hfree j hlt ⟨hp,e⟩
    rw [hp] at HRK
    generalize l.getD j zU=x at e0 e1 e2 e3 e4 e5 e6 HRK hn
    obtain ⟨f,tk,⟨kk,oo,cc,uu⟩,at'⟩:=x
    unfold Ans.val at HRK
    simp only at e0 e1 e2 e3 e4 e5 e6 HRK hn
    have hnd:(tk==t)=false:=by simpa using hn
    clear hcell HC HR hmem
    go_wp2_with (first
     | (go_at_call 144;refine (HRK.out _ bL).mono ?_;rintro e wA ⟨rfl,b⟩
        have hA:Below wr.heap.size wr wA:=by first|exact b|exact uL (show Below wr.heap.size wr _ from bL) b
        have d10:=(hA.cell (p:=(aq R 10)) hRr).trans c10
        have d0:=(hA.cell (p:=(aq g (j * 7))) hgr).trans e0
        have d1:=(hA.cell (p:=(aq g (j * 7+1))) hgr).trans e1
        have d2:=(hA.cell (p:=(aq g (j * 7+2))) hgr).trans e2
        have d3:=(hA.cell (p:=(aq g (j * 7+3))) hgr).trans e3
        have d4:=(hA.cell (p:=(aq g (j * 7+4))) hgr).trans e4
        have d5:=(hA.cell (p:=(aq g (j * 7+5))) hgr).trans e5
        have d6:=(hA.cell (p:=(aq g (j * 7+6))) hgr).trans e6
        have hRA:R<wA.heap.size:=uB hRr hA.size
        have hgA:g<wA.heap.size:=uB hgr hA.size
        have hWA:Below W0.heap.size W0 wA:=uL hbH.out (hA.mono hbH.out.size)
        have rA:=(hWA.block q hqz).trans rq.out
        have dt:wA.cell? (aq q 1)=some (iv t):=cB rA
        have hqA:q<wA.heap.size:=(blt rA)
        clear b hA))
    go_quiet (fail)
    go_wp2
    exact ⟨⟨j+1,uO,vN,bL⟩,by simp [intOf];omega⟩
   ·have hp':p (l.getD j zU)=false:=by simpa using hp
    rw [hp'] at HRK
    generalize l.getD j zU=x at e0 e1 e2 e3 e4 e5 e6 HRK
    obtain ⟨f,tk,⟨kk,oo,cc,uu⟩,at'⟩:=x
    unfold Ans.val at HRK
    simp only at e0 e1 e2 e3 e4 e5 e6 HRK
    clear hcell HC HR hmem hp hp'
    go_wp2_with (first
     | (go_at_call 144;refine (HRK.out _ bL).mono ?_;rintro e wA ⟨rfl,b⟩
        have hA:Below wr.heap.size wr wA:=by first|exact b|exact uL (show Below wr.heap.size wr _ from bL) b
        have d10:=(hA.cell (p:=(aq R 10)) hRr).trans c10
        have d0:=(hA.cell (p:=(aq g (j * 7))) hgr).trans e0
        have d1:=(hA.cell (p:=(aq g (j * 7+1))) hgr).trans e1
        have d2:=(hA.cell (p:=(aq g (j * 7+2))) hgr).trans e2
        have d3:=(hA.cell (p:=(aq g (j * 7+3))) hgr).trans e3
        have d4:=(hA.cell (p:=(aq g (j * 7+4))) hgr).trans e4
        have d5:=(hA.cell (p:=(aq g (j * 7+5))) hgr).trans e5
        have d6:=(hA.cell (p:=(aq g (j * 7+6))) hgr).trans e6
        have hRA:R<wA.heap.size:=uB hRr hA.size
        have hgA:g<wA.heap.size:=uB hgr hA.size
        have hWA:Below W0.heap.size W0 wA:=uL hbH.out (hA.mono hbH.out.size)
        have rA:=(hWA.block q hqz).trans rq.out
        have dt:wA.cell? (aq q 1)=some (iv t):=cB rA
        have hqA:q<wA.heap.size:=(blt rA)
        clear b hA))
    go_quiet (fail)
    go_wp2
    exact ⟨⟨j+1,uO,vN,bL⟩,by simp [intOf];omega⟩
  ·have hje:j=l.length:=uO
   subst hje
   have bb:Below w.heap.size w wr:=uL w00 (hbel.mono w00.size)
   have bbH:Hid (Below w.heap.size w wr):=bb
   have hbH:Hid (Below W0.heap.size W0 wr):=hbel
   clear bb HC HR hfree
   go_wp2_with (first
    | (go_at_call 123;refine (HAN.out _ bL).mono ?_;rintro e wA ⟨rfl,b⟩
       have hWA:Below W0.heap.size W0 wA:=uL hbH.out (b.mono hbH.out.size)
       have bA:Below w.heap.size w wA:=uL w00 (hWA.mono w00.size)
       have d6:=(bA.cell (p:=(aq R 6)) hRw).trans h6.out
       have hRA:R<wA.heap.size:=uB hRw bA.size
       have nA:=(hWA.block w.heap.size uO).trans nn.out
       obtain ⟨s0,s1,s2,s3⟩:=qC nA
       have f0:=qA nA 0
       have f1:=qA nA 1
       have f2:=qA nA 2
       have f3:=qA nA 3
       have hzA:w.heap.size<wA.heap.size:=(blt nA)
       clear b nA))
   refine uK (v:=.agg #[iv 11,iv 0,iv 0,iv 0]) (by simp [results,Tryz.results118,go_sem,s0,s1,s2,s3]) rfl ⟨rfl,?_⟩
   exact bL
