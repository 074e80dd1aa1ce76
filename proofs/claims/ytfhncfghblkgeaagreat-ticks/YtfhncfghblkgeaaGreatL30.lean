import Derived.Test.YtfhncfghblkgeaaGreatL28
import Derived.Test.YtfhncfghblkgeaaGreatL29
set_option maxRecDepth 100000
set_option maxHeartbeats 2000000
namespace Go.Proofs.YtfhncfghblkgeaaGreat
open Go.RowKit
theorem jvb (R bl bc:Nat) (ba:Option Addr) (k t c u o:Int) (w:World) (hk:k=1\/k=2\/k=3) (v:Value) (l:List Ans) (p:Ans->Bool) (h10:w.cell? (aq R 10)=some v) (hd:jqy w v l) (hl:l.length * 64<=140737488355328) (i0:Nat) (hi0:i0<l.length) (hfree:∀ j,j<i0->¬ (p (l.getD j jbt)=true/\(l.getD j jbt).token=t)) (hp0:p (l.getD i0 jbt)=true) (ht0:(l.getD i0 jbt).token=t)
 (bs:List Int) (hbs:ja6 w ba bl bc bs) (rv:Value) (HV:Hid ((l.getD i0 jbt).frame=strOfNums bs->rv=(l.getD i0 jbt).rep.val)) (HV':Hid (¬ (l.getD i0 jbt).frame=strOfNums bs->rv=.agg #[iv 10,iv 0,iv 0,iv 0]))
 (HUP:Hid (∀ W,Below w.heap.size w W->Calls Tryz.prog 73 #[.slice ba bl bc] W fun e w'=>e=.returned (.tuple #[.agg #[iv k,iv t,iv c,iv u,iv o],iv 0])/\Below W.heap.size W w'))
 (HR:Hid (∀ a∈l,∀ W,Below w.heap.size w W->Calls Tryz.prog 147 #[pt R 0,a.val] W fun e w'=>e=.returned (.bool (p a))/\Below W.heap.size W w')) :
 Calls Tryz.prog 121 #[pt R 0,.slice ba bl bc] w fun e w'=>e=.returned rv/\Below w.heap.size w w':=by
 obtain ⟨a,cp,rfl,hc⟩:=hd
 have hRw:R<w.heap.size:=World.block_lt_of_cell? w _ h10
 have HC:Hid (0<l.length->∃ g,a=some (aq g 0)/\g<w.heap.size/\∀ i,i<l.length->jzz w g i (l.getD i jbt)):=hc
 have H10:Hid (w.cell? (aq R 10)=some (.slice a l.length cp)):=h10
 clear hc h10
 go_enter Tryz.func121,Tryz.ntmps121
 go_wp2_with fail
 refine (HUP.out _ bL).mono ?_
 rintro e w1 ⟨rfl,b1⟩
 have w01:Below w.heap.size w w1:=Below.trans (show Below w.heap.size w _ from bL) (b1.mono (by simp))
 have n0:w1.heap[w.heap.size]?=some (.cells #[iv 0,iv 0,iv 0,iv 0] 42 (0,0)):=(b1.block _ (by simp)).trans (heap_alloc_new w _)
 have hz:w.heap.size<w1.heap.size:=(blt n0)
 clear b1
 replace hk:Hid _:=hk
 have hk4:(k==4)=false:=by have:=hk.out;simp;omega
 go_wp2_with fail
 have w00:Below w.heap.size w (w1.alloc (.cells #[iv k,iv t,iv c,iv u,iv o] 46)):=w01.alloc (by omega) _
 have nn:(w1.alloc (.cells #[iv k,iv t,iv c,iv u,iv o] 46)).heap[w.heap.size]?=some (.cells #[iv 0,iv 0,iv 0,iv 0] 42 (0,0)):=(Below.heap_alloc w1 _ _ hz).trans n0
 have rq:(w1.alloc (.cells #[iv k,iv t,iv c,iv u,iv o] 46)).heap[w1.heap.size]?=some (.cells #[iv k,iv t,iv c,iv u,iv o] 46 (0,0)):=heap_alloc_new _ _
 have hqz:w1.heap.size<(w1.alloc (.cells #[iv k,iv t,iv c,iv u,iv o] 46)).heap.size:=by simp
 generalize w1.alloc (.cells #[iv k,iv t,iv c,iv u,iv o] 46)=W0 at w00 nn rq hqz ⊢
 clear w01 n0
 generalize w1.heap.size=q at rq hz hqz ⊢
 replace nn:Hid _:=nn
 replace rq:Hid _:=rq
 have hR0:R<W0.heap.size:=Nat.lt_of_lt_of_le hRw w00.size
 have H0:Hid (W0.cell? (aq R 10)=some (.slice a l.length cp)):=(w00.cell (p:=(aq R 10)) hRw).trans H10.out
 go_loopw [7] (fun i wr=>∃ j:Nat,j<=i0/\i=iv j/\Below W0.heap.size W0 wr) (fun i _=>l.length - (intOf i).toNat)
 case atStart=>exact ⟨0,Nat.zero_le _,rfl,Below.refl _ _⟩
 case round =>
  obtain ⟨j,hj,rfl,hbel⟩:=hrel
  have c10:=(hbel.cell (p:=(aq R 10)) hR0).trans H0.out
  have hRr:R<wr.heap.size:=Nat.lt_of_lt_of_le hR0 hbel.size
  have hzr:=hbel.size
  have hlt:j<l.length:=by omega
  obtain ⟨g,rfl,hgw,hcell⟩:=HC.out (by omega)
  have hg0:g<W0.heap.size:=Nat.lt_of_lt_of_le hgw w00.size
  have hgr:g<wr.heap.size:=Nat.lt_of_lt_of_le hg0 hbel.size
  obtain ⟨e0,e1,e2,e3,e4,e5,e6⟩:=hcell j hlt
  have hmem:l.getD j jbt∈l:=by
   simp only [List.getD,List.getElem?_eq_getElem hlt,Option.getD_some]
   exact List.getElem_mem hlt
  have HRK:Hid (∀ W,Below w.heap.size w W->Calls Tryz.prog 147 #[pt R 0,(l.getD j jbt).val] W fun e w'=>e=.returned (.bool (p (l.getD j jbt)))/\Below W.heap.size W w'):=HR.out _ hmem
  have bb:Below w.heap.size w wr:=Below.trans w00 (hbel.mono w00.size)
  replace e0:=(bb.cell (p:=(aq g (j * 7))) hgw).trans e0
  replace e1:=(bb.cell (p:=(aq g (j * 7+1))) hgw).trans e1
  replace e2:=(bb.cell (p:=(aq g (j * 7+2))) hgw).trans e2
  replace e3:=(bb.cell (p:=(aq g (j * 7+3))) hgw).trans e3
  replace e4:=(bb.cell (p:=(aq g (j * 7+4))) hgw).trans e4
  replace e5:=(bb.cell (p:=(aq g (j * 7+5))) hgw).trans e5
  replace e6:=(bb.cell (p:=(aq g (j * 7+6))) hgw).trans e6
  have b0:(0:Int)<=(j:Int):=by omega
  have b1:(j:Int)<(l.length:Int):=by omega
  have bbH:Hid (Below w.heap.size w wr):=bb
  have hbH:Hid (Below W0.heap.size W0 wr):=hbel
  by_cases hji:j<i0
  ·skip
   by_cases hp:p (l.getD j jbt)=true
   ·have hn:¬ (l.getD j jbt).token=t:=fun e=>hfree j hji ⟨hp,e⟩
    rw [hp] at HRK
    generalize l.getD j jbt=x at e0 e1 e2 e3 e4 e5 e6 HRK hn
    obtain ⟨f,tk,⟨kk,oo,cc,uu⟩,at'⟩:=x
    unfold Ans.val at HRK
    simp only at e0 e1 e2 e3 e4 e5 e6 HRK hn
    have hnd:(tk==t)=false:=by simpa using hn
    clear hcell HC HR hmem
    go_wp2_with (first
     | (go_at_call 147;refine (HRK.out _ bL).mono ?_;rintro e wA ⟨rfl,b⟩
        have hA:Below wr.heap.size wr wA:=by first|exact b|exact Below.trans (show Below wr.heap.size wr _ from bL) b
        have d10:=(hA.cell (p:=(aq R 10)) hRr).trans c10
        have d0:=(hA.cell (p:=(aq g (j * 7))) hgr).trans e0
        have d1:=(hA.cell (p:=(aq g (j * 7+1))) hgr).trans e1
        have d2:=(hA.cell (p:=(aq g (j * 7+2))) hgr).trans e2
        have d3:=(hA.cell (p:=(aq g (j * 7+3))) hgr).trans e3
        have d4:=(hA.cell (p:=(aq g (j * 7+4))) hgr).trans e4
        have d5:=(hA.cell (p:=(aq g (j * 7+5))) hgr).trans e5
        have d6:=(hA.cell (p:=(aq g (j * 7+6))) hgr).trans e6
        have hRA:R<wA.heap.size:=Nat.lt_of_lt_of_le hRr hA.size
        have hgA:g<wA.heap.size:=Nat.lt_of_lt_of_le hgr hA.size
        have hWA:Below W0.heap.size W0 wA:=Below.trans hbH.out (hA.mono hbH.out.size)
        have rA:=(hWA.block q hqz).trans rq.out
        have dt:wA.cell? (aq q 1)=some (iv t):=by rw [Joins.cell_of_block rA];rfl
        have hqA:q<wA.heap.size:=(blt rA)
        clear b hA))
    go_quiet (fail)
    go_wp2
    exact ⟨⟨j+1,by omega,by go_num,bL⟩,by simp [intOf];omega⟩
   ·have hp':p (l.getD j jbt)=false:=by simpa using hp
    rw [hp'] at HRK
    generalize l.getD j jbt=x at e0 e1 e2 e3 e4 e5 e6 HRK
    obtain ⟨f,tk,⟨kk,oo,cc,uu⟩,at'⟩:=x
    unfold Ans.val at HRK
    simp only at e0 e1 e2 e3 e4 e5 e6 HRK
    clear hcell HC HR hmem hp hp'
    go_wp2_with (first
     | (go_at_call 147;refine (HRK.out _ bL).mono ?_;rintro e wA ⟨rfl,b⟩
        have hA:Below wr.heap.size wr wA:=by first|exact b|exact Below.trans (show Below wr.heap.size wr _ from bL) b
        have d10:=(hA.cell (p:=(aq R 10)) hRr).trans c10
        have d0:=(hA.cell (p:=(aq g (j * 7))) hgr).trans e0
        have d1:=(hA.cell (p:=(aq g (j * 7+1))) hgr).trans e1
        have d2:=(hA.cell (p:=(aq g (j * 7+2))) hgr).trans e2
        have d3:=(hA.cell (p:=(aq g (j * 7+3))) hgr).trans e3
        have d4:=(hA.cell (p:=(aq g (j * 7+4))) hgr).trans e4
        have d5:=(hA.cell (p:=(aq g (j * 7+5))) hgr).trans e5
        have d6:=(hA.cell (p:=(aq g (j * 7+6))) hgr).trans e6
        have hRA:R<wA.heap.size:=Nat.lt_of_lt_of_le hRr hA.size
        have hgA:g<wA.heap.size:=Nat.lt_of_lt_of_le hgr hA.size
        have hWA:Below W0.heap.size W0 wA:=Below.trans hbH.out (hA.mono hbH.out.size)
        have rA:=(hWA.block q hqz).trans rq.out
        have dt:wA.cell? (aq q 1)=some (iv t):=by rw [Joins.cell_of_block rA];rfl
        have hqA:q<wA.heap.size:=(blt rA)
        clear b hA))
    go_quiet (fail)
    go_wp2
    exact ⟨⟨j+1,by omega,by go_num,bL⟩,by simp [intOf];omega⟩
  ·have hje:j=i0:=by omega
   subst hje
   rw [hp0] at HRK
   have HBS:Hid (∀ W,Below w.heap.size w W->(convert 92 9 (.slice ba bl bc)).run Tryz.prog W=.ok (.string (strOfNums bs)) W):=fun W hW=>je0 (jaa hbs hW)
   have w00H:Hid (Below w.heap.size w W0):=w00
   generalize hx:l.getD j jbt=x at e0 e1 e2 e3 e4 e5 e6 HRK ht0
   obtain ⟨f,tk,⟨kk,oo,cc,uu⟩,at'⟩:=x
   replace hx:Hid _:=hx
   unfold Ans.val at HRK
   simp only at e0 e1 e2 e3 e4 e5 e6 HRK ht0
   have htd:(tk==t)=true:=by simpa using ht0
   clear hcell HC HR hmem hbs hfree hp0 ht0
   show _
   by_cases hfe:f=strOfNums bs
   ·have hE:(f.toList==(strOfNums bs).toList)=true:=by rw [hfe];simp
    replace hfe:Hid _:=hfe
    go_wp2_with (first
     | (go_at_call 147;refine (HRK.out _ bL).mono ?_;rintro e wA ⟨rfl,b⟩
        have hA:Below wr.heap.size wr wA:=by first|exact b|exact Below.trans (show Below wr.heap.size wr _ from bL) b
        have d10:=(hA.cell (p:=(aq R 10)) hRr).trans c10
        have d0:=(hA.cell (p:=(aq g (j * 7))) hgr).trans e0
        have d1:=(hA.cell (p:=(aq g (j * 7+1))) hgr).trans e1
        have d2:=(hA.cell (p:=(aq g (j * 7+2))) hgr).trans e2
        have d3:=(hA.cell (p:=(aq g (j * 7+3))) hgr).trans e3
        have d4:=(hA.cell (p:=(aq g (j * 7+4))) hgr).trans e4
        have d5:=(hA.cell (p:=(aq g (j * 7+5))) hgr).trans e5
        have d6:=(hA.cell (p:=(aq g (j * 7+6))) hgr).trans e6
        have hRA:R<wA.heap.size:=Nat.lt_of_lt_of_le hRr hA.size
        have hgA:g<wA.heap.size:=Nat.lt_of_lt_of_le hgr hA.size
        have hWA:Below W0.heap.size W0 wA:=Below.trans hbH.out (hA.mono hbH.out.size)
        have rA:=(hWA.block q hqz).trans rq.out
        have dt:wA.cell? (aq q 1)=some (iv t):=by rw [Joins.cell_of_block rA];rfl
        have hqA:q<wA.heap.size:=(blt rA)
        clear b hA))
    have hcv:∀ m,(convert 92 9 (.slice ba bl bc)).run Tryz.prog (wA.drewN m)=.ok (.string (strOfNums bs)) (wA.drewN m):=fun m=>HBS.out _ (jao (Below.trans w00H.out (hWA.mono w00H.out.size)))
    go_quiet (fail)
    go_wp2_with fail
    go_quiet (fail)
    have nA:=(hWA.block w.heap.size (by omega)).trans nn.out
    obtain ⟨s0,s1,s2,s3⟩:=ja2 nA
    have f0:=ja0 nA 0
    have f1:=ja0 nA 1
    have f2:=ja0 nA 2
    have f3:=ja0 nA 3
    have hzA:w.heap.size<wA.heap.size:=(blt nA)
    have wWA:=Below.trans w00H.out (hWA.mono w00H.out.size)
    clear nA
    go_wp2
    refine bodyPost_ret (v:=.agg #[iv kk,iv oo,iv cc,iv uu]) (by simp [results,Tryz.results121,go_sem,s0,s1,s2,s3]) rfl ⟨by rw [HV.out (by rw [hx.out];exact hfe.out),hx.out];rfl,?_⟩
    exact bL
   ·have hE:(f.toList==(strOfNums bs).toList)=false:=by
     rw [ByteArray.toList_eq,ByteArray.toList_eq]
     simp only [beq_eq_false_iff_ne,ne_eq]
     exact fun e=>hfe (ByteArray.ext (Array.toList_inj.1 e))
    replace hfe:Hid _:=hfe
    go_wp2_with (first
     | (go_at_call 147;refine (HRK.out _ bL).mono ?_;rintro e wA ⟨rfl,b⟩
        have hA:Below wr.heap.size wr wA:=by first|exact b|exact Below.trans (show Below wr.heap.size wr _ from bL) b
        have d10:=(hA.cell (p:=(aq R 10)) hRr).trans c10
        have d0:=(hA.cell (p:=(aq g (j * 7))) hgr).trans e0
        have d1:=(hA.cell (p:=(aq g (j * 7+1))) hgr).trans e1
        have d2:=(hA.cell (p:=(aq g (j * 7+2))) hgr).trans e2
        have d3:=(hA.cell (p:=(aq g (j * 7+3))) hgr).trans e3
        have d4:=(hA.cell (p:=(aq g (j * 7+4))) hgr).trans e4
        have d5:=(hA.cell (p:=(aq g (j * 7+5))) hgr).trans e5
        have d6:=(hA.cell (p:=(aq g (j * 7+6))) hgr).trans e6
        have hRA:R<wA.heap.size:=Nat.lt_of_lt_of_le hRr hA.size
        have hgA:g<wA.heap.size:=Nat.lt_of_lt_of_le hgr hA.size
        have hWA:Below W0.heap.size W0 wA:=Below.trans hbH.out (hA.mono hbH.out.size)
        have rA:=(hWA.block q hqz).trans rq.out
        have dt:wA.cell? (aq q 1)=some (iv t):=by rw [Joins.cell_of_block rA];rfl
        have hqA:q<wA.heap.size:=(blt rA)
        clear b hA))
    have hcv:∀ m,(convert 92 9 (.slice ba bl bc)).run Tryz.prog (wA.drewN m)=.ok (.string (strOfNums bs)) (wA.drewN m):=fun m=>HBS.out _ (jao (Below.trans w00H.out (hWA.mono w00H.out.size)))
    go_quiet (fail)
    go_wp2_with fail
    go_quiet (fail)
    have nA:=(hWA.block w.heap.size (by omega)).trans nn.out
    obtain ⟨s0,s1,s2,s3⟩:=ja2 nA
    have f0:=ja0 nA 0
    have f1:=ja0 nA 1
    have f2:=ja0 nA 2
    have f3:=ja0 nA 3
    have hzA:w.heap.size<wA.heap.size:=(blt nA)
    have wWA:=Below.trans w00H.out (hWA.mono w00H.out.size)
    clear nA
    go_wp2
    refine bodyPost_ret (v:=.agg #[iv 10,iv 0,iv 0,iv 0]) (by simp [results,Tryz.results121,go_sem,s0,s1,s2,s3]) rfl ⟨by rw [HV'.out (by rw [hx.out];exact hfe.out)],?_⟩
    exact bL
theorem jwu (R bl bc:Nat) (ba:Option Addr) (k t c u o:Int) (w:World) (hk:k=1\/k=2\/k=3) (v:Value) (l:List Ans) (p:Ans->Bool) (h10:w.cell? (aq R 10)=some v) (hd:jqy w v l) (hl:l.length * 64<=140737488355328) (hfree:∀ j,j<l.length->¬ (p (l.getD j jbt)=true/\(l.getD j jbt).token=t)) (m:Int) (h6:w.cell? (aq R 6)=some (iv m))
 (HUP:Hid (∀ W,Below w.heap.size w W->Calls Tryz.prog 73 #[.slice ba bl bc] W fun e w'=>e=.returned (.tuple #[.agg #[iv k,iv t,iv c,iv u,iv o],iv 0])/\Below W.heap.size W w'))
 (HR:Hid (∀ a∈l,∀ W,Below w.heap.size w W->Calls Tryz.prog 147 #[pt R 0,a.val] W fun e w'=>e=.returned (.bool (p a))/\Below W.heap.size W w'))
 (HAN:Hid (∀ W,Below w.heap.size w W->Calls Tryz.prog 126 #[pt R 0] W fun e w'=>e=.returned (iv m)/\Below W.heap.size W w')) :
 Calls Tryz.prog 121 #[pt R 0,.slice ba bl bc] w fun e w'=>e=.returned (.agg #[iv 11,iv 0,iv 0,iv 0])/\Below w.heap.size w w':=by
 replace h6:Hid _:=h6
 obtain ⟨a,cp,rfl,hc⟩:=hd
 have hRw:R<w.heap.size:=World.block_lt_of_cell? w _ h10
 have HC:Hid (0<l.length->∃ g,a=some (aq g 0)/\g<w.heap.size/\∀ i,i<l.length->jzz w g i (l.getD i jbt)):=hc
 have H10:Hid (w.cell? (aq R 10)=some (.slice a l.length cp)):=h10
 clear hc h10
 go_enter Tryz.func121,Tryz.ntmps121
 go_wp2_with fail
 refine (HUP.out _ bL).mono ?_
 rintro e w1 ⟨rfl,b1⟩
 have w01:Below w.heap.size w w1:=Below.trans (show Below w.heap.size w _ from bL) (b1.mono (by simp))
 have n0:w1.heap[w.heap.size]?=some (.cells #[iv 0,iv 0,iv 0,iv 0] 42 (0,0)):=(b1.block _ (by simp)).trans (heap_alloc_new w _)
 have hz:w.heap.size<w1.heap.size:=(blt n0)
 clear b1
 replace hk:Hid _:=hk
 have hk4:(k==4)=false:=by have:=hk.out;simp;omega
 go_wp2_with fail
 have w00:Below w.heap.size w (w1.alloc (.cells #[iv k,iv t,iv c,iv u,iv o] 46)):=w01.alloc (by omega) _
 have nn:(w1.alloc (.cells #[iv k,iv t,iv c,iv u,iv o] 46)).heap[w.heap.size]?=some (.cells #[iv 0,iv 0,iv 0,iv 0] 42 (0,0)):=(Below.heap_alloc w1 _ _ hz).trans n0
 have rq:(w1.alloc (.cells #[iv k,iv t,iv c,iv u,iv o] 46)).heap[w1.heap.size]?=some (.cells #[iv k,iv t,iv c,iv u,iv o] 46 (0,0)):=heap_alloc_new _ _
 have hqz:w1.heap.size<(w1.alloc (.cells #[iv k,iv t,iv c,iv u,iv o] 46)).heap.size:=by simp
 generalize w1.alloc (.cells #[iv k,iv t,iv c,iv u,iv o] 46)=W0 at w00 nn rq hqz ⊢
 clear w01 n0
 generalize w1.heap.size=q at rq hz hqz ⊢
 replace nn:Hid _:=nn
 replace rq:Hid _:=rq
 have hR0:R<W0.heap.size:=Nat.lt_of_lt_of_le hRw w00.size
 have H0:Hid (W0.cell? (aq R 10)=some (.slice a l.length cp)):=(w00.cell (p:=(aq R 10)) hRw).trans H10.out
 go_loopw [7] (fun i wr=>∃ j:Nat,j<=l.length/\i=iv j/\Below W0.heap.size W0 wr) (fun i _=>l.length - (intOf i).toNat)
 case atStart=>exact ⟨0,Nat.zero_le _,rfl,Below.refl _ _⟩
 case round =>
  obtain ⟨j,hj,rfl,hbel⟩:=hrel
  have c10:=(hbel.cell (p:=(aq R 10)) hR0).trans H0.out
  have hRr:R<wr.heap.size:=Nat.lt_of_lt_of_le hR0 hbel.size
  have hzr:=hbel.size
  by_cases hlt:j<l.length
  ·skip
   obtain ⟨g,rfl,hgw,hcell⟩:=HC.out (by omega)
   have hg0:g<W0.heap.size:=Nat.lt_of_lt_of_le hgw w00.size
   have hgr:g<wr.heap.size:=Nat.lt_of_lt_of_le hg0 hbel.size
   obtain ⟨e0,e1,e2,e3,e4,e5,e6⟩:=hcell j hlt
   have hmem:l.getD j jbt∈l:=by
    simp only [List.getD,List.getElem?_eq_getElem hlt,Option.getD_some]
    exact List.getElem_mem hlt
   have HRK:Hid (∀ W,Below w.heap.size w W->Calls Tryz.prog 147 #[pt R 0,(l.getD j jbt).val] W fun e w'=>e=.returned (.bool (p (l.getD j jbt)))/\Below W.heap.size W w'):=HR.out _ hmem
   have bb:Below w.heap.size w wr:=Below.trans w00 (hbel.mono w00.size)
   replace e0:=(bb.cell (p:=(aq g (j * 7))) hgw).trans e0
   replace e1:=(bb.cell (p:=(aq g (j * 7+1))) hgw).trans e1
   replace e2:=(bb.cell (p:=(aq g (j * 7+2))) hgw).trans e2
   replace e3:=(bb.cell (p:=(aq g (j * 7+3))) hgw).trans e3
   replace e4:=(bb.cell (p:=(aq g (j * 7+4))) hgw).trans e4
   replace e5:=(bb.cell (p:=(aq g (j * 7+5))) hgw).trans e5
   replace e6:=(bb.cell (p:=(aq g (j * 7+6))) hgw).trans e6
   have b0:(0:Int)<=(j:Int):=by omega
   have b1:(j:Int)<(l.length:Int):=by omega
   have bbH:Hid (Below w.heap.size w wr):=bb
   have hbH:Hid (Below W0.heap.size W0 wr):=hbel
   by_cases hp:p (l.getD j jbt)=true
   ·have hn:¬ (l.getD j jbt).token=t:=fun e=>hfree j hlt ⟨hp,e⟩
    rw [hp] at HRK
    generalize l.getD j jbt=x at e0 e1 e2 e3 e4 e5 e6 HRK hn
    obtain ⟨f,tk,⟨kk,oo,cc,uu⟩,at'⟩:=x
    unfold Ans.val at HRK
    simp only at e0 e1 e2 e3 e4 e5 e6 HRK hn
    have hnd:(tk==t)=false:=by simpa using hn
    clear hcell HC HR hmem
    go_wp2_with (first
     | (go_at_call 147;refine (HRK.out _ bL).mono ?_;rintro e wA ⟨rfl,b⟩
        have hA:Below wr.heap.size wr wA:=by first|exact b|exact Below.trans (show Below wr.heap.size wr _ from bL) b
        have d10:=(hA.cell (p:=(aq R 10)) hRr).trans c10
        have d0:=(hA.cell (p:=(aq g (j * 7))) hgr).trans e0
        have d1:=(hA.cell (p:=(aq g (j * 7+1))) hgr).trans e1
        have d2:=(hA.cell (p:=(aq g (j * 7+2))) hgr).trans e2
        have d3:=(hA.cell (p:=(aq g (j * 7+3))) hgr).trans e3
        have d4:=(hA.cell (p:=(aq g (j * 7+4))) hgr).trans e4
        have d5:=(hA.cell (p:=(aq g (j * 7+5))) hgr).trans e5
        have d6:=(hA.cell (p:=(aq g (j * 7+6))) hgr).trans e6
        have hRA:R<wA.heap.size:=Nat.lt_of_lt_of_le hRr hA.size
        have hgA:g<wA.heap.size:=Nat.lt_of_lt_of_le hgr hA.size
        have hWA:Below W0.heap.size W0 wA:=Below.trans hbH.out (hA.mono hbH.out.size)
        have rA:=(hWA.block q hqz).trans rq.out
        have dt:wA.cell? (aq q 1)=some (iv t):=by rw [Joins.cell_of_block rA];rfl
        have hqA:q<wA.heap.size:=(blt rA)
        clear b hA))
    go_quiet (fail)
    go_wp2
    exact ⟨⟨j+1,by omega,by go_num,bL⟩,by simp [intOf];omega⟩
   ·have hp':p (l.getD j jbt)=false:=by simpa using hp
    rw [hp'] at HRK
    generalize l.getD j jbt=x at e0 e1 e2 e3 e4 e5 e6 HRK
    obtain ⟨f,tk,⟨kk,oo,cc,uu⟩,at'⟩:=x
    unfold Ans.val at HRK
    simp only at e0 e1 e2 e3 e4 e5 e6 HRK
    clear hcell HC HR hmem hp hp'
    go_wp2_with (first
     | (go_at_call 147;refine (HRK.out _ bL).mono ?_;rintro e wA ⟨rfl,b⟩
        have hA:Below wr.heap.size wr wA:=by first|exact b|exact Below.trans (show Below wr.heap.size wr _ from bL) b
        have d10:=(hA.cell (p:=(aq R 10)) hRr).trans c10
        have d0:=(hA.cell (p:=(aq g (j * 7))) hgr).trans e0
        have d1:=(hA.cell (p:=(aq g (j * 7+1))) hgr).trans e1
        have d2:=(hA.cell (p:=(aq g (j * 7+2))) hgr).trans e2
        have d3:=(hA.cell (p:=(aq g (j * 7+3))) hgr).trans e3
        have d4:=(hA.cell (p:=(aq g (j * 7+4))) hgr).trans e4
        have d5:=(hA.cell (p:=(aq g (j * 7+5))) hgr).trans e5
        have d6:=(hA.cell (p:=(aq g (j * 7+6))) hgr).trans e6
        have hRA:R<wA.heap.size:=Nat.lt_of_lt_of_le hRr hA.size
        have hgA:g<wA.heap.size:=Nat.lt_of_lt_of_le hgr hA.size
        have hWA:Below W0.heap.size W0 wA:=Below.trans hbH.out (hA.mono hbH.out.size)
        have rA:=(hWA.block q hqz).trans rq.out
        have dt:wA.cell? (aq q 1)=some (iv t):=by rw [Joins.cell_of_block rA];rfl
        have hqA:q<wA.heap.size:=(blt rA)
        clear b hA))
    go_quiet (fail)
    go_wp2
    exact ⟨⟨j+1,by omega,by go_num,bL⟩,by simp [intOf];omega⟩
  ·have hje:j=l.length:=by omega
   subst hje
   have bb:Below w.heap.size w wr:=Below.trans w00 (hbel.mono w00.size)
   have bbH:Hid (Below w.heap.size w wr):=bb
   have hbH:Hid (Below W0.heap.size W0 wr):=hbel
   clear bb HC HR hfree
   go_wp2_with (first
    | (go_at_call 126;refine (HAN.out _ bL).mono ?_;rintro e wA ⟨rfl,b⟩
       have hWA:Below W0.heap.size W0 wA:=Below.trans hbH.out (b.mono hbH.out.size)
       have bA:Below w.heap.size w wA:=Below.trans w00 (hWA.mono w00.size)
       have d6:=(bA.cell (p:=(aq R 6)) hRw).trans h6.out
       have hRA:R<wA.heap.size:=Nat.lt_of_lt_of_le hRw bA.size
       have nA:=(hWA.block w.heap.size (by omega)).trans nn.out
       obtain ⟨s0,s1,s2,s3⟩:=ja2 nA
       have f0:=ja0 nA 0
       have f1:=ja0 nA 1
       have f2:=ja0 nA 2
       have f3:=ja0 nA 3
       have hzA:w.heap.size<wA.heap.size:=(blt nA)
       clear b nA))
   refine bodyPost_ret (v:=.agg #[iv 11,iv 0,iv 0,iv 0]) (by simp [results,Tryz.results121,go_sem,s0,s1,s2,s3]) rfl ⟨rfl,?_⟩
   exact bL
section
def Sal.doS (S:Sal) (r:Req):Rep × Sal:=if r.kind=1 then S.ask r else if r.kind=2 then S.confirm r else S.cancel r
def Sal.used (S:Sal) (t:Int):Option Ans:=S.ansL.find? (fun a=>S.remem a && a.token==t)
def Sal.send (S:Sal) (bs:List Int) (r:Req) (err:Int):Rep × Sal :=
 if err≠0 then (⟨1,0,0,0⟩,S)
 else if r.kind=4 then (S.poll r,S)
 else match S.used r.token with
  | some a=>if a.frame=strOfNums bs then (a.rep,S) else (⟨10,0,0,0⟩,S)
  | none =>
    if (S.answers:Int)=S.C.tokens then (⟨11,0,0,0⟩,S)
    else ((S.doS r).1,{ (S.doS r).2 with ansL:=(S.doS r).2.ansL++[⟨strOfNums bs,r.token,(S.doS r).1,S.now⟩] })
def jou (w w':World) (B R:Nat) (S':Sal) (ap:Option Addr) (lp cp:Nat) (vo va:Value):Prop :=
 ∃ vo' va',saleAt w' B R S' ap lp cp vo' va'/\salI S'/\Same (fun b=>b=R\/vo.ownBlock=some b\/va.ownBlock=some b) w w'/\(∀ k,vo'.ownBlock=some k->vo.ownBlock=some k\/w.heap.size<=k)/\∀ k,va'.ownBlock=some k->va.ownBlock=some k\/w.heap.size<=k
theorem jim:∀ (n:Nat) (S:Sal),(jax n S).C=S.C/\(jax n S).now=S.now/\(jax n S).ansL=S.ansL
 | 0,_=>⟨rfl,rfl,rfl⟩
 | n+1,S=>by
   unfold jax
   split
   ·exact ⟨rfl,rfl,rfl⟩
   ·split
    ·exact ⟨rfl,rfl,rfl⟩
    ·exact jim n _
theorem jec (S:Sal):S.promote.C=S.C/\S.promote.now=S.now/\S.promote.ansL=S.ansL:=jim _ S
theorem jez:∀ (qs:List Nat) (S:Sal),(jay S qs).C=S.C/\(jay S qs).now=S.now/\(jay S qs).ansL=S.ansL
 | [],_=>⟨rfl,rfl,rfl⟩
 | q :: qs,S=>by
   have e:jay S (q :: qs)=jay (if S.left<(S.os.getD q ja3).units then S.ends q 18 else S) qs:=rfl
   rw [e]
   split
   ·exact jez qs _
   ·exact jez qs _
theorem qbx (S:Sal) (r:Req):(S.ask r).2.C=S.C/\(S.ask r).2.now=S.now/\(S.ask r).2.ansL=S.ansL:=by
 unfold Sal.ask
 split
 ·exact ⟨rfl,rfl,rfl⟩
 split
 ·exact ⟨rfl,rfl,rfl⟩
 split
 ·exact ⟨rfl,rfl,rfl⟩
 split
 ·exact ⟨rfl,rfl,rfl⟩
 split<;>exact ⟨rfl,rfl,rfl⟩
theorem jsi (S:Sal) (r:Req):(S.cancel r).2.C=S.C/\(S.cancel r).2.now=S.now/\(S.cancel r).2.ansL=S.ansL:=by
 unfold Sal.cancel
 split
 ·exact ⟨rfl,rfl,rfl⟩
 ·split
  ·exact ⟨rfl,rfl,rfl⟩
  ·exact jec _
theorem jrv (S:Sal) (r:Req):(S.confirm r).2.C=S.C/\(S.confirm r).2.now=S.now/\(S.confirm r).2.ansL=S.ansL:=by
 unfold Sal.confirm
 split
 ·exact ⟨rfl,rfl,rfl⟩
 ·next i _ =>
  split
  ·exact ⟨rfl,rfl,rfl⟩
  ·obtain ⟨a,b,c⟩:=jec (jay (S.ends i 14) (ja7 (S.ends i 14).os))
   obtain ⟨d,e,f⟩:=jez (ja7 (S.ends i 14).os) (S.ends i 14)
   exact ⟨a.trans d,b.trans e,c.trans f⟩
theorem jja (S:Sal) (r:Req):(S.doS r).2.C=S.C/\(S.doS r).2.now=S.now/\(S.doS r).2.ansL=S.ansL:=by
 unfold Sal.doS
 split
 ·exact qbx S r
 split
 ·exact jrv S r
 ·exact jsi S r
theorem jwi (l:List Ans) (a:Ans):jin (l++[a])=jin l++a.vals:=by simp [jin]
def jov (w Wc W:World) (B R:Nat) (S':Sal) (ap:Option Addr) (lp cp:Nat) (vo va:Value):Prop :=
 ∃ vo',saleAt W B R S' ap lp cp vo' va/\salI S'/\Same (fun b=>b=R\/vo.ownBlock=some b) w W/\Wc.heap.size<=W.heap.size/\∀ k,vo'.ownBlock=some k->vo.ownBlock=some k\/Wc.heap.size<=k
section
variable {w w':World} {B R:Nat} {S:Sal} {ap:Option Addr} {lp cp:Nat} {vo va:Value}
theorem jdj (h:saleAt w B R S ap lp cp vo va) (hI:salI S) (hb:Below w.heap.size w w'):jou w w' B R S ap lp cp vo va :=
 ⟨vo,va,ja9 h hb,hI,Same.of_below hb,fun _ hk=>.inl hk,fun _ hk=>.inl hk⟩
theorem jsp {Wc W W':World} {S':Sal} {b:Nat} (h:saleAt w B R S ap lp cp vo va) (hBR:B<=R) (hb:w.heap.size<=b) (hbc:b<Wc.heap.size) (hq:jov w Wc W B R S' ap lp cp vo va) (hs:Same (fun x=>x=b) W W'):jov w Wc W' B R S' ap lp cp vo va:=by
 obtain ⟨vo',a1,a2,a3,a5,a4⟩:=hq
 have hRw:R<w.heap.size:=(blt h.blk)
 refine ⟨vo',jcq a1 hs (show R≠b by omega) (fun k hk=>?_) (fun k hk=>?_) (fun _ x off e=>?_),a2,Same.trans a3 hs (fun k hk e=>e.elim id (fun e=>by omega)),Nat.le_trans a5 hs.size,a4⟩
 ·show k≠b
  rcases a4 k hk with x|x
  ·have:=(World.ownsRow.lt h.os _ x).2;omega
  ·omega
 ·show k≠b
  have:=(World.ownsRow.lt h.ansL _ hk).2
  omega
 ·show x≠b
  have:=h.low x off e
  omega
theorem jst (h:saleAt w B R S ap lp cp vo va) (hBR:B<=R) (a:Ans) {L:List Value} (hL:L=a.vals) (hp:jkx w w' B R va S.ansL.length (jin S.ansL) L) :
 ∃ va',saleAt w' B R { S with ansL:=S.ansL++[a] } ap lp cp vo va'/\Same (fun b=>b=R\/va.ownBlock=some b) w w'/\∀ k,va'.ownBlock=some k->va.ownBlock=some k\/w.heap.size<=k:=by
 obtain ⟨C,g,cap,hC,h1,h2,h3,h4⟩:=hp
 have hb:=h.blk
 rw [hC] at hb
 simp only [Option.some.injEq,Obj.cells.injEq,and_true] at hb
 subst hb
 subst hL
 have hRw:R<w.heap.size:=(blt hC)
 refine ⟨.slice (some (aq g 0)) (S.ansL.length+1) cap,⟨h1,?_,h.low,?_,?_⟩,h3,fun k hk=>?_⟩
 ·refine jh4 h.tiers h3 (fun b off e=>?_)
  have hlow:=h.low b off e
  rintro (e1|e1)
  ·omega
  ·have:=(World.ownsRow.lt h.ansL b e1).1;omega
 ·refine jac h.os (fun k hk=>h3.block k (World.ownsRow.lt h.os k hk).2 ?_)
  rintro (e1|e1)
  ·exact jak h.os hC (by decide) (e1▸hk)
  ·exact jr1 h hk e1
 ·show w'.ownsRow B 226 7 _ (S.ansL++[a]).length (jin (S.ansL++[a]))
  rw [jwi]
  simpa using h2
 ·have e:g=k:=by simpa [Value.ownBlock] using hk
  rw [← e]
  exact h4
theorem qfu {Wc W5 W6:World} {S1:Sal} (h:saleAt w B R S ap lp cp vo va) (hBR:B<=R) (hn:S1.ansL=S.ansL) (a:Ans) (hq:jov w Wc W5 B R S1 ap lp cp vo va) (hc:w.heap.size<Wc.heap.size) (hz:w.heap.size<W5.heap.size) (hp:jkx W5 W6 B R va S.ansL.length (jin S.ansL) a.vals) (hs:Same (fun x=>x=w.heap.size) W6 w') :
 jou w w' B R { S1 with ansL:=S1.ansL++[a] } ap lp cp vo va:=by
 obtain ⟨vo',a1,a2,a3,a5,a4⟩:=hq
 have hRw:R<w.heap.size:=(blt h.blk)
 obtain ⟨va',b1,b2,b3⟩:=jst a1 hBR a rfl (by rw [hn];exact hp)
 have hI':salI { S1 with ansL:=S1.ansL++[a] }:=⟨a2.units,a2.stock,a2.cap,a2.cfg,a2.now,a2.ords,a2.prices⟩
 have zz:=a3.size
 refine ⟨vo',va',jcq b1 hs (show R≠w.heap.size by omega) (fun k hk=>?_) (fun k hk=>?_) (fun _ x off e=>?_),hI',?_,fun k hk=>(a4 k hk).imp id (fun e=>by omega),fun k hk=>(b3 k hk).imp id (fun e=>by omega)⟩
 ·show k≠w.heap.size
  rcases a4 k hk with x|x
  ·have:=(World.ownsRow.lt h.os _ x).2;omega
  ·omega
 ·show k≠w.heap.size
  rcases b3 k hk with x|x
  ·have:=(World.ownsRow.lt h.ansL _ x).2;omega
  ·omega
 ·show x≠w.heap.size
  have:=h.low x off e
  omega
 ·refine Same.trans (Same.trans a3 b2 (o2:=fun b=>b=R\/va.ownBlock=some b) (o:=fun b=>b=R\/vo.ownBlock=some b\/va.ownBlock=some b) (fun k hk e=>?_)) hs (fun k hk e=>e.elim id (fun e=>by omega))
  rcases e with (e|e)|(e|e)
  ·exact .inl e
  ·exact .inr (.inl e)
  ·exact .inl e
  ·exact .inr (.inr e)
end
end
section
theorem jm7 {S:Sal} {t:Int} {a:Ans} (h:S.used t=some a):∃ i,i<S.ansL.length/\S.ansL.getD i jbt=a/\S.remem a=true/\a.token=t/\∀ j,j<i->¬ (S.remem (S.ansL.getD j jbt)=true/\(S.ansL.getD j jbt).token=t):=by
 unfold Sal.used at h
 obtain ⟨hp,i,hi,e,hf⟩:=List.find?_eq_some_iff_getElem.1 h
 simp only [Bool.and_eq_true,beq_iff_eq] at hp
 refine ⟨i,hi,by simp [List.getD,List.getElem?_eq_getElem hi,e],hp.1,hp.2,fun j hj=>?_⟩
 have:=hf j hj
 have hjl:j<S.ansL.length:=by omega
 simp only [List.getD,List.getElem?_eq_getElem hjl,Option.getD_some]
 simp only [Bool.not_eq_true',Bool.and_eq_false_iff,beq_eq_false_iff_ne] at this
 rintro ⟨a1,a2⟩
 rcases this with x|x
 ·rw [a1] at x;cases x
 ·exact x a2
theorem jz2 {S:Sal} {t:Int} (h:S.used t=none):∀ j,j<S.ansL.length->¬ (S.remem (S.ansL.getD j jbt)=true/\(S.ansL.getD j jbt).token=t):=by
 unfold Sal.used at h
 rw [List.find?_eq_none] at h
 intro j hj
 simp only [List.getD,List.getElem?_eq_getElem hj,Option.getD_some]
 rintro ⟨a1,a2⟩
 exact h _ (List.getElem_mem hj) (by simp [a1,a2])
theorem jt4 {k t c u o:Int} (h:isB k t c u o=true):(k=1/\1<=c/\1<=u/\u<=4294967296)\/((k=2\/k=3)/\1<=o/\o<=4294967296)\/(k=4/\1<=o/\o<=4294967296):=by
 unfold isB jc3 at h
 split at h
 ·next e=>simp at h;exact .inl ⟨e,by omega,by omega,by omega⟩
 split at h
 ·next e=>simp at h;exact .inr (.inl ⟨e,by omega,by omega⟩)
 split at h
 ·next e=>simp at h;exact .inr (.inr ⟨e,by omega,by omega⟩)
 ·cases h
section
variable {w w':World} {B R:Nat} {S:Sal} {ap:Option Addr} {lp cp:Nat} {vo va:Value}
theorem jvr (h:saleAt w B R S ap lp cp vo va) (hI:salI S) (hBR:B<=R) (hcap:S.C.cap<=4294967296) (hqm:1<=S.C.queue) (hl:S.os.length * 48+48<=140737488351232) (hat:∀ a∈S.ansL,0<=a.at'/\a.at'<=4611686018427387904) (hla:S.ansL.length * 64+64<=140737488355328)
 {ba:Option Addr} {bl bc:Nat} {bs:List Int} (hbs:ja6 w ba bl bc bs) (hbb:bs≠[]->∀ b off,ba=some (aq b off)->b≠R/\vo.ownBlock≠some b/\va.ownBlock≠some b)
 {k t c u o err:Int} (hU:UN bs k t c u o err) :
 Calls Tryz.prog 121 #[pt R 0,.slice ba bl bc] w fun e w'=>e=.returned (S.send bs ⟨k,t,c,u,o⟩ err).1.val/\jou w w' B R (S.send bs ⟨k,t,c,u,o⟩ err).2 ap lp cp vo va:=by
 have HUP:Hid (∀ W,Below w.heap.size w W->Calls Tryz.prog 73 #[.slice ba bl bc] W fun e w'=>e=.returned (.tuple #[.agg #[iv k,iv t,iv c,iv u,iv o],iv err])/\Below W.heap.size W w'):=fun W hW=>(jtg ba bl bc bs W (jaa hbs hW)).mono (by
  rintro e w' ⟨k',t',c',u',o',e',rfl,hU',hb⟩
  obtain ⟨rfl,rfl,rfl,rfl,rfl,rfl⟩:=qdj hU hU'
  exact ⟨rfl,hb⟩)
 have hRw:R<w.heap.size:=(blt h.blk)
 have hBw:B<=w.heap.size:=by omega
 unfold Sal.send
 by_cases he:err≠0
 ·rw [if_pos he]
  have he2:err=2:=by rcases hU with x|x;exact absurd x.1 he;exact x.1
  exact (jzp R bl bc ba k t c u o err w he2 HUP).mono (by rintro e w' ⟨rfl,hb⟩;exact ⟨rfl,jdj h hI hb⟩)
 rw [if_neg he]
 have he0:err=0:=Classical.byContradiction he
 have hB:isB k t c u o=true:=by
  rcases hU with x|x
  ·exact x.2.1
  ·rw [he0] at x;exact absurd x.1 (by decide)
 subst he0
 have hnum:=jt4 hB
 by_cases hk4:k=4
 ·rw [if_pos hk4]
  have hor:1<=o/\o<=4294967296:=by rcases hnum with x|x|x<;>omega
  have hp:(S.poll ⟨k,t,c,u,o⟩)=⟨(S.poll ⟨k,t,c,u,o⟩).kind,(S.poll ⟨k,t,c,u,o⟩).order,(S.poll ⟨k,t,c,u,o⟩).cents,(S.poll ⟨k,t,c,u,o⟩).upto⟩:=rfl
  refine (jwp R bl bc ba k t c u o 0 (S.poll ⟨k,t,c,u,o⟩).kind (S.poll ⟨k,t,c,u,o⟩).order (S.poll ⟨k,t,c,u,o⟩).cents (S.poll ⟨k,t,c,u,o⟩).upto w rfl hk4 HUP (fun W hW=>?_)).mono (by rintro e w' ⟨rfl,hb⟩;exact ⟨rfl,jdj h hI hb⟩)
  have:=jve (ja9 h hW) hI hl ⟨k,t,c,u,o⟩ hor
  subst hk4
  exact this
 rw [if_neg hk4]
 have hk3:k=1\/k=2\/k=3:=by rcases hnum with x|x|x<;>omega
 obtain ⟨_,_,_,_,_,c5,c6,_,c8,_,c10⟩:=jcf h.blk
 have hd:=js4 h.ansL
 have HR:Hid (∀ a∈S.ansL,∀ W,Below w.heap.size w W->Calls Tryz.prog 147 #[pt R 0,a.val] W fun e w'=>e=.returned (.bool (S.remem a))/\Below W.heap.size W w'):=fun a ha W hW=>by
  obtain ⟨_,_,_,_,_,d5,_,_,d8,_⟩:=jcf (ja9 h hW).blk
  exact jop R S.now S.C.keep a W d8 d5 ⟨hI.now.1,hI.now.2,(hat a ha).1,(hat a ha).2⟩
 have hl64:S.ansL.length * 64<=140737488355328:=by omega
 cases hu:S.used (Req.token ⟨k,t,c,u,o⟩) with
 | some a =>
   obtain ⟨i,hi,hg,hr,ht,hf⟩:=jm7 hu
   simp only
   refine (jvb R bl bc ba k t c u o w hk3 va S.ansL S.remem c10 hd hl64 i hi hf (by rw [hg];exact hr) (by rw [hg];exact ht) bs hbs (if a.frame=strOfNums bs then a.rep else ⟨10,0,0,0⟩:Rep).val (fun e=>by rw [hg] at e;rw [if_pos e,hg]) (fun e=>by rw [hg] at e;rw [if_neg e];rfl) HUP HR).mono ?_
   rintro e w' ⟨rfl,hb⟩
   by_cases hfe:a.frame=strOfNums bs
   ·rw [if_pos hfe,if_pos hfe];exact ⟨rfl,jdj h hI hb⟩
   ·rw [if_neg hfe,if_neg hfe];exact ⟨rfl,jdj h hI hb⟩
 | none =>
   have hf:=jz2 hu
   simp only
   have HAN:=jjd h hI hat hl64
   by_cases hm:(S.answers:Int)=S.C.tokens
   ·rw [if_pos hm]
    exact (jwu R bl bc ba k t c u o w hk3 va S.ansL S.remem c10 hd hl64 hf _ (by rw [c6,hm]) HUP HR HAN).mono (by rintro e w' ⟨rfl,hb⟩;exact ⟨rfl,jdj h hI hb⟩)
   ·rw [if_neg hm]
    have hown:∀ b,(b=R\/vo.ownBlock=some b)->b<w.heap.size:=fun b e=>e.elim (fun e=>e▸hRw) (fun e=>(World.ownsRow.lt h.os b e).2)
    obtain ⟨m1,m2,m3⟩:=jja S ⟨k,t,c,u,o⟩
    have HQS:Hid (∀ Wc W W' b,w.heap.size<=b->b<Wc.heap.size->jov w Wc W B R (S.doS ⟨k,t,c,u,o⟩).2 ap lp cp vo va->Same (fun x=>x=b) W W'->jov w Wc W' B R (S.doS ⟨k,t,c,u,o⟩).2 ap lp cp vo va):=fun Wc W W' b h1 h2 h3 h4=>jsp h hBR h1 h2 h3 h4
    have HQ1:Hid (∀ Wc W,Below w.heap.size w Wc->jov w Wc W B R (S.doS ⟨k,t,c,u,o⟩).2 ap lp cp vo va->ja6 W ba bl bc bs/\(bs≠[]->∀ b off,ba=some (aq b off)->b≠R/\Value.ownBlock va≠some b)/\W.ownsRow B 226 7 va S.ansL.length (jin S.ansL)/\∃ C,W.heap[R]?=some (.cells C 164 (0,0))/\C[10]?=some va/\C[8]?=some (iv S.now)):=fun Wc W _ hq=>by
     obtain ⟨vo',a1,a2,a3,a5,a4⟩:=hq
     refine ⟨jh0 hbs a3 (fun hne b off e=>?_),fun hne b off e=>⟨(hbb hne b off e).1,(hbb hne b off e).2.2⟩,?_,_,a1.blk,rfl,?_⟩
     ·rintro (x|x)
      ·exact (hbb hne b off e).1 x
      ·exact (hbb hne b off e).2.1 x
     ·have:=a1.ansL
      rw [m3] at this
      exact this
     ·rw [m2];rfl
    have HD:∀ W,Below w.heap.size w W->∀ w',(∃ vo',saleAt w' B R (S.doS ⟨k,t,c,u,o⟩).2 ap lp cp vo' va/\salI (S.doS ⟨k,t,c,u,o⟩).2/\Same (fun b=>b=R\/vo.ownBlock=some b) W w'/\∀ k,vo'.ownBlock=some k->vo.ownBlock=some k\/W.heap.size<=k)->jov w W w' B R (S.doS ⟨k,t,c,u,o⟩).2 ap lp cp vo va/\Same (fun b=>b=R\/vo.ownBlock=some b) W w':=fun W hW w' hq=>by
     obtain ⟨vo',a1,a2,a3,a4⟩:=hq
     exact ⟨⟨vo',a1,a2,Same.trans (Same.of_below (own:=fun _=>False) hW) a3 (fun k _ e=>e.elim False.elim id),a3.size,a4⟩,a3⟩
    have hE:(S.doS ⟨k,t,c,u,o⟩).1=⟨(S.doS ⟨k,t,c,u,o⟩).1.kind,(S.doS ⟨k,t,c,u,o⟩).1.order,(S.doS ⟨k,t,c,u,o⟩).1.cents,(S.doS ⟨k,t,c,u,o⟩).1.upto⟩:=rfl
    have fin:∀ w',(∃ Wc W5 W6,jov w Wc W5 B R (S.doS ⟨k,t,c,u,o⟩).2 ap lp cp vo va/\Below w.heap.size w Wc/\w.heap.size<Wc.heap.size/\w.heap.size<W5.heap.size/\jkx W5 W6 B R va S.ansL.length (jin S.ansL) [.string (strOfNums bs),iv t,iv (S.doS ⟨k,t,c,u,o⟩).1.kind,iv (S.doS ⟨k,t,c,u,o⟩).1.order,iv (S.doS ⟨k,t,c,u,o⟩).1.cents,iv (S.doS ⟨k,t,c,u,o⟩).1.upto,iv S.now]/\Same (fun x=>x=w.heap.size) W6 w')->jou w w' B R { (S.doS ⟨k,t,c,u,o⟩).2 with ansL:=(S.doS ⟨k,t,c,u,o⟩).2.ansL++[⟨strOfNums bs,t,(S.doS ⟨k,t,c,u,o⟩).1,S.now⟩] } ap lp cp vo va:=by
     rintro w' ⟨Wc,W5,W6,q1,q2,q3,q4,q5,q6⟩
     exact qfu h hBR m3 ⟨strOfNums bs,t,(S.doS ⟨k,t,c,u,o⟩).1,S.now⟩ q1 q3 q4 q5 q6
    refine (qc6 R bl bc ba k t c u o w hk3 va S.ansL S.remem c10 hd hl64 hf _ _ c6 hm hla B (jin S.ansL) S.now _ _ _ _ _ hown (fun Wc W=>jov w Wc W B R (S.doS ⟨k,t,c,u,o⟩).2 ap lp cp vo va) bs hBw ⟨fun hk W hW=>?_,fun hk W hW=>?_,fun hk W hW=>?_⟩ HQS HQ1 HUP HR HAN).mono (by rintro e w' ⟨rfl,hq⟩;exact ⟨rfl,fin w' hq⟩)
    ·have hr:1<=c/\1<=u/\u<=4294967296:=by rcases hnum with x|x|x<;>omega
     have e1:S.doS ⟨k,t,c,u,o⟩=S.ask ⟨k,t,c,u,o⟩:=by unfold Sal.doS;rw [if_pos hk]
     refine (qa9 (ja9 h hW) hI hBR hcap hqm hl ⟨k,t,c,u,o⟩ hr).mono ?_
     rintro e w' ⟨rfl,vo',a1,a2,a3,a4⟩
     rw [← e1] at a1 a2 ⊢
     exact ⟨rfl,HD W hW w' ⟨vo',a1,a2,a3,fun k hk=>(a4 k hk).imp id (fun e=>by omega)⟩⟩
    ·have hr:1<=o/\o<=4294967296:=by rcases hnum with x|x|x<;>omega
     have e1:S.doS ⟨k,t,c,u,o⟩=S.confirm ⟨k,t,c,u,o⟩:=by unfold Sal.doS;rw [if_neg (by show ¬ k=1;omega),if_pos hk]
     refine (jpv (ja9 h hW) hI hl ⟨k,t,c,u,o⟩ hr).mono ?_
     rintro e w' ⟨rfl,a1,a2,a3,a4⟩
     rw [← e1] at a1 a2 ⊢
     exact ⟨rfl,HD W hW w' ⟨vo,a1,a2,Same.trans a4 (Same.of_below (own:=fun _=>False) (Below.refl _ _)) (fun k _ e=>e.elim .inr False.elim),fun k hk=>.inl hk⟩⟩
    ·have hr:1<=o/\o<=4294967296:=by rcases hnum with x|x|x<;>omega
     have e1:S.doS ⟨k,t,c,u,o⟩=S.cancel ⟨k,t,c,u,o⟩:=by unfold Sal.doS;rw [if_neg (by show ¬ k=1;omega),if_neg (by show ¬ k=2;omega)]
     refine (jqs (ja9 h hW) hI hl ⟨k,t,c,u,o⟩ hr).mono ?_
     rintro e w' ⟨rfl,a1,a2,a3,a4⟩
     rw [← e1] at a1 a2 ⊢
     exact ⟨rfl,HD W hW w' ⟨vo,a1,a2,Same.trans a4 (Same.of_below (own:=fun _=>False) (Below.refl _ _)) (fun k _ e=>e.elim .inr False.elim),fun k hk=>.inl hk⟩⟩
end
end
end Go.Proofs.YtfhncfghblkgeaaGreat
