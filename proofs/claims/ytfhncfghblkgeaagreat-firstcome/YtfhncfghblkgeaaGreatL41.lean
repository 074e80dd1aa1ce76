import Derived.Test.YtfhncfghblkgeaaGreatL40
set_option maxRecDepth 100000
set_option maxHeartbeats 2000000
namespace Go.Proofs.YtfhncfghblkgeaaGreat
open Go.RowKit
theorem jg8 {w:World} {R:Nat} {c0 c1 c2 c3 c4 c5 c6 c7:Value} {T:TypeId} (h:w.heap[R]?=some (.cells #[c0,c1,c2,c3,c4,c5,c6,c7] T (0,0))):w.cell? (aq R 0)=some c0/\w.cell? (aq R 1)=some c1/\w.cell? (aq R 2)=some c2/\w.cell? (aq R 3)=some c3/\w.cell? (aq R 4)=some c4/\w.cell? (aq R 5)=some c5/\w.cell? (aq R 6)=some c6/\w.cell? (aq R 7)=some c7:=by
 refine ⟨?_,?_,?_,?_,?_,?_,?_,?_⟩<;>(rw [Joins.cell_of_block h];rfl)
theorem qd5 (W:World) (b k:Nat) (h:k≠b) (v0 v1 v2 v3 v4:Value):(((((W.setCell (aq b 0) v0).setCell (aq b 1) v1).setCell (aq b 2) v2).setCell (aq b 3) v3).setCell (aq b 4) v4).heap[k]?=W.heap[k]?:=by
 rw [Below.heap_setCell _ (aq b 4) _ _ h,Below.heap_setCell _ (aq b 3) _ _ h,Below.heap_setCell _ (aq b 2) _ _ h,Below.heap_setCell _ (aq b 1) _ _ h,Below.heap_setCell _ (aq b 0) _ _ h]
theorem jr3 (w:World):Calls Tryz.prog 56 #[] w fun e w'=>∃ xa oa,e=.returned (.agg #[pt xa 0,.pointer none,iv 0,.slice none 0 0,iv 0])/\pwW w' xa oa 0 []/\(∀ k,oa k->w.heap.size<=k)/\Below w.heap.size w w':=by
 go_enter Tryz.func56,Tryz.ntmps56
 have rb0:Hid ((w.alloc (.cells #[.pointer none,.pointer none,iv 0,.slice none 0 0,iv 0] 115)).heap[w.heap.size]?=some (.cells #[.pointer none,.pointer none,iv 0,.slice none 0 0,iv 0] 115 (0,0))):=heap_alloc_new w _
 have hbl:Hid (Below w.heap.size w (w.alloc (.cells #[.pointer none,.pointer none,iv 0,.slice none 0 0,iv 0] 115))):=(Below.refl _ _).alloc (Nat.le_refl _) _
 go_wp2_with fail
 generalize w.alloc (.cells #[.pointer none,.pointer none,iv 0,.slice none 0 0,iv 0] 115)=W0 at rb0 hbl ⊢
 have lr0:w.heap.size<W0.heap.size:=(blt rb0.out)
 refine (jsd W0 0).mono ?_
 rintro e W1 ⟨xa,oa,rfl,hp,ho,bb⟩
 have hb1:Hid (Below w.heap.size w W1):=hbl.out.trans (bb.mono hbl.out.size)
 have rb1:Hid (W1.heap[w.heap.size]?=some (.cells #[.pointer none,.pointer none,iv 0,.slice none 0 0,iv 0] 115 (0,0))):=(bb.block _ lr0).trans rb0.out
 have lr1:w.heap.size<W1.heap.size:=(blt rb1.out)
 have HE:Hid (∀ v0 v1 v2 v3 v4,pwW (((((W1.setCell (aq w.heap.size 0) v0).setCell (aq w.heap.size 1) v1).setCell (aq w.heap.size 2) v2).setCell (aq w.heap.size 3) v3).setCell (aq w.heap.size 4) v4) xa oa 0 []/\(∀ k,oa k->w.heap.size<=k)/\Below w.heap.size w (((((W1.setCell (aq w.heap.size 0) v0).setCell (aq w.heap.size 1) v1).setCell (aq w.heap.size 2) v2).setCell (aq w.heap.size 3) v3).setCell (aq w.heap.size 4) v4)):=fun v0 v1 v2 v3 v4=>⟨jcb hp (by simp [World.setCell]) (fun k e=>qd5 W1 _ k (by have:=ho k e;omega) _ _ _ _ _),fun k e=>by have:=ho k e;omega,jb1 hb1.out (Nat.le_refl _)⟩
 obtain ⟨s0,s1,s2,s3,s4⟩:=jae rb1.out
 have f0:=ja0 rb1.out 0
 have f1:=ja0 rb1.out 1
 have f2:=ja0 rb1.out 2
 have f3:=ja0 rb1.out 3
 have f4:=ja0 rb1.out 4
 clear hp ho bb rb0 hbl lr0
 go_wp2
 refine bodyPost_ret (v:=.agg #[pt xa 0,.pointer none,iv 0,.slice none 0 0,iv 0]) (by simp [results,Tryz.results56,go_sem,s0,s1,s2,s3,s4]) rfl ⟨xa,oa,rfl,?_⟩
 exact HE.out _ _ _ _ _
theorem qf5 (n0 n1 n2 n3 n4 n5 n6:Int) (a:Option Addr) (len cap:Nat) (w:World)
 (HC:Hid (∀ W,Below w.heap.size w W->Calls Tryz.prog 54 #[.agg #[iv n0,iv n1,iv n2,iv n3,iv n4,iv n5,iv n6,.slice a len cap]] W fun e w'=>e=.returned (iv 1)/\Below W.heap.size W w')) :
 Calls Tryz.prog 26 #[.agg #[iv n0,iv n1,iv n2,iv n3,iv n4,iv n5,iv n6,.slice a len cap]] w fun e w'=>e=.returned (.tuple #[.pointer none,iv 1])/\Below w.heap.size w w':=by
 have hbl:Hid (Below w.heap.size w (w.alloc (.cells #[iv n0,iv n1,iv n2,iv n3,iv n4,iv n5,iv n6,.slice a len cap] 29))):=(Below.refl _ _).alloc (Nat.le_refl _) _
 go_enter Tryz.func26,Tryz.ntmps26
 go_wp2_with fail
 generalize w.alloc (.cells #[iv n0,iv n1,iv n2,iv n3,iv n4,iv n5,iv n6,.slice a len cap] 29)=W0 at hbl ⊢
 refine (HC.out _ hbl.out).mono ?_
 rintro e W1 ⟨rfl,bb⟩
 have hb1:Below w.heap.size w W1:=hbl.out.trans (bb.mono hbl.out.size)
 go_wp2
 refine bodyPost_ret (v:=.tuple #[.pointer none,iv 1]) (by simp [results,Tryz.results26,go_sem]) rfl ⟨rfl,hb1⟩
def jpm (w w':World) (n0 n1 n2 n3 n4 n5 n6:Int) (len:Nat) (ts:List (Int × Int)) (x:Nat):Prop :=
 ∃ xt ot xa oa g cp,w'.heap[x]?=some (.cells #[iv n0,iv n1,iv n2,iv n3,iv n4,iv n5,iv n6,.slice (some (aq g 0)) len cp,iv 0,iv 0,pt xt 0,.pointer none,iv 0,.slice none 0 0,iv 0,.pointer none,iv 0,.pointer none,iv 0,iv 0,iv 0,.pointer none,iv 0,pt xa 0,.pointer none,iv 0,.slice none 0 0,iv 0] 117 (0,0))/\pwW w' xt ot 0 []/\pwW w' xa oa 0 []/\w'.ownsRow w.heap.size 137 2 (.slice (some (aq g 0)) len cp) len (jdq ts)/\(∀ k,ot k->w.heap.size<=k/\k≠x/\k≠g/\¬ oa k)/\(∀ k,oa k->w.heap.size<=k/\k≠x/\k≠g)/\g≠x/\w.heap.size<=x/\Below w.heap.size w w'
theorem qgh (n0 n1 n2 n3 n4 n5 n6:Int) (b off len cap:Nat) (ts:List (Int × Int)) (w:World) (hb:b<w.heap.size) (hlen:ts.length=len) (h0:0<len) (hcap:len<=cap/\cap * 16<=140737488355328) (hcell:∀ i,i<len->w.cell? (aq b (off+i * 2))=some (iv (ts.getD i (0,0)).1)/\w.cell? (aq b (off+i * 2+1))=some (iv (ts.getD i (0,0)).2))
 (HC:Hid (∀ W,Below w.heap.size w W->Calls Tryz.prog 54 #[.agg #[iv n0,iv n1,iv n2,iv n3,iv n4,iv n5,iv n6,.slice (some (aq b off)) len cap]] W fun e w'=>e=.returned (iv 0)/\Below W.heap.size W w')) :
 Calls Tryz.prog 26 #[.agg #[iv n0,iv n1,iv n2,iv n3,iv n4,iv n5,iv n6,.slice (some (aq b off)) len cap]] w fun e w'=>∃ x,e=.returned (.tuple #[pt x 0,iv 0])/\jpm w w' n0 n1 n2 n3 n4 n5 n6 len ts x:=by
 obtain ⟨i0,hi,hz0,hz1,hz2⟩:=info_parts Tryz.infoTier
 have HNEWS:Hid (∀ W,Below w.heap.size w W->∀ j u,(jdq ts)[j]?=some u->W.cell? (((aq b off):Addr).add j)=some u):=fun W hW j u hu=>by
  have hjl:j<len * 2:=by
   have:=(List.getElem?_eq_some_iff.1 hu).1
   rw [jr1,hlen] at this
   exact this
  obtain ⟨q1,q2⟩:=jla ts (j / 2) (by omega)
  obtain ⟨k1,k2⟩:=hcell (j / 2) (by omega)
  rw [Addr.add_lit]
  rcases Nat.mod_two_eq_zero_or_one j with hm|hm
  ·have e:j / 2 * 2=j:=by omega
   rw [e,hu] at q1
   rw [(hW.cell (p:=(aq b (off+j))) hb),← e,k1]
   rw [← q1]
  ·have e:j / 2 * 2+1=j:=by omega
   rw [e,hu] at q2
   rw [(hW.cell (p:=(aq b (off+j))) hb)]
   have e':off+j=off+j / 2 * 2+1:=by omega
   rw [e',k2]
   rw [← q2]
 have hfl:(jdq ts).length=len * 2:=by rw [jr1,hlen]
 have hone:∀ u∈jdq ts,u.oneCell'=true:=jzn ts
 have cb0:Hid ((w.alloc (.cells #[iv n0,iv n1,iv n2,iv n3,iv n4,iv n5,iv n6,.slice (some (aq b off)) len cap] 29)).heap[w.heap.size]?=some (.cells #[iv n0,iv n1,iv n2,iv n3,iv n4,iv n5,iv n6,.slice (some (aq b off)) len cap] 29 (0,0))):=heap_alloc_new w _
 have hbl:Hid (Below w.heap.size w (w.alloc (.cells #[iv n0,iv n1,iv n2,iv n3,iv n4,iv n5,iv n6,.slice (some (aq b off)) len cap] 29))):=(Below.refl _ _).alloc (Nat.le_refl _) _
 clear hcell
 go_enter Tryz.func26,Tryz.ntmps26
 go_wp2_with fail
 generalize w.alloc (.cells #[iv n0,iv n1,iv n2,iv n3,iv n4,iv n5,iv n6,.slice (some (aq b off)) len cap] 29)=W0 at cb0 hbl ⊢
 have lc0:w.heap.size<W0.heap.size:=(blt cb0.out)
 refine (HC.out _ hbl.out).mono ?_
 rintro e W1 ⟨rfl,bb⟩
 have hb1:Hid (Below w.heap.size w W1):=hbl.out.trans (bb.mono hbl.out.size)
 have cb1:Hid (W1.heap[w.heap.size]?=some (.cells #[iv n0,iv n1,iv n2,iv n3,iv n4,iv n5,iv n6,.slice (some (aq b off)) len cap] 29 (0,0))):=(bb.block _ lc0).trans cb0.out
 have lc1:w.heap.size<W1.heap.size:=(blt cb1.out)
 obtain ⟨s0,s1,s2,s3,s4,s5,s6,s7⟩:=jg8 cb1.out
 clear bb cb0 hbl lc0 HC
 have HAPP:Hid (∀ v' W2,W2.ownsRow w.heap.size 137 2 v' (0+len) ([]++jdq ts)->(W1.alloc (.cells #[] 137)).grownBy W2 (Value.ownBlock (.slice (some (aq W1.heap.size 0)) 0 0))->∃ g cp,v'=.slice (some (aq g 0)) len cp/\Hid (W2.ownsRow w.heap.size 137 2 (.slice (some (aq g 0)) len cp) len (jdq ts)/\w.heap.size<g/\g<W2.heap.size)/\Hid (W2.heap[w.heap.size]?=some (.cells #[iv n0,iv n1,iv n2,iv n3,iv n4,iv n5,iv n6,.slice (some (aq b off)) len cap] 29 (0,0)))/\Hid (Below w.heap.size w W2)):=fun v' W2 hown hgrow=>by
  rw [Nat.zero_add,List.nil_append] at hown
  obtain ⟨g,cp,rfl,hg1,hg2⟩:=hown.form h0
  have z:=hgrow.size
  rw [show (W1.alloc (.cells #[] 137)).heap.size=W1.heap.size+1 by simp] at z
  have hk:∀ k,k<W1.heap.size->W2.heap[k]?=W1.heap[k]?:=fun k hk=>(hgrow.block k (by simp;omega) (fun e=>by simp [Value.ownBlock] at e;omega)).trans (Below.heap_alloc _ _ _ hk)
  have hcA:=(hk _ lc1).trans cb1.out
  refine ⟨g,cp,rfl,⟨hown,?_,hg2⟩,hcA,⟨hgrow.os.trans hb1.out.os,hgrow.tape.trans hb1.out.tape,hgrow.output.trans hb1.out.output,by have:=hb1.out.size;omega,fun k hk'=>(hk k (by have:=hb1.out.size;omega)).trans (hb1.out.block k hk')⟩⟩
  have hne:g≠w.heap.size:=fun e=>jb9 hown hcA (by decide) (by rw [← e];rfl)
  omega
 go_wp2_with (first
  | (at_builtin;refine wpList_append_own _ rfl _ _ 27 rfl w.heap.size 137 i0 (.agg #[iv 0,iv 0]) 2 16 Tryz.underlying27 hi hz0 hz1 hz2 rfl (by decide) _ _ _ rfl (World.ownsRow_made W1 #[] 0 (by omega) (by unfold maxLen;omega) rfl) (aq b off) len cap (jdq ts) rfl hfl (HNEWS.out _ (hb1.out.alloc (by omega) _)) hone (by unfold maxLen;omega) (by omega) (by simp;omega) ?_
     intro v' W2 hown hgrow _
     obtain ⟨g,cp,rfl,hown,cb2,hb2⟩:=HAPP.out v' W2 hown hgrow
     have f7:=ja0 cb2.out 7
     obtain ⟨t0,t1,t2,t3,t4,t5,t6,t7⟩:=jg8 cb2.out
     have lc2:w.heap.size<W2.heap.size:=(blt cb2.out)
     clear hgrow)
  | fail)
 have cb3:Hid ((W2.setCell (aq w.heap.size 7) (.slice (some (aq g 0)) len cp)).heap[w.heap.size]?=some (.cells #[iv n0,iv n1,iv n2,iv n3,iv n4,iv n5,iv n6,.slice (some (aq g 0)) len cp] 29 (0,0))):=Joins.block_setCell (i:=7) cb2.out _
 have hb3:Hid (Below w.heap.size w (W2.setCell (aq w.heap.size 7) (.slice (some (aq g 0)) len cp))):=hb2.out.setCell (p:=(aq w.heap.size 7)) (Nat.le_refl _) _
 have hown3:Hid ((W2.setCell (aq w.heap.size 7) (.slice (some (aq g 0)) len cp)).ownsRow w.heap.size 137 2 (.slice (some (aq g 0)) len cp) len (jdq ts)/\w.heap.size<g/\g<(W2.setCell (aq w.heap.size 7) (.slice (some (aq g 0)) len cp)).heap.size):=⟨jad hown.out.1 (fun k hk=>Below.heap_setCell _ (aq w.heap.size 7) _ _ (by have e:g=k:=(by simpa [Value.ownBlock] using hk);have:=hown.out.2.1;show k≠w.heap.size;omega)),hown.out.2.1,by have:=hown.out.2.2;simpa [World.setCell] using this⟩
 clear t0 t1 t2 t3 t4 t5 t6 t7 s0 s1 s2 s3 s4 s5 s6 s7 f7 lc2 lc1 cb2 hb2 hown HAPP HNEWS hb1 cb1
 generalize W2.setCell (aq w.heap.size 7) (.slice (some (aq g 0)) len cp)=W3 at cb3 hb3 hown3 ⊢
 refine (jsd W3 0).mono ?_
 rintro e W4 ⟨xt,ot,rfl,hpt,hot,b4⟩
 have lc3:w.heap.size<W3.heap.size:=(blt cb3.out)
 have cb4:Hid (W4.heap[w.heap.size]?=some (.cells #[iv n0,iv n1,iv n2,iv n3,iv n4,iv n5,iv n6,.slice (some (aq g 0)) len cp] 29 (0,0))):=(b4.block _ lc3).trans cb3.out
 have lc4:w.heap.size<W4.heap.size:=(blt cb4.out)
 obtain ⟨s0,s1,s2,s3,s4,s5,s6,s7⟩:=jg8 cb4.out
 have HA:Hid (∀ W,Below W4.heap.size W4 W->Calls Tryz.prog 56 #[] W fun e w'=>∃ xa oa,e=.returned (.agg #[pt xa 0,.pointer none,iv 0,.slice none 0 0,iv 0])/\Hid (jpm w (w'.alloc (.cells #[iv n0,iv n1,iv n2,iv n3,iv n4,iv n5,iv n6,.slice (some (aq g 0)) len cp,iv 0,iv 0,pt xt 0,.pointer none,iv 0,.slice none 0 0,iv 0,.pointer none,iv 0,.pointer none,iv 0,iv 0,iv 0,.pointer none,iv 0,pt xa 0,.pointer none,iv 0,.slice none 0 0,iv 0] 117)) n0 n1 n2 n3 n4 n5 n6 len ts w'.heap.size)/\Below W4.heap.size W4 w'):=fun W hW=>by
  refine (jr3 W).mono ?_
  rintro e W5 ⟨xa,oa,rfl,hpa,hoa,b5⟩
  have h45:Below W4.heap.size W4 W5:=hW.trans (b5.mono hW.size)
  have z3:=hb3.out.size
  have z4:=b4.size
  have z5:=h45.size
  have zW:=hW.size
  have hW3:Below W3.heap.size W3 W5:=b4.trans (h45.mono z4)
  have hal:Below W5.heap.size W5 (W5.alloc (.cells #[iv n0,iv n1,iv n2,iv n3,iv n4,iv n5,iv n6,.slice (some (aq g 0)) len cp,iv 0,iv 0,pt xt 0,.pointer none,iv 0,.slice none 0 0,iv 0,.pointer none,iv 0,.pointer none,iv 0,iv 0,iv 0,.pointer none,iv 0,pt xa 0,.pointer none,iv 0,.slice none 0 0,iv 0] 117)):=(Below.refl _ _).alloc (Nat.le_refl _) _
  have hotlt:=jfj hpt
  have hoalt:=jfj hpa
  have hg:=hown3.out
  refine ⟨xa,oa,rfl,⟨xt,ot,xa,oa,g,cp,heap_alloc_new W5 _,?_,?_,?_,fun k e=>?_,fun k e=>?_,?_,?_,?_⟩,h45⟩
  ·have q1:=jcb hpt h45.size (fun k e=>h45.block k (hotlt k e))
   exact jcb q1 hal.size (fun k e=>hal.block k (by have:=hotlt k e;omega))
  ·exact jcb hpa hal.size (fun k e=>hal.block k (hoalt k e))
  ·refine jad hg.1 (fun k hk=>?_)
   have e:g=k:=by simpa [Value.ownBlock] using hk
   rw [hal.block k (by omega)]
   exact hW3.block k (by omega)
  ·have h1:=hot k e
   have h2:=hotlt k e
   exact ⟨by omega,by omega,by omega,fun c=>by have:=hoa k c;omega⟩
  ·have h1:=hoa k e
   have h2:=hoalt k e
   exact ⟨by omega,by omega,by omega⟩
  ·omega
  ·omega
  ·exact (hb3.out.trans (hW3.mono z3)).trans (hal.mono (by omega))
 clear hpt hot hb3 hown3 cb3 lc3
 go_wp2_with fail
 go_region_held3 (fun w'=>w'.cell? (aq w.heap.size 0)=some (iv n0)/\w'.cell? (aq w.heap.size 1)=some (iv n1)/\w'.cell? (aq w.heap.size 2)=some (iv n2)/\w'.cell? (aq w.heap.size 3)=some (iv n3)/\w'.cell? (aq w.heap.size 4)=some (iv n4)/\w'.cell? (aq w.heap.size 5)=some (iv n5)/\w'.cell? (aq w.heap.size 6)=some (iv n6)/\w'.cell? (aq w.heap.size 7)=some (.slice (some (aq g 0)) len cp)) (simp [go_sem, *])
  (first
    | (go_at_call 56;refine (HA.out _ bL).mono ?_;rintro e W5 ⟨xa,oa,rfl,hans,b5⟩
       have cb5:Hid (W5.heap[w.heap.size]?=some (.cells #[iv n0,iv n1,iv n2,iv n3,iv n4,iv n5,iv n6,.slice (some (aq g 0)) len cp] 29 (0,0))):=(b5.block _ lc4).trans cb4.out
       have lc5:w.heap.size<W5.heap.size:=(blt cb5.out)
       obtain ⟨s0',s1',s2',s3',s4',s5',s6',s7'⟩:=jg8 cb5.out
       clear b5))
 clear s0 s1 s2 s3 s4 s5 s6 s7 s0' s1' s2' s3' s4' s5' s6' s7' cb4 HA
 go_wp2
 refine bodyPost_ret (v:=.tuple #[pt W5.heap.size 0,iv 0]) (by simp [results,Tryz.results26,go_sem]) rfl ⟨_,rfl,?_⟩
 exact hans.out
theorem qcw {w w':World} {n0 n1 n2 n3 n4 n5 n6:Int} {len x:Nat} {ts:List (Int × Int)} (hl:ts.length=len) (hl4:len<=4) (h:jpm w w' n0 n1 n2 n3 n4 n5 n6 len ts x) :
 ∃ own,psx 0 x ⟨⟨n0,n1,n2,n3,n4,n5,n6,ts⟩,0,[],[]⟩ 0 w' own/\(∀ k,own k->w.heap.size<=k)/\Below w.heap.size w w':=by
 obtain ⟨xt,ot,xa,oa,g,cp,a1,a2,a3,a4,a5,a6,a7,a8,a9⟩:=h
 have hgl:w.heap.size<=g/\g<w'.heap.size:=World.ownsRow.lt a4 g rfl
 have hxl:x<w'.heap.size:=(blt a1)
 refine ⟨fun k=>ot k\/oa k\/k=x\/k=g,⟨⟨⟨n0,n1,n2,n3,n4,n5,n6,ts⟩,0,0,0,[],[],[],0,[],[],0,0,[],0,[],[],[],0,some (aq g 0),len,cp,xt,xa⟩,⟨⟨ot,.leaf,none,0,.leaf,.leaf,.leaf,oa,.leaf,none,0⟩,?_⟩,?_,?_,rfl⟩,?_,a9⟩
 ·refine ⟨a1,?_,a2,a3,⟨trivial,rfl⟩,⟨trivial,rfl⟩,⟨trivial,rfl⟩,⟨trivial,rfl⟩,⟨trivial,rfl⟩,World.ownsRow_nil _ _ _ _,World.ownsRow_nil _ _ _ _,fun k e=>?_,fun k e=>?_,fun k e=>?_,fun k e=>?_,fun k e=>?_⟩
  ·refine ⟨⟨hl,by show len<=_;omega⟩,fun _=>⟨g,0,rfl,hgl.2,fun i hi=>?_⟩⟩
   have hi':i<len:=hi
   obtain ⟨f0,f1⟩:=jla ts i (by omega)
   have c0:=a4.cells (g:=g) rfl _ _ f0
   have c1:=a4.cells (g:=g) rfl _ _ f1
   rw [Addr.add_lit] at c0 c1
   exact ⟨c0,by rw [Nat.add_assoc];exact c1⟩
  ·obtain ⟨off,e⟩:=e
   have e':k=g:=by simp at e;exact e.1.symm
   subst e'
   exact ⟨a7,by simp [Value.ownBlock],by simp [Value.ownBlock]⟩
  ·obtain ⟨b1,b2,b3,b4⟩:=a5 k e
   refine ⟨b4,?_⟩
   rintro (c|c|c|c|c|c|c|c|⟨off,c⟩)
   ·exact b2 c
   ·exact c
   ·exact c
   ·exact c
   ·exact c
   ·exact c
   ·simp [Value.ownBlock] at c
   ·simp [Value.ownBlock] at c
   ·have c':(some ((aq g 0):Addr))=some (aq k off):=c
    simp only [Option.some.injEq,Addr.mk.injEq] at c'
    exact b3 c'.1.symm
  ·obtain ⟨b1,b2,b3⟩:=a6 k e
   rintro (c|c|c|c|c|c|c|c|⟨off,c⟩)
   ·exact b2 c
   ·exact c
   ·exact c
   ·exact c
   ·exact c
   ·exact c
   ·simp [Value.ownBlock] at c
   ·simp [Value.ownBlock] at c
   ·have c':(some ((aq g 0):Addr))=some (aq k off):=c
    simp only [Option.some.injEq,Addr.mk.injEq] at c'
    exact b3 c'.1.symm
  ·rcases e with e|e|e
   ·exact .inl e
   ·exact .inr (.inl e)
   ·rcases e with c|c|c|c|c|c|c|c|⟨off,c⟩
    ·exact .inr (.inr (.inl c))
    ·exact c.elim
    ·exact c.elim
    ·exact c.elim
    ·exact c.elim
    ·exact c.elim
    ·simp [Value.ownBlock] at c
    ·simp [Value.ownBlock] at c
    ·have c':(some ((aq g 0):Addr))=some (aq k off):=c
     simp only [Option.some.injEq,Addr.mk.injEq] at c'
     exact .inr (.inr (.inr c'.1.symm))
  ·rcases e with e|e|e|e
   ·exact jfj a2 k e
   ·exact jfj a3 k e
   ·rw [e];exact hxl
   ·rw [e];exact hgl.2
 ·refine ⟨rfl,rfl,rfl,Int.le_refl _,by unfold jcz;simp,fun p=>?_,fun i e=>e.1,fun i hi=>by simp at hi,joo,fun o=>?_,jz5,jx4,rfl,rfl,?_,fun o ho=>by simp at ho⟩
  ·constructor
   ·intro e;simp at e
   ·rintro ⟨i,e,_⟩;have:=e.1;simp at this
  ·constructor
   ·intro e;simp at e
   ·rintro ⟨i,e,_⟩;have:=e.1;simp at this
  ·exact jl3 qcv (fun st c _ _=>rfl)
 ·refine ⟨by unfold jcz;simp,joo,fun j hj=>by simp at hj,fun i j hi=>by simp at hi,fun a ha=>by simp at ha,fun p=>?_⟩
  constructor
  ·intro e;simp at e
  ·rintro ⟨j,hj,_⟩;simp at hj
 ·rintro k (e|e|e|e)
  ·exact (a5 k e).1
  ·exact (a6 k e).1
  ·rw [e];exact a8
  ·rw [e];exact hgl.1
theorem jcr {n:Int} (h:jbn n=true):1<=n/\n<=4294967296:=by simpa [jbn] using h
theorem openW:OpenOK PSW where
 no:=by
  intro w n0 n1 n2 n3 n4 n5 n6 a len cap ts ht hc
  refine qf5 n0 n1 n2 n3 n4 n5 n6 a len cap w (fun W hW=>?_)
  have:=jqt n0 n1 n2 n3 n4 n5 n6 a len cap ts W (ht.below hW (Nat.le_refl _))
  rw [hc] at this
  exact this
 yes:=by
  intro w n0 n1 n2 n3 n4 n5 n6 a len cap ts ht hc
  have hc':=hc
  unfold jh2 at hc'
  simp only [List.all_cons,List.all_nil,Bool.and_true,Bool.and_eq_true] at hc'
  obtain ⟨⟨h0,h1,h2,h3,h4,h5,h6⟩,hp⟩:=hc'
  have hlen:1<=ts.length/\ts.length<=4:=by
   unfold jbo at hp
   simp only [Bool.and_eq_true,decide_eq_true_eq] at hp
   exact hp.1
  obtain ⟨t1,t2,t3,t4,t5⟩:=id ht
  obtain ⟨b,off,rfl,hb,hcell⟩:=t5 (by intro e;have:=hlen.1;rw [e] at this;simp at this)
  refine (qgh n0 n1 n2 n3 n4 n5 n6 b off len cap ts w hb t1 (by omega) ⟨t2,t3⟩ hcell (fun W hW=>?_)).mono ?_
  ·have:=jqt n0 n1 n2 n3 n4 n5 n6 (some (aq b off)) len cap ts W (ht.below hW (Nat.le_refl _))
   rw [hc] at this
   exact this
  ·rintro e w' ⟨x,rfl,ha⟩
   obtain ⟨own,p1,p2,p3⟩:=qcw t1 (by omega) ha
   refine ⟨x,own,rfl,⟨p1,⟨⟨fun o ho=>by simp at ho,fun q qs c=>by simp [ja5,jam] at c,jcr h3,jcr h4,jcr h5,jcr h6,jcr h2⟩,?_,?_⟩⟩,p2,p3⟩
   ·have:=(jcr h2).1
    show ((0:Nat):Int)<=n2
    omega
   ·have:=(jcr h6).1
    show ((0:Nat):Int)<=n6
    omega
end Go.Proofs.YtfhncfghblkgeaaGreat
