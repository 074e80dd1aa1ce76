import Derived.Test.YtfhncfghblkgeabGreatL46
set_option maxRecDepth 100000
set_option maxHeartbeats 2000000
namespace Go.Proofs.YtfhncfghblkgeabGreat
open Go.RowKit
theorem Sv (x:Nat) (f hd sd n m:Int) (w:World) (c19:w.cell? (aq x 19)=some (iv hd)) (c20:w.cell? (aq x 20)=some (iv sd))
 (HF:Hid (∀ W,Below w.heap.size w W->Ca 38 #[pt x 0] W fun e w'=>e=.returned (iv f)/\Below W.heap.size W w'))
 (HQ:Hid (∀ W,Below w.heap.size w W->Ca 39 #[pt x 15] W fun e w'=>e=.returned (iv n)/\Below W.heap.size W w'))
 (HA:Hid (∀ W,Below w.heap.size w W->Ca 40 #[pt x 23] W fun e w'=>e=.returned (iv m)/\Below W.heap.size W w')) :
 Ca 22 #[pt x 0] w fun e w'=>e=.returned (.agg #[iv f,iv hd,iv sd,iv n,iv m])/\Below w.heap.size w w':=by
 have hxw:x<w.heap.size:=uC w _ c19
 replace c19:Hid _:=c19
 replace c20:Hid _:=c20
 go_enter Tryz.func22,Tryz.ntmps22
 have rb0:Hid ((w.alloc (.cells #[iv 0,iv 0,iv 0,iv 0,iv 0] 61)).heap[w.heap.size]?=some (.cells #[iv 0,iv 0,iv 0,iv 0,iv 0] 61)):=uF w _
 have hbl:Hid (Below w.heap.size w (w.alloc (.cells #[iv 0,iv 0,iv 0,iv 0,iv 0] 61))):=(uM _ _).alloc (uA _) _
 go_wp2_with fail
 generalize w.alloc (.cells #[iv 0,iv 0,iv 0,iv 0,iv 0] 61)=W0 at rb0 hbl ⊢
 have k19:=(hbl.out.cell (p:=(aq x 19)) hxw).trans c19.out
 have k20:=(hbl.out.cell (p:=(aq x 20)) hxw).trans c20.out
 have hx0:x<W0.heap.size:=uB hxw hbl.out.size
 have lr0:w.heap.size<W0.heap.size:=(blt rb0.out)
 go_region_held3 (fun w'=>w'.cell? (aq x 19)=some (iv hd)/\w'.cell? (aq x 20)=some (iv sd)) (simp [go_sem, *])
  (first
    | (go_at_call 38;refine (HF.out _ bL).mono ?_;rintro e W1 ⟨rfl,bb⟩
       have hbl1:Hid (Below w.heap.size w W1):=(show Below w.heap.size w _ from bL).trans (bb.mono hbl.out.size)
       have rb1:Hid (W1.heap[w.heap.size]?=some (.cells #[iv 0,iv 0,iv 0,iv 0,iv 0] 61)):=(bb.block _ lr0).trans rb0.out
       have m19:=(hbl1.out.cell (p:=(aq x 19)) hxw).trans c19.out
       have m20:=(hbl1.out.cell (p:=(aq x 20)) hxw).trans c20.out
       have hx1:x<W1.heap.size:=uB hxw hbl1.out.size
       have lr1:w.heap.size<W1.heap.size:=(blt rb1.out)
       clear bb)
    | (go_at_call 39;refine (HQ.out _ bL).mono ?_;rintro e W2 ⟨rfl,bb⟩
       have hbl2:Hid (Below w.heap.size w W2):=(show Below w.heap.size w _ from bL).trans (bb.mono hbl1.out.size)
       have rb2:Hid (W2.heap[w.heap.size]?=some (.cells #[iv 0,iv 0,iv 0,iv 0,iv 0] 61)):=(bb.block _ lr1).trans rb1.out
       have o19:=(hbl2.out.cell (p:=(aq x 19)) hxw).trans c19.out
       have o20:=(hbl2.out.cell (p:=(aq x 20)) hxw).trans c20.out
       have hx2:x<W2.heap.size:=uB hxw hbl2.out.size
       have lr2:w.heap.size<W2.heap.size:=(blt rb2.out)
       clear bb)
    | (go_at_call 40;refine (HA.out _ bL).mono ?_;rintro e W3 ⟨rfl,bb⟩
       have hbl3:Hid (Below w.heap.size w W3):=(show Below w.heap.size w _ from bL).trans (bb.mono hbl2.out.size)
       have rb3:Hid (W3.heap[w.heap.size]?=some (.cells #[iv 0,iv 0,iv 0,iv 0,iv 0] 61)):=(bb.block _ lr2).trans rb2.out
       have q19:=(hbl3.out.cell (p:=(aq x 19)) hxw).trans c19.out
       have q20:=(hbl3.out.cell (p:=(aq x 20)) hxw).trans c20.out
       have hx3:x<W3.heap.size:=uB hxw hbl3.out.size
       have lr3:w.heap.size<W3.heap.size:=(blt rb3.out)
       have f0:=qA rb3.out 0
       have f1:=qA rb3.out 1
       have f2:=qA rb3.out 2
       have f3:=qA rb3.out 3
       have f4:=qA rb3.out 4
       obtain ⟨s0,s1,s2,s3,s4⟩:=qU rb3.out
       clear bb))
 have HE:Hid (∀ v0 v1 v2 v3 v4,Below w.heap.size w (((((W3.sc w.heap.size 0 v0).sc w.heap.size 1 v1).sc w.heap.size 2 v2).sc w.heap.size 3 v3).sc w.heap.size 4 v4)):=fun v0 v1 v2 v3 v4=>qO hbl3.out (uA _)
 go_wp2
 refine uK (v:=.agg #[iv f,iv hd,iv sd,iv n,iv m]) (by simp [results,Tryz.results22,go_sem,s0,s1,s2,s3,s4]) rfl ⟨rfl,?_⟩
 first|exact HE.out _ _ _ _ _|exact Below.drew (HE.out _ _ _ _ _)|exact qY (HE.out _ _ _ _ _)
theorem ZM:BookOK ZY where
 books:=by
  intro w x own S h hJ
  obtain ⟨hp,hR⟩:=h
  have hKK:=Zk hJ hR
  obtain ⟨_,_,_,_,_,_,c19,c20⟩:=dG hp
  refine (Sv x S.free _ _ (qK S.os).length S.answers w c19 c20 (fun W hW=>Ai (yV hp hW) hKK) (fun W hW=>Re (yV hp hW)) (fun W hW=>Tu (yV hp hW))).mono ?_
  rintro e w' ⟨rfl,hb⟩
  obtain ⟨o',a1,a2,a3⟩:=yY (yQ S.now x S S.os.length) hp hb
  exact ⟨rfl,o',⟨a1,hR⟩,a2,a3⟩
 account:=by
  intro w x own S c h hJ
  obtain ⟨hp,hR⟩:=h
  have fin:∀ {w':World},Below w.heap.size w w'->Xq ZY w w' x own S:=fun hb=>by
   obtain ⟨o',a1,a2,a3⟩:=yY (yQ S.now x S S.os.length) hp hb
   exact ⟨o',⟨a1,hR⟩,a2,a3⟩
  by_cases hc:yU c=true
  ·have e:S.acc c=(qF S.os 13 c,qF S.os 14 c,qF S.os 12 c,0):=by unfold Sal.acc Sal.account;rw [uQ hc]
   rw [e]
   have hc':1<=c/\c<=4294967296:=by simpa [yU] using hc
   refine (Uc x c _ _ _ w hc'.1 hc'.2 (fun W hW=>Qd (yV hp hW) c uO)).mono ?_
   rintro e w' ⟨rfl,hb⟩
   exact ⟨rfl,fin hb⟩
  ·have e:S.acc c=(0,0,0,3):=by unfold Sal.acc;rw [uP hc]
   rw [e]
   refine (Gv x c w (by simpa using hc)).mono ?_
   rintro e w' ⟨rfl,hb⟩
   exact ⟨rfl,fin hb⟩
theorem gH {w:World} {R:Nat} {c0 c1 c2 c3 c4 c5 c6 c7:Value} {T:TypeId} (h:w.heap[R]?=some (.cells #[c0,c1,c2,c3,c4,c5,c6,c7] T)):w.cell? (aq R 0)=some c0/\w.cell? (aq R 1)=some c1/\w.cell? (aq R 2)=some c2/\w.cell? (aq R 3)=some c3/\w.cell? (aq R 4)=some c4/\w.cell? (aq R 5)=some c5/\w.cell? (aq R 6)=some c6/\w.cell? (aq R 7)=some c7:=by
 refine ⟨?_,?_,?_,?_,?_,?_,?_,?_⟩<;>(rw [uI h];rfl)
theorem Bx (W:World) (b k:Nat) (h:k≠b) (v0 v1 v2 v3 v4:Value):(((((W.sc b 0 v0).sc b 1 v1).sc b 2 v2).sc b 3 v3).sc b 4 v4).heap[k]?=W.heap[k]?:=by
 rw [uG _ (aq b 4) _ _ h,uG _ (aq b 3) _ _ h,uG _ (aq b 2) _ _ h,uG _ (aq b 1) _ _ h,uG _ (aq b 0) _ _ h]
theorem Jt (w:World):Ca 36 #[] w fun e w'=>∃ xa oa,e=.returned (.agg #[pt xa 0,.pointer none,iv 0,.slice none 0 0,iv 0])/\QJ w' xa oa 0 []/\(∀ k,oa k->w.heap.size<=k)/\Below w.heap.size w w':=by
 go_enter Tryz.func36,Tryz.ntmps36
 have rb0:Hid ((w.alloc (.cells #[.pointer none,.pointer none,iv 0,.slice none 0 0,iv 0] 95)).heap[w.heap.size]?=some (.cells #[.pointer none,.pointer none,iv 0,.slice none 0 0,iv 0] 95)):=uF w _
 have hbl:Hid (Below w.heap.size w (w.alloc (.cells #[.pointer none,.pointer none,iv 0,.slice none 0 0,iv 0] 95))):=(uM _ _).alloc (uA _) _
 go_wp2_with fail
 generalize w.alloc (.cells #[.pointer none,.pointer none,iv 0,.slice none 0 0,iv 0] 95)=W0 at rb0 hbl ⊢
 have lr0:w.heap.size<W0.heap.size:=(blt rb0.out)
 refine (Ur W0 0).mono ?_
 rintro e W1 ⟨xa,oa,rfl,hp,ho,bb⟩
 have hb1:Hid (Below w.heap.size w W1):=hbl.out.trans (bb.mono hbl.out.size)
 have rb1:Hid (W1.heap[w.heap.size]?=some (.cells #[.pointer none,.pointer none,iv 0,.slice none 0 0,iv 0] 95)):=(bb.block _ lr0).trans rb0.out
 have lr1:w.heap.size<W1.heap.size:=(blt rb1.out)
 have HE:Hid (∀ v0 v1 v2 v3 v4,QJ (((((W1.sc w.heap.size 0 v0).sc w.heap.size 1 v1).sc w.heap.size 2 v2).sc w.heap.size 3 v3).sc w.heap.size 4 v4) xa oa 0 []/\(∀ k,oa k->w.heap.size<=k)/\Below w.heap.size w (((((W1.sc w.heap.size 0 v0).sc w.heap.size 1 v1).sc w.heap.size 2 v2).sc w.heap.size 3 v3).sc w.heap.size 4 v4)):=fun v0 v1 v2 v3 v4=>⟨zR hp (by simp [World.setCell]) (fun k e=>Bx W1 _ k (by have:=ho k e;omega) _ _ _ _ _),fun k e=>by have:=ho k e;omega,qO hb1.out (uA _)⟩
 obtain ⟨s0,s1,s2,s3,s4⟩:=qU rb1.out
 have f0:=qA rb1.out 0
 have f1:=qA rb1.out 1
 have f2:=qA rb1.out 2
 have f3:=qA rb1.out 3
 have f4:=qA rb1.out 4
 clear hp ho bb rb0 hbl lr0
 go_wp2
 refine uK (v:=.agg #[pt xa 0,.pointer none,iv 0,.slice none 0 0,iv 0]) (by simp [results,Tryz.results36,go_sem,s0,s1,s2,s3,s4]) rfl ⟨xa,oa,rfl,?_⟩
 exact HE.out _ _ _ _ _
theorem Sh (n0 n1 n2 n3 n4 n5 n6:Int) (a:Option Addr) (len cap:Nat) (w:World)
 (HC:Hid (∀ W,Below w.heap.size w W->Ca 34 #[.agg #[iv n0,iv n1,iv n2,iv n3,iv n4,iv n5,iv n6,.slice a len cap]] W fun e w'=>e=.returned (iv 1)/\Below W.heap.size W w')) :
 Ca 18 #[.agg #[iv n0,iv n1,iv n2,iv n3,iv n4,iv n5,iv n6,.slice a len cap]] w fun e w'=>e=.returned (.tuple #[.pointer none,iv 1])/\Below w.heap.size w w':=by
 have hbl:Hid (Below w.heap.size w (w.alloc (.cells #[iv n0,iv n1,iv n2,iv n3,iv n4,iv n5,iv n6,.slice a len cap] 24))):=(uM _ _).alloc (uA _) _
 go_enter Tryz.func18,Tryz.ntmps18
 go_wp2_with fail
 generalize w.alloc (.cells #[iv n0,iv n1,iv n2,iv n3,iv n4,iv n5,iv n6,.slice a len cap] 24)=W0 at hbl ⊢
 refine (HC.out _ hbl.out).mono ?_
 rintro e W1 ⟨rfl,bb⟩
 have hb1:Below w.heap.size w W1:=hbl.out.trans (bb.mono hbl.out.size)
 go_wp2
 refine uK (v:=.tuple #[.pointer none,iv 1]) (by simp [results,Tryz.results18,go_sem]) rfl ⟨rfl,hb1⟩
def Yd (w w':World) (n0 n1 n2 n3 n4 n5 n6:Int) (len:Nat) (ts:List (Int × Int)) (x:Nat):Prop :=
 ∃ xt ot xa oa g cp,w'.heap[x]?=some (.cells #[iv n0,iv n1,iv n2,iv n3,iv n4,iv n5,iv n6,.slice (some (aq g 0)) len cp,iv 0,iv 0,pt xt 0,.pointer none,iv 0,.slice none 0 0,iv 0,.pointer none,iv 0,.pointer none,iv 0,iv 0,iv 0,.pointer none,iv 0,pt xa 0,.pointer none,iv 0,.slice none 0 0,iv 0] 105)/\QJ w' xt ot 0 []/\QJ w' xa oa 0 []/\w'.ownsRow w.heap.size 107 2 (.slice (some (aq g 0)) len cp) len (qV ts)/\(∀ k,ot k->w.heap.size<=k/\k≠x/\k≠g/\¬ oa k)/\(∀ k,oa k->w.heap.size<=k/\k≠x/\k≠g)/\g≠x/\w.heap.size<=x/\Below w.heap.size w w'
theorem YT (n0 n1 n2 n3 n4 n5 n6:Int) (b off len cap:Nat) (ts:List (Int × Int)) (w:World) (hb:b<w.heap.size) (hlen:ts.length=len) (h0:0<len) (hcap:len<=cap/\cap * 16<=140737488355328) (hcell:∀ i,i<len->w.cell? (aq b (off+i * 2))=some (iv (ts.getD i (0,0)).1)/\w.cell? (aq b (off+i * 2+1))=some (iv (ts.getD i (0,0)).2))
 (HC:Hid (∀ W,Below w.heap.size w W->Ca 34 #[.agg #[iv n0,iv n1,iv n2,iv n3,iv n4,iv n5,iv n6,.slice (some (aq b off)) len cap]] W fun e w'=>e=.returned (iv 0)/\Below W.heap.size W w')) :
 Ca 18 #[.agg #[iv n0,iv n1,iv n2,iv n3,iv n4,iv n5,iv n6,.slice (some (aq b off)) len cap]] w fun e w'=>∃ x,e=.returned (.tuple #[pt x 0,iv 0])/\Yd w w' n0 n1 n2 n3 n4 n5 n6 len ts x:=by
 obtain ⟨i0,hi,hz0,hz1,hz2⟩:=info_parts Tryz.infoTier
 have HNEWS:Hid (∀ W,Below w.heap.size w W->∀ j u,(qV ts)[j]?=some u->W.cell? (((aq b off):Addr).add j)=some u):=fun W hW j u hu=>by
  have hjl:j<len * 2:=by
   have:=(List.getElem?_eq_some_iff.1 hu).1
   rw [kN,hlen] at this
   exact this
  obtain ⟨q1,q2⟩:=dV ts (j / 2) uO
  obtain ⟨k1,k2⟩:=hcell (j / 2) uO
  rw [Addr.add_lit]
  rcases Nat.mod_two_eq_zero_or_one j with hm|hm
  ·have e:j / 2 * 2=j:=uO
   rw [e,hu] at q1
   rw [(hW.cell (p:=(aq b (off+j))) hb),← e,k1]
   rw [← q1]
  ·have e:j / 2 * 2+1=j:=uO
   rw [e,hu] at q2
   rw [(hW.cell (p:=(aq b (off+j))) hb)]
   have e':off+j=off+j / 2 * 2+1:=uO
   rw [e',k2]
   rw [← q2]
 have hfl:(qV ts).length=len * 2:=by rw [kN,hlen]
 have hone:∀ u∈qV ts,u.oneCell'=true:=Ka ts
 have cb0:Hid ((w.alloc (.cells #[iv n0,iv n1,iv n2,iv n3,iv n4,iv n5,iv n6,.slice (some (aq b off)) len cap] 24)).heap[w.heap.size]?=some (.cells #[iv n0,iv n1,iv n2,iv n3,iv n4,iv n5,iv n6,.slice (some (aq b off)) len cap] 24)):=uF w _
 have hbl:Hid (Below w.heap.size w (w.alloc (.cells #[iv n0,iv n1,iv n2,iv n3,iv n4,iv n5,iv n6,.slice (some (aq b off)) len cap] 24))):=(uM _ _).alloc (uA _) _
 clear hcell
 go_enter Tryz.func18,Tryz.ntmps18
 go_wp2_with fail
 generalize w.alloc (.cells #[iv n0,iv n1,iv n2,iv n3,iv n4,iv n5,iv n6,.slice (some (aq b off)) len cap] 24)=W0 at cb0 hbl ⊢
 have lc0:w.heap.size<W0.heap.size:=(blt cb0.out)
 refine (HC.out _ hbl.out).mono ?_
 rintro e W1 ⟨rfl,bb⟩
 have hb1:Hid (Below w.heap.size w W1):=hbl.out.trans (bb.mono hbl.out.size)
 have cb1:Hid (W1.heap[w.heap.size]?=some (.cells #[iv n0,iv n1,iv n2,iv n3,iv n4,iv n5,iv n6,.slice (some (aq b off)) len cap] 24)):=(bb.block _ lc0).trans cb0.out
 have lc1:w.heap.size<W1.heap.size:=(blt cb1.out)
 obtain ⟨s0,s1,s2,s3,s4,s5,s6,s7⟩:=gH cb1.out
 clear bb cb0 hbl lc0 HC
 have HAPP:Hid (∀ v' W2,W2.ownsRow w.heap.size 107 2 v' (0+len) ([]++qV ts)->(W1.alloc (.cells #[] 107)).grownBy W2 (Value.ownBlock (.slice (some (aq W1.heap.size 0)) 0 0))->∃ g cp,v'=.slice (some (aq g 0)) len cp/\Hid (W2.ownsRow w.heap.size 107 2 (.slice (some (aq g 0)) len cp) len (qV ts)/\w.heap.size<g/\g<W2.heap.size)/\Hid (W2.heap[w.heap.size]?=some (.cells #[iv n0,iv n1,iv n2,iv n3,iv n4,iv n5,iv n6,.slice (some (aq b off)) len cap] 24))/\Hid (Below w.heap.size w W2)):=fun v' W2 hown hgrow=>by
  rw [Nat.zero_add,List.nil_append] at hown
  obtain ⟨g,cp,rfl,hg1,hg2⟩:=hown.form h0
  have z:=hgrow.size
  rw [show (W1.alloc (.cells #[] 107)).heap.size=W1.heap.size+1 by simp] at z
  have hk:∀ k,k<W1.heap.size->W2.heap[k]?=W1.heap[k]?:=fun k hk=>(hgrow.block k uT (fun e=>by simp [Value.ownBlock] at e;omega)).trans (uE _ _ _ hk)
  have hcA:=(hk _ lc1).trans cb1.out
  refine ⟨g,cp,rfl,⟨hown,?_,hg2⟩,hcA,⟨hgrow.os.trans hb1.out.os,hgrow.tape.trans hb1.out.tape,hgrow.output.trans hb1.out.output,by have:=hb1.out.size;omega,fun k hk'=>(hk k (by have:=hb1.out.size;omega)).trans (hb1.out.block k hk')⟩⟩
  have hne:g≠w.heap.size:=fun e=>qP hown hcA vO (by rw [← e];rfl)
  omega
 go_wp2_with (first
  | (at_builtin;refine wpList_append_own _ rfl _ _ 22 rfl w.heap.size 107 i0 (.agg #[iv 0,iv 0]) 2 16 Tryz.underlying22 hi hz0 hz1 hz2 rfl vO _ _ _ rfl (World.ownsRow_made W1 #[] 0 uO (by unfold maxLen;omega) rfl) (aq b off) len cap (qV ts) rfl hfl (HNEWS.out _ (hb1.out.alloc uO _)) hone (by unfold maxLen;omega) uO uT ?_
     intro v' W2 hown hgrow _
     obtain ⟨g,cp,rfl,hown,cb2,hb2⟩:=HAPP.out v' W2 hown hgrow
     have f7:=qA cb2.out 7
     obtain ⟨t0,t1,t2,t3,t4,t5,t6,t7⟩:=gH cb2.out
     have lc2:w.heap.size<W2.heap.size:=(blt cb2.out)
     clear hgrow)
  | fail)
 have cb3:Hid ((W2.setCell (aq w.heap.size 7) (.slice (some (aq g 0)) len cp)).heap[w.heap.size]?=some (.cells #[iv n0,iv n1,iv n2,iv n3,iv n4,iv n5,iv n6,.slice (some (aq g 0)) len cp] 24)):=uH (i:=7) cb2.out _
 have hb3:Hid (Below w.heap.size w (W2.setCell (aq w.heap.size 7) (.slice (some (aq g 0)) len cp))):=hb2.out.setCell (p:=(aq w.heap.size 7)) (uA _) _
 have hown3:Hid ((W2.setCell (aq w.heap.size 7) (.slice (some (aq g 0)) len cp)).ownsRow w.heap.size 107 2 (.slice (some (aq g 0)) len cp) len (qV ts)/\w.heap.size<g/\g<(W2.setCell (aq w.heap.size 7) (.slice (some (aq g 0)) len cp)).heap.size):=⟨qG hown.out.1 (fun k hk=>uG _ (aq w.heap.size 7) _ _ (by have e:g=k:=(by simpa [Value.ownBlock] using hk);have:=hown.out.2.1;show k≠w.heap.size;omega)),hown.out.2.1,by have:=hown.out.2.2;simpa [World.setCell] using this⟩
 clear t0 t1 t2 t3 t4 t5 t6 t7 s0 s1 s2 s3 s4 s5 s6 s7 f7 lc2 lc1 cb2 hb2 hown HAPP HNEWS hb1 cb1
 generalize W2.setCell (aq w.heap.size 7) (.slice (some (aq g 0)) len cp)=W3 at cb3 hb3 hown3 ⊢
 refine (Ur W3 0).mono ?_
 rintro e W4 ⟨xt,ot,rfl,hpt,hot,b4⟩
 have lc3:w.heap.size<W3.heap.size:=(blt cb3.out)
 have cb4:Hid (W4.heap[w.heap.size]?=some (.cells #[iv n0,iv n1,iv n2,iv n3,iv n4,iv n5,iv n6,.slice (some (aq g 0)) len cp] 24)):=(b4.block _ lc3).trans cb3.out
 have lc4:w.heap.size<W4.heap.size:=(blt cb4.out)
 obtain ⟨s0,s1,s2,s3,s4,s5,s6,s7⟩:=gH cb4.out
 have HA:Hid (∀ W,Below W4.heap.size W4 W->Ca 36 #[] W fun e w'=>∃ xa oa,e=.returned (.agg #[pt xa 0,.pointer none,iv 0,.slice none 0 0,iv 0])/\Hid (Yd w (w'.alloc (.cells #[iv n0,iv n1,iv n2,iv n3,iv n4,iv n5,iv n6,.slice (some (aq g 0)) len cp,iv 0,iv 0,pt xt 0,.pointer none,iv 0,.slice none 0 0,iv 0,.pointer none,iv 0,.pointer none,iv 0,iv 0,iv 0,.pointer none,iv 0,pt xa 0,.pointer none,iv 0,.slice none 0 0,iv 0] 105)) n0 n1 n2 n3 n4 n5 n6 len ts w'.heap.size)/\Below W4.heap.size W4 w'):=fun W hW=>by
  refine (Jt W).mono ?_
  rintro e W5 ⟨xa,oa,rfl,hpa,hoa,b5⟩
  have h45:Below W4.heap.size W4 W5:=hW.trans (b5.mono hW.size)
  have z3:=hb3.out.size
  have z4:=b4.size
  have z5:=h45.size
  have zW:=hW.size
  have hW3:Below W3.heap.size W3 W5:=b4.trans (h45.mono z4)
  have hal:Below W5.heap.size W5 (W5.alloc (.cells #[iv n0,iv n1,iv n2,iv n3,iv n4,iv n5,iv n6,.slice (some (aq g 0)) len cp,iv 0,iv 0,pt xt 0,.pointer none,iv 0,.slice none 0 0,iv 0,.pointer none,iv 0,.pointer none,iv 0,iv 0,iv 0,.pointer none,iv 0,pt xa 0,.pointer none,iv 0,.slice none 0 0,iv 0] 105)):=(uM _ _).alloc (uA _) _
  have hotlt:=dI hpt
  have hoalt:=dI hpa
  have hg:=hown3.out
  refine ⟨xa,oa,rfl,⟨xt,ot,xa,oa,g,cp,uF W5 _,?_,?_,?_,fun k e=>?_,fun k e=>?_,?_,?_,?_⟩,h45⟩
  ·have q1:=zR hpt h45.size (fun k e=>h45.block k (hotlt k e))
   exact zR q1 hal.size (fun k e=>hal.block k (by have:=hotlt k e;omega))
  ·exact zR hpa hal.size (fun k e=>hal.block k (hoalt k e))
  ·refine qG hg.1 (fun k hk=>?_)
   have e:g=k:=by simpa [Value.ownBlock] using hk
   rw [hal.block k uO]
   exact hW3.block k uO
  ·have h1:=hot k e
   have h2:=hotlt k e
   exact ⟨uO,uO,uO,fun c=>by have:=hoa k c;omega⟩
  ·have h1:=hoa k e
   have h2:=hoalt k e
   exact ⟨uO,uO,uO⟩
  ·omega
  ·omega
  ·exact (hb3.out.trans (hW3.mono z3)).trans (hal.mono uO)
 clear hpt hot hb3 hown3 cb3 lc3
 go_wp2_with fail
 go_region_held3 (fun w'=>w'.cell? (aq w.heap.size 0)=some (iv n0)/\w'.cell? (aq w.heap.size 1)=some (iv n1)/\w'.cell? (aq w.heap.size 2)=some (iv n2)/\w'.cell? (aq w.heap.size 3)=some (iv n3)/\w'.cell? (aq w.heap.size 4)=some (iv n4)/\w'.cell? (aq w.heap.size 5)=some (iv n5)/\w'.cell? (aq w.heap.size 6)=some (iv n6)/\w'.cell? (aq w.heap.size 7)=some (.slice (some (aq g 0)) len cp)) (simp [go_sem, *])
  (first
    | (go_at_call 36;refine (HA.out _ bL).mono ?_;rintro e W5 ⟨xa,oa,rfl,hans,b5⟩
       have cb5:Hid (W5.heap[w.heap.size]?=some (.cells #[iv n0,iv n1,iv n2,iv n3,iv n4,iv n5,iv n6,.slice (some (aq g 0)) len cp] 24)):=(b5.block _ lc4).trans cb4.out
       have lc5:w.heap.size<W5.heap.size:=(blt cb5.out)
       obtain ⟨s0',s1',s2',s3',s4',s5',s6',s7'⟩:=gH cb5.out
       clear b5))
 clear s0 s1 s2 s3 s4 s5 s6 s7 s0' s1' s2' s3' s4' s5' s6' s7' cb4 HA
 go_wp2
 refine uK (v:=.tuple #[pt W5.heap.size 0,iv 0]) (by simp [results,Tryz.results18,go_sem]) rfl ⟨_,rfl,?_⟩
 exact hans.out
theorem Eh {w w':World} {n0 n1 n2 n3 n4 n5 n6:Int} {len x:Nat} {ts:List (Int × Int)} (hl:ts.length=len) (hl4:len<=4) (h:Yd w w' n0 n1 n2 n3 n4 n5 n6 len ts x) :
 ∃ own,QA 0 x ⟨⟨n0,n1,n2,n3,n4,n5,n6,ts⟩,0,[],[]⟩ 0 w' own/\(∀ k,own k->w.heap.size<=k)/\Below w.heap.size w w':=by
 obtain ⟨xt,ot,xa,oa,g,cp,a1,a2,a3,a4,a5,a6,a7,a8,a9⟩:=h
 have hgl:w.heap.size<=g/\g<w'.heap.size:=uJ a4 g rfl
 have hxl:x<w'.heap.size:=(blt a1)
 refine ⟨fun k=>ot k\/oa k\/k=x\/k=g,⟨⟨⟨n0,n1,n2,n3,n4,n5,n6,ts⟩,0,0,0,[],[],[],0,[],[],0,0,[],0,[],[],[],0,some (aq g 0),len,cp,xt,xa⟩,⟨⟨ot,.leaf,none,0,.leaf,.leaf,.leaf,oa,.leaf,none,0⟩,?_⟩,?_,?_,rfl⟩,?_,a9⟩
 ·refine ⟨a1,?_,a2,a3,⟨trivial,rfl⟩,⟨trivial,rfl⟩,⟨trivial,rfl⟩,⟨trivial,rfl⟩,⟨trivial,rfl⟩,World.ownsRow_nil _ _ _ _,World.ownsRow_nil _ _ _ _,fun k e=>?_,fun k e=>?_,fun k e=>?_,fun k e=>?_,fun k e=>?_⟩
  ·refine ⟨⟨hl,by show len<=_;omega⟩,fun _=>⟨g,0,rfl,hgl.2,fun i hi=>?_⟩⟩
   have hi':i<len:=hi
   obtain ⟨f0,f1⟩:=dV ts i uO
   have c0:=a4.cells (g:=g) rfl _ _ f0
   have c1:=a4.cells (g:=g) rfl _ _ f1
   rw [Addr.add_lit] at c0 c1
   exact ⟨c0,by rw [Nat.add_assoc];exact c1⟩
  ·obtain ⟨off,e⟩:=e
   have e':k=g:=by simp at e;exact e.1.symm
   subst e'
   exact ⟨a7,by simp [Value.ownBlock],by simp [Value.ownBlock]⟩
  ·obtain ⟨b1,b2,b3,b4⟩:=a5 k e
   refine ⟨b4,?_⟩
   rintro (c|c|c|c|c|c|c|c|⟨off,c⟩)
   ·exact b2 c
   ·exact c
   ·exact c
   ·exact c
   ·exact c
   ·exact c
   ·simp [Value.ownBlock] at c
   ·simp [Value.ownBlock] at c
   ·have c':(some ((aq g 0):Addr))=some (aq k off):=c
    simp only [Option.some.injEq,Addr.mk.injEq] at c'
    exact b3 c'.1.symm
  ·obtain ⟨b1,b2,b3⟩:=a6 k e
   rintro (c|c|c|c|c|c|c|c|⟨off,c⟩)
   ·exact b2 c
   ·exact c
   ·exact c
   ·exact c
   ·exact c
   ·exact c
   ·simp [Value.ownBlock] at c
   ·simp [Value.ownBlock] at c
   ·have c':(some ((aq g 0):Addr))=some (aq k off):=c
    simp only [Option.some.injEq,Addr.mk.injEq] at c'
    exact b3 c'.1.symm
  ·rcases e with e|e|e
   ·exact .inl e
   ·exact .inr (.inl e)
   ·rcases e with c|c|c|c|c|c|c|c|⟨off,c⟩
    ·exact .inr (.inr (.inl c))
    ·exact c.elim
    ·exact c.elim
    ·exact c.elim
    ·exact c.elim
    ·exact c.elim
    ·simp [Value.ownBlock] at c
    ·simp [Value.ownBlock] at c
    ·have c':(some ((aq g 0):Addr))=some (aq k off):=c
     simp only [Option.some.injEq,Addr.mk.injEq] at c'
     exact .inr (.inr (.inr c'.1.symm))
  ·rcases e with e|e|e|e
   ·exact dI a2 k e
   ·exact dI a3 k e
   ·rw [e];exact hxl
   ·rw [e];exact hgl.2
 ·refine ⟨rfl,rfl,rfl,Int.le_refl _,by unfold xB;simp,fun p=>?_,fun i e=>e.1,fun i hi=>by simp at hi,pX,fun o=>?_,Am,Nf,rfl,rfl,?_,fun o ho=>by simp at ho⟩
  ·constructor
   ·intro e;simp at e
   ·rintro ⟨i,e,_⟩;have:=e.1;simp at this
  ·constructor
   ·intro e;simp at e
   ·rintro ⟨i,e,_⟩;have:=e.1;simp at this
  ·exact cZ Bz (fun st c _ _=>rfl)
 ·refine ⟨by unfold xB;simp,pX,fun j hj=>by simp at hj,fun i j hi=>by simp at hi,fun a ha=>by simp at ha,fun p=>?_⟩
  constructor
  ·intro e;simp at e
  ·rintro ⟨j,hj,_⟩;simp at hj
 ·rintro k (e|e|e|e)
  ·exact (a5 k e).1
  ·exact (a6 k e).1
  ·rw [e];exact a8
  ·rw [e];exact hgl.1
theorem gJ {n:Int} (h:yU n=true):1<=n/\n<=4294967296:=by simpa [yU] using h
theorem ZK:OpenOK ZY where
 no:=by
  intro w n0 n1 n2 n3 n4 n5 n6 a len cap ts ht hc
  refine Sh n0 n1 n2 n3 n4 n5 n6 a len cap w (fun W hW=>?_)
  have:=rI n0 n1 n2 n3 n4 n5 n6 a len cap ts W (ht.below hW (uA _))
  rw [hc] at this
  exact this
 yes:=by
  intro w n0 n1 n2 n3 n4 n5 n6 a len cap ts ht hc
  have hc':=hc
  unfold mZ at hc'
  simp only [List.all_cons,List.all_nil,Bool.and_true,Bool.and_eq_true] at hc'
  obtain ⟨⟨h0,h1,h2,h3,h4,h5,h6⟩,hp⟩:=hc'
  have hlen:1<=ts.length/\ts.length<=4:=by
   unfold jB at hp
   simp only [Bool.and_eq_true,decide_eq_true_eq] at hp
   exact hp.1
  obtain ⟨t1,t2,t3,t4,t5⟩:=id ht
  obtain ⟨b,off,rfl,hb,hcell⟩:=t5 (by intro e;have:=hlen.1;rw [e] at this;simp at this)
  refine (YT n0 n1 n2 n3 n4 n5 n6 b off len cap ts w hb t1 uO ⟨t2,t3⟩ hcell (fun W hW=>?_)).mono ?_
  ·have:=rI n0 n1 n2 n3 n4 n5 n6 (some (aq b off)) len cap ts W (ht.below hW (uA _))
   rw [hc] at this
   exact this
  ·rintro e w' ⟨x,rfl,ha⟩
   obtain ⟨own,p1,p2,p3⟩:=Eh t1 uO ha
   refine ⟨x,own,rfl,⟨p1,⟨⟨fun o ho=>by simp at ho,fun q qs c=>by simp [qK,qZ] at c,gJ h3,gJ h4,gJ h5,gJ h6,gJ h2⟩,?_,?_⟩⟩,p2,p3⟩
   ·have:=(gJ h2).1
    show ((0:Nat):Int)<=n2
    omega
   ·have:=(gJ h6).1
    show ((0:Nat):Int)<=n6
    omega
def bM (w w':World) (x p b n:Nat) (C:Array Value) (T:TypeId) (E:List Value):Prop :=
 ∃ (g cap:Nat) (rm:Int),w'.heap[x]?=some (.cells ((C.setIfInBounds (p+2) (.slice (some (aq g 0)) n cap)).setIfInBounds (p+3) (iv rm)) T (0,0))/\w'.ownsRow 0 142 6 (.slice (some (aq g 0)) n cap) n E/\Same (fun k=>k=x) w w'/\(g=b\/w.heap.size<=g)
theorem Th (x p b n oc:Nat) (C:Array Value) (T:TypeId) (rm:Int) (E:List Value) (w:World) (hx:w.heap[x]?=some (.cells C T)) (h2:C[p+2]?=some (.slice (some (aq b 0)) n oc)) (h3:C[p+3]?=some (iv rm)) (hO:w.ownsRow 0 142 6 (.slice (some (aq b 0)) n oc) n E) (h1:∀ u∈E,u.oneCell'=true) (hl:n * 48+48<=140737488351232) :
 Ca 160 #[pt x p] w fun e w'=>e=.returned (.tuple #[])/\bM w w' x p b n C T E:=by
 have hxw:x<w.heap.size:=(blt hx)
 have k2:w.cell? (aq x (p+2))=some (.slice (some (aq b 0)) n oc):=by rw [uI hx];exact h2
 have k3:w.cell? (aq x (p+3))=some (iv rm):=by rw [uI hx];exact h3
 have f2:=qA hx (p+2)
 have f3:=qA hx (p+3)
 obtain ⟨i0,hi,hz0,hz1,hz2⟩:=info_parts Tryz.infoPOrder
 have HK:Hid (∀ w',Below w.heap.size w w'->bM w w' x p b n C T E):=fun w' hb=>by
  refine ⟨b,oc,rm,?_,qH hO hb (uA _),Same.of_below hb,.inl rfl⟩
  rw [gM h2,gM h3]
  exact (hb.block x hxw).trans hx
 have hbw:b<w.heap.size:=(uJ hO b rfl).2
 have HALL:Hid (∀ W0,Below w.heap.size w W0->W0.heap.size=w.heap.size->W0.cell? (aq x (p+2))=some (.slice (some (aq b 0)) n oc)/\x<W0.heap.size/\Hid (∀ j u,E[j]?=some u->(W0.alloc (.cells #[] 142)).cell? (((aq b 0):Addr).add j)=some u)/\Hid (∀ v' W2,W2.ownsRow W0.heap.size 142 6 v' (0+n) ([]++E)->(W0.alloc (.cells #[] 142)).grownBy W2 (Value.ownBlock (.slice (some (aq W0.heap.size 0)) 0 0))->(v'=.slice none 0 0↔(Value.slice (some (aq W0.heap.size 0)) 0 0)=.slice none 0 0/\n=0)->∃ g cp,v'=.slice (some (aq g 0)) n cp/\W2.cell? (aq x (p+2))=some (.slice (some (aq b 0)) n oc)/\W2.frozen? (aq x (p+2))=false/\W2.frozen? (aq x (p+3))=false/\W2.cell? (aq x (p+3))=some (iv rm)/\x<W2.heap.size/\Hid (∀ r:Int,bM w ((W2.sc x (p+2) (.slice (some (aq g 0)) n cp)).sc x (p+3) (iv r)) x p b n C T E))):=fun W0 hW hsz=>by
  have hx0:=(hW.block x hxw).trans hx
  have hxw0:x<W0.heap.size:=uO
  refine ⟨by rw [uI hx0];exact h2,hxw0,fun j u hu=>?_,fun v' W2 hown hgrow hnil=>?_⟩
  ·have:=(qH hO hW (uA _)).cells (g:=b) rfl j u hu
   rw [Addr.add_lit] at this ⊢
   exact (((uM W0.heap.size W0).alloc (uA _) (.cells #[] 142)).cell (p:=(aq b (0+j))) (by show b<_;omega)).trans this
  ·rw [Nat.zero_add,List.nil_append] at hown
   have hk:∀ k,k<w.heap.size->W2.heap[k]?=w.heap[k]?:=fun k hk=>(hgrow.block k uT (fun e=>by simp [Value.ownBlock] at e;omega)).trans ((uE _ _ _ uO).trans (hW.block k hk))
   have z:=hgrow.size
   rw [show (W0.alloc (.cells #[] 142)).heap.size=W0.heap.size+1 by simp] at z
   rcases hown.2 with ⟨hh,_⟩|⟨g,cp,cur,rfl,hgw,hg,_⟩
   ·have:=(hnil.1 hh).1
    simp at this
   ·have hx2:=(hk x hxw).trans hx
    have hgx:x≠g:=uO
    refine ⟨g,cp,rfl,by rw [uI hx2];exact h2,qA hx2 _,qA hx2 _,by rw [uI hx2];exact h3,(blt hx2),fun r=>⟨g,cp,r,uH (uH hx2 _) _,?_,?_,.inr uO⟩⟩
    ·refine qG (eK hown (Nat.zero_le _)) (fun k hk'=>?_)
     have e:g=k:=by simpa [Value.ownBlock] using hk'
     rw [uG _ (aq x (p+3)) _ _ (show k≠x by omega),uG _ (aq x (p+2)) _ _ (show k≠x by omega)]
    ·have hs0:Same (fun k=>k=x) w W2:=⟨hgrow.os.trans hW.os,hgrow.tape.trans hW.tape,hgrow.output.trans hW.output,uO,fun k hk' _=>hk k hk'⟩
     exact jI (jI hs0 x _ _ rfl) x _ _ rfl
 clear hx h2 h3
 by_cases hr:wrap64 (rm.tdiv 2)<(n:Int)
 ·have dr:decide (wrap64 (rm.tdiv 2)<(n:Int))=true:=by simpa using hr
  go_enter Tryz.func160,Tryz.ntmps160
  go_wp2_with fail
  go_quiet (fail)
  go_wp2
  first|go_end0|refine uK (uR rfl _ _ _) rfl ?_
  exact ⟨rfl,HK.out _ bL⟩
 ·have dr:decide (wrap64 (rm.tdiv 2)<(n:Int))=false:=by simpa using hr
  go_enter Tryz.func160,Tryz.ntmps160
  go_wp2_with fail
  go_quiet (fail)
  obtain ⟨k2',hx0,HNEWS,HAPP⟩:=HALL.out (w.drewN nq) (qY (uM _ _)) rfl
  have hlen:E.length=n * 6:=hO.1
  clear HALL HK hO
  generalize w.drewN nq=W0 at k2' hx0 HNEWS HAPP ⊢
  go_wp2_with (at_builtin;refine wpList_append_own _ rfl _ _ 97 rfl W0.heap.size 142 i0 (.agg #[iv 0,iv 0,iv 0,iv 0,iv 0,iv 0]) 6 48 Tryz.underlying97 hi hz0 hz1 hz2 rfl vO _ _ _ rfl (World.ownsRow_made W0 #[] 0 (uA _) (by unfold maxLen;omega) rfl) (aq b 0) n oc E rfl hlen HNEWS.out h1 (by unfold maxLen;omega) uO vS ?_
               intro v' W2 hown hgrow hnil
               obtain ⟨g,cp,rfl,c2,z2,z3,c3,hx2,hfin⟩:=HAPP.out v' W2 hown hgrow hnil)
  first|go_end0|refine uK (uR rfl _ _ _) rfl ?_
  exact ⟨rfl,hfin.out _⟩
def tY (w w':World) (x q b n:Nat) (C:Array Value) (T:TypeId) (E:List Value):Prop :=
 ∃ (g cap:Nat) (rm:Int),w'.heap[x]?=some (.cells ((C.setIfInBounds (q+3) (.slice (some (aq g 0)) n cap)).setIfInBounds (q+4) (iv rm)) T (0,0))/\w'.ownsRow 0 146 9 (.slice (some (aq g 0)) n cap) n E/\Same (fun k=>k=x) w w'/\(g=b\/w.heap.size<=g)
theorem Nb (x q b n oc:Nat) (C:Array Value) (T:TypeId) (rm:Int) (E:List Value) (w:World) (hx:w.heap[x]?=some (.cells C T)) (h2:C[q+3]?=some (.slice (some (aq b 0)) n oc)) (h3:C[q+4]?=some (iv rm)) (hO:w.ownsRow 0 146 9 (.slice (some (aq b 0)) n oc) n E) (h1:∀ u∈E,u.oneCell'=true) (hl:n * 72+72<=140737488351232) :
 Ca 138 #[pt x q] w fun e w'=>e=.returned (.tuple #[])/\tY w w' x q b n C T E:=by
 have hxw:x<w.heap.size:=(blt hx)
 have k2:w.cell? (aq x (q+3))=some (.slice (some (aq b 0)) n oc):=by rw [uI hx];exact h2
 have k3:w.cell? (aq x (q+4))=some (iv rm):=by rw [uI hx];exact h3
 have f2:=qA hx (q+3)
 have f3:=qA hx (q+4)
 obtain ⟨i0,hi,hz0,hz1,hz2⟩:=info_parts Tryz.infoPAnswer
 have HK:Hid (∀ w',Below w.heap.size w w'->tY w w' x q b n C T E):=fun w' hb=>by
  refine ⟨b,oc,rm,?_,qH hO hb (uA _),Same.of_below hb,.inl rfl⟩
  rw [gM h2,gM h3]
  exact (hb.block x hxw).trans hx
 have hbw:b<w.heap.size:=(uJ hO b rfl).2
 have HALL:Hid (∀ W0,Below w.heap.size w W0->W0.heap.size=w.heap.size->W0.cell? (aq x (q+3))=some (.slice (some (aq b 0)) n oc)/\x<W0.heap.size/\Hid (∀ j u,E[j]?=some u->(W0.alloc (.cells #[] 146)).cell? (((aq b 0):Addr).add j)=some u)/\Hid (∀ v' W2,W2.ownsRow W0.heap.size 146 9 v' (0+n) ([]++E)->(W0.alloc (.cells #[] 146)).grownBy W2 (Value.ownBlock (.slice (some (aq W0.heap.size 0)) 0 0))->(v'=.slice none 0 0↔(Value.slice (some (aq W0.heap.size 0)) 0 0)=.slice none 0 0/\n=0)->∃ g cp,v'=.slice (some (aq g 0)) n cp/\W2.cell? (aq x (q+3))=some (.slice (some (aq b 0)) n oc)/\W2.frozen? (aq x (q+3))=false/\W2.frozen? (aq x (q+4))=false/\W2.cell? (aq x (q+4))=some (iv rm)/\x<W2.heap.size/\Hid (∀ r:Int,tY w ((W2.sc x (q+3) (.slice (some (aq g 0)) n cp)).sc x (q+4) (iv r)) x q b n C T E))):=fun W0 hW hsz=>by
  have hx0:=(hW.block x hxw).trans hx
  have hxw0:x<W0.heap.size:=uO
  refine ⟨by rw [uI hx0];exact h2,hxw0,fun j u hu=>?_,fun v' W2 hown hgrow hnil=>?_⟩
  ·have:=(qH hO hW (uA _)).cells (g:=b) rfl j u hu
   rw [Addr.add_lit] at this ⊢
   exact (((uM W0.heap.size W0).alloc (uA _) (.cells #[] 146)).cell (p:=(aq b (0+j))) (by show b<_;omega)).trans this
  ·rw [Nat.zero_add,List.nil_append] at hown
   have hk:∀ k,k<w.heap.size->W2.heap[k]?=w.heap[k]?:=fun k hk=>(hgrow.block k uT (fun e=>by simp [Value.ownBlock] at e;omega)).trans ((uE _ _ _ uO).trans (hW.block k hk))
   have z:=hgrow.size
   rw [show (W0.alloc (.cells #[] 146)).heap.size=W0.heap.size+1 by simp] at z
   rcases hown.2 with ⟨hh,_⟩|⟨g,cp,cur,rfl,hgw,hg,_⟩
   ·have:=(hnil.1 hh).1
    simp at this
   ·have hx2:=(hk x hxw).trans hx
    have hgx:x≠g:=uO
    refine ⟨g,cp,rfl,by rw [uI hx2];exact h2,qA hx2 _,qA hx2 _,by rw [uI hx2];exact h3,(blt hx2),fun r=>⟨g,cp,r,uH (uH hx2 _) _,?_,?_,.inr uO⟩⟩
    ·refine qG (eK hown (Nat.zero_le _)) (fun k hk'=>?_)
     have e:g=k:=by simpa [Value.ownBlock] using hk'
     rw [uG _ (aq x (q+4)) _ _ (show k≠x by omega),uG _ (aq x (q+3)) _ _ (show k≠x by omega)]
    ·have hs0:Same (fun k=>k=x) w W2:=⟨hgrow.os.trans hW.os,hgrow.tape.trans hW.tape,hgrow.output.trans hW.output,uO,fun k hk' _=>hk k hk'⟩
     exact jI (jI hs0 x _ _ rfl) x _ _ rfl
 clear hx h2 h3
 by_cases hr:wrap64 (rm.tdiv 2)<(n:Int)
 ·have dr:decide (wrap64 (rm.tdiv 2)<(n:Int))=true:=by simpa using hr
  go_enter Tryz.func138,Tryz.ntmps138
  go_wp2_with fail
  go_quiet (fail)
  go_wp2
  first|go_end0|refine uK (uR rfl _ _ _) rfl ?_
  exact ⟨rfl,HK.out _ bL⟩
 ·have dr:decide (wrap64 (rm.tdiv 2)<(n:Int))=false:=by simpa using hr
  go_enter Tryz.func138,Tryz.ntmps138
  go_wp2_with fail
  go_quiet (fail)
  obtain ⟨k2',hx0,HNEWS,HAPP⟩:=HALL.out (w.drewN nq) (qY (uM _ _)) rfl
  have hlen:E.length=n * 9:=hO.1
  clear HALL HK hO
  generalize w.drewN nq=W0 at k2' hx0 HNEWS HAPP ⊢
  go_wp2_with (at_builtin;refine wpList_append_own _ rfl _ _ 93 rfl W0.heap.size 146 i0 (.agg #[iv 0,iv 0,iv 0,iv 0,iv 0,iv 0,iv 0,iv 0,iv 0]) 9 72 Tryz.underlying93 hi hz0 hz1 hz2 rfl vO _ _ _ rfl (World.ownsRow_made W0 #[] 0 (uA _) (by unfold maxLen;omega) rfl) (aq b 0) n oc E rfl hlen HNEWS.out h1 (by unfold maxLen;omega) uO vS ?_
               intro v' W2 hown hgrow hnil
               obtain ⟨g,cp,rfl,c2,z2,z3,c3,hx2,hfin⟩:=HAPP.out v' W2 hown hgrow hnil)
  first|go_end0|refine uK (uR rfl _ _ _) rfl ?_
  exact ⟨rfl,hfin.out _⟩
