import Derived.Test.YtfhncfghblkgeaaGreatL27
set_option maxRecDepth 100000
set_option maxHeartbeats 2000000
namespace Go.Proofs.YtfhncfghblkgeaaGreat
open Go.RowKit
theorem jwk {w:World} {B:Nat} {v:Value} {ms:List Nat} (h:w.ownsRow B 3 1 v ms.length (jpk ms)):∃ va vc,v=.slice va ms.length vc/\(0<ms.length->∃ g,va=some (aq g 0)/\g<w.heap.size/\∀ i,i<ms.length->w.cell? (aq g i)=some (iv (ms.getD i 0:Int))):=by
 rcases h.2 with ⟨rfl,h0⟩|⟨g,cap,cur,rfl,hg,hh,_⟩
 ·exact ⟨none,0,by rw [h0],fun hp=>by omega⟩
 ·refine ⟨_,_,rfl,fun _=>⟨g,rfl,(blt hh),fun i hi=>?_⟩⟩
  have:=h.cells (g:=g) rfl i (iv (ms.getD i 0:Int)) (by simp [jpk,List.getD,List.getElem?_eq_getElem hi])
  simpa [Addr.add_lit] using this
theorem jry (b off len cap:Nat) (x:Int) (tl:List Int) (w:World) (h:ja6 w (some (aq b off)) len cap (x :: tl)) :
 Calls Tryz.prog 73 #[.slice (some (aq b off)) len cap] w fun e w'=>∃ k t c u o err,e=.returned (.tuple #[.agg #[iv k,iv t,iv c,iv u,iv o],iv err])/\UN (x :: tl) k t c u o err/\Below w.heap.size w w':=by
 have HS:Hid (ja6 w (some (aq b off)) len cap (x :: tl)):=h
 have hxb:=h.2.2.2.1 x (by simp)
 obtain ⟨hx0,hx1⟩:=hxb
 obtain ⟨hl,hlc,_,hc0,_⟩:=je4 h
 have hbw:b<w.heap.size:=World.block_lt_of_cell? w _ hc0
 have hne:((len:Int)==0)=false:=by simp;omega
 have hpos:(0:Int)<(len:Int):=by omega
 clear h
 go_enter Tryz.func73,Tryz.ntmps73
 go_wp2_with fail
 refine (qaq b off len cap x tl _ (jaa HS.out ((Below.refl _ _).alloc (Nat.le_refl _) _))).mono ?_
 rintro e w1 ⟨v1,ms,rfl,hown,_,hrn,b1⟩
 have HRN:Hid (RNS tl ms):=hrn
 have s1:w.heap.size<w1.heap.size:=by have:=b1.size;simp at this;omega
 have w01:Below w.heap.size w w1:=((Below.refl _ _).alloc (Nat.le_refl _) _).trans (b1.mono (by simp))
 have hcx:w1.cell? (aq b off)=some (.int .u8 x):=(w01.cell (p:=(aq b off)) hbw).trans hc0
 have hbw1:b<w1.heap.size:=by omega
 have p0:∀ i,i<5->w1.frozen? (aq w.heap.size i)=false:=fun i hi=>(b1.frozen (p:=(aq w.heap.size i)) (by simp)).trans (by simp [go_sem])
 have p1:∀ i,i<5->w1.cell? (aq w.heap.size i)=some (iv 0):=fun i hi=>(b1.cell (p:=(aq w.heap.size i)) (by simp)).trans (by match i,hi with
  | 0,_=>simp [go_sem]
  | 1,_=>simp [go_sem]
  | 2,_=>simp [go_sem]
  | 3,_=>simp [go_sem]
  | 4,_=>simp [go_sem])
 obtain ⟨va,vc,rfl,hva⟩:=jwk hown
 clear hrn hown b1
 by_cases h3:ms.length=3
 ·obtain ⟨g,rfl,hgw,hgc⟩:=hva (by omega)
  obtain ⟨m0,m1,m2,rfl⟩:∃ m0 m1 m2,ms=[m0,m1,m2]:=by
   match ms,h3 with
   | [m0,m1,m2],_=>exact ⟨m0,m1,m2,rfl⟩
  have g0:w1.cell? (aq g 0)=some (iv m0):=hgc 0 (by simp)
  have g1:w1.cell? (aq g 1)=some (iv m1):=hgc 1 (by simp)
  have g2':w1.cell? (aq g 2)=some (iv m2):=hgc 2 (by simp)
  clear hgc hva h3
  by_cases hx:x=1
  ·subst hx
   have HREQ:Hid (jhr 1 [m0,m1,m2]=(1,(m0:Int),(m1:Int),(m2:Int),0)):=rfl
   have HU2:Hid (∀ k' t' c' u' o':Int,isB k' t' c' u' o'=true->1 :: tl=ja8 k' (jaj k' t' c' u' o')->((1:Int),(m0:Int),(m1:Int),(m2:Int),(0:Int))=(k',t',c',u',o')):=fun k' t' c' u' o' h e=>by rw [← jhy HRN.out h e];exact HREQ.out.symm
   by_cases hib:isB 1 m0 m1 m2 0=true
   ·have HIB:Hid (isB 1 m0 m1 m2 0=true):=hib
    clear hib
    go_wp2_with fail
    refine (jey 1 m0 m1 m2 0 _ HIB.out).mono ?_
    rintro e w2 ⟨v2,rfl,hv2,b2⟩
    obtain ⟨g2,cap2,rfl,hs2⟩:=jcg hv2 (jcz HIB.out)
    have HS2:Hid (ja6 w2 (some (aq g2 0)) (ja8 1 (jaj 1 m0 m1 m2 0)).length cap2 (ja8 1 (jaj 1 m0 m1 m2 0))):=hs2
    have w02:Below w.heap.size w w2:=(w01.alloc (Nat.le_of_lt s1) _).trans (b2.mono (by simp;omega))
    have HSB:Hid (ja6 w2 (some (aq b off)) len cap (1 :: tl)):=jaa HS.out w02
    have q0:∀ i,i<5->w2.frozen? (aq w.heap.size i)=false:=fun i hi=>(b2.frozen (p:=(aq w.heap.size i)) (by simp;omega)).trans ((World.frozen?_of_block (a:=(aq w.heap.size i)) (Below.heap_alloc w1 _ w.heap.size s1)).trans (p0 i hi))
    have q1:∀ i,i<5->w2.cell? (aq w.heap.size i)=some (iv 0):=fun i hi=>(b2.cell (p:=(aq w.heap.size i)) (by simp;omega)).trans ((World.cell?_of_block (a:=(aq w.heap.size i)) (Below.heap_alloc w1 _ w.heap.size s1)).trans (p1 i hi))
    have hr2:Hid (w2.heap[w1.heap.size]?=some (.cells #[iv 1,iv m0,iv m1,iv m2,iv 0] 46 (0,0))):=(b2.block w1.heap.size (by simp)).trans (heap_alloc_new w1 _)
    obtain ⟨y0,y1,y2,y3,y4⟩:=jd9 hr2.out
    clear hv2 hs2 b2 p0 p1
    go_wp2_with fail
    refine (jcn _ _ _ _ _ _ _ _ _ HS2.out HSB.out).mono ?_
    rintro e w3 ⟨rfl,rfl⟩
    by_cases hsm:ja8 1 (jaj 1 m0 m1 m2 0)=1 :: tl
    ·have HUN:Hid (UN (1 :: tl) 1 m0 m1 m2 0 0):=.inl ⟨rfl,HIB.out,hsm.symm⟩
     rw [decide_eq_true hsm]
     clear hsm
     go_wp2
     refine bodyPost_ret (v:=.tuple #[.agg #[iv 1,iv m0,iv m1,iv m2,iv 0],iv 0]) (by simp [results,Tryz.results73,go_sem,q1]) rfl ⟨1,m0,m1,m2,0,0,rfl,HUN.out,?_⟩
     exact jab w02 (Nat.le_refl _)
    ·have HUN:Hid (UN (1 :: tl) 0 0 0 0 0 2):=.inr ⟨rfl,rfl,rfl,rfl,rfl,rfl,fun k' t' c' u' o' h e=>by
          have e5:=HU2.out k' t' c' u' o' h e
          simp only [Prod.mk.injEq] at e5
          obtain ⟨rfl,rfl,rfl,rfl,rfl⟩:=e5
          exact hsm e.symm⟩
     rw [decide_eq_false hsm]
     clear hsm
     go_wp2
     refine bodyPost_ret (v:=.tuple #[.agg #[iv 0,iv 0,iv 0,iv 0,iv 0],iv 2]) (by simp [results,Tryz.results73,go_sem,q1]) rfl ⟨0,0,0,0,0,2,rfl,HUN.out,?_⟩
     exact jab w02 (Nat.le_refl _)
   ·have HIB:Hid (isB 1 m0 m1 m2 0=false):=by unfold Hid;simpa using hib
    have HUN:Hid (UN (1 :: tl) 0 0 0 0 0 2):=.inr ⟨rfl,rfl,rfl,rfl,rfl,rfl,fun k' t' c' u' o' h e=>by
     have e5:=HU2.out k' t' c' u' o' h e
     simp only [Prod.mk.injEq] at e5
     obtain ⟨rfl,rfl,rfl,rfl,rfl⟩:=e5
     exact hib h⟩
    clear hib
    go_wp2_with fail
    refine (jgb 1 m0 m1 m2 0 _ HIB.out).mono ?_
    rintro e w2 ⟨rfl,b2⟩
    have w02:Below w.heap.size w w2:=(w01.alloc (Nat.le_of_lt s1) _).trans (b2.mono (by simp;omega))
    have HSB:Hid (ja6 w2 (some (aq b off)) len cap (1 :: tl)):=jaa HS.out w02
    have q0:∀ i,i<5->w2.frozen? (aq w.heap.size i)=false:=fun i hi=>(b2.frozen (p:=(aq w.heap.size i)) (by simp;omega)).trans ((World.frozen?_of_block (a:=(aq w.heap.size i)) (Below.heap_alloc w1 _ w.heap.size s1)).trans (p0 i hi))
    have q1:∀ i,i<5->w2.cell? (aq w.heap.size i)=some (iv 0):=fun i hi=>(b2.cell (p:=(aq w.heap.size i)) (by simp;omega)).trans ((World.cell?_of_block (a:=(aq w.heap.size i)) (Below.heap_alloc w1 _ w.heap.size s1)).trans (p1 i hi))
    clear b2 p0 p1
    go_wp2_with fail
    refine (jcn _ _ _ _ _ _ [] _ _ ⟨rfl,Nat.le_refl _,Nat.zero_le _,fun _ h=>by simp at h,fun h=>absurd rfl h⟩ HSB.out).mono ?_
    rintro e w3 ⟨rfl,rfl⟩
    go_wp2
    refine bodyPost_ret (v:=.tuple #[.agg #[iv 0,iv 0,iv 0,iv 0,iv 0],iv 2]) (by simp [results,Tryz.results73,go_sem,q1]) rfl ⟨0,0,0,0,0,2,rfl,HUN.out,?_⟩
    exact jab w02 (Nat.le_refl _)
  ·have hx':(x==1)=false:=by simpa using hx
   have HREQ:Hid (jhr x [m0,m1,m2]=(x,(m0:Int),(m1:Int),0,(m2:Int))):=by unfold Hid jhr;simp [hx]
   by_cases hx4:x=4
   ·subst hx4
    have HU2:Hid (∀ k' t' c' u' o':Int,isB k' t' c' u' o'=true->4 :: tl=ja8 k' (jaj k' t' c' u' o')->((4:Int),(m0:Int),(m1:Int),(0:Int),(m2:Int))=(k',t',c',u',o')):=fun k' t' c' u' o' h e=>by rw [← jhy HRN.out h e];exact HREQ.out.symm
    by_cases hib:isB 4 m0 m1 0 m2=true
    ·have HIB:Hid (isB 4 m0 m1 0 m2=true):=hib
     clear hib
     go_wp2_with fail
     refine (jey 4 m0 m1 0 m2 _ HIB.out).mono ?_
     rintro e w2 ⟨v2,rfl,hv2,b2⟩
     obtain ⟨g2,cap2,rfl,hs2⟩:=jcg hv2 (jcz HIB.out)
     have HS2:Hid (ja6 w2 (some (aq g2 0)) (ja8 4 (jaj 4 m0 m1 0 m2)).length cap2 (ja8 4 (jaj 4 m0 m1 0 m2))):=hs2
     have w02:Below w.heap.size w w2:=(w01.alloc (Nat.le_of_lt s1) _).trans (b2.mono (by simp;omega))
     have HSB:Hid (ja6 w2 (some (aq b off)) len cap (4 :: tl)):=jaa HS.out w02
     have q0:∀ i,i<5->w2.frozen? (aq w.heap.size i)=false:=fun i hi=>(b2.frozen (p:=(aq w.heap.size i)) (by simp;omega)).trans ((World.frozen?_of_block (a:=(aq w.heap.size i)) (Below.heap_alloc w1 _ w.heap.size s1)).trans (p0 i hi))
     have q1:∀ i,i<5->w2.cell? (aq w.heap.size i)=some (iv 0):=fun i hi=>(b2.cell (p:=(aq w.heap.size i)) (by simp;omega)).trans ((World.cell?_of_block (a:=(aq w.heap.size i)) (Below.heap_alloc w1 _ w.heap.size s1)).trans (p1 i hi))
     have hr2:Hid (w2.heap[w1.heap.size]?=some (.cells #[iv 4,iv m0,iv m1,iv 0,iv m2] 46 (0,0))):=(b2.block w1.heap.size (by simp)).trans (heap_alloc_new w1 _)
     obtain ⟨y0,y1,y2,y3,y4⟩:=jd9 hr2.out
     clear hv2 hs2 b2 p0 p1
     go_wp2_with fail
     refine (jcn _ _ _ _ _ _ _ _ _ HS2.out HSB.out).mono ?_
     rintro e w3 ⟨rfl,rfl⟩
     by_cases hsm:ja8 4 (jaj 4 m0 m1 0 m2)=4 :: tl
     ·have HUN:Hid (UN (4 :: tl) 4 m0 m1 0 m2 0):=.inl ⟨rfl,HIB.out,hsm.symm⟩
      rw [decide_eq_true hsm]
      clear hsm
      go_wp2
      refine bodyPost_ret (v:=.tuple #[.agg #[iv 4,iv m0,iv m1,iv 0,iv m2],iv 0]) (by simp [results,Tryz.results73,go_sem,q1]) rfl ⟨4,m0,m1,0,m2,0,rfl,HUN.out,?_⟩
      exact jab w02 (Nat.le_refl _)
     ·have HUN:Hid (UN (4 :: tl) 0 0 0 0 0 2):=.inr ⟨rfl,rfl,rfl,rfl,rfl,rfl,fun k' t' c' u' o' h e=>by
           have e5:=HU2.out k' t' c' u' o' h e
           simp only [Prod.mk.injEq] at e5
           obtain ⟨rfl,rfl,rfl,rfl,rfl⟩:=e5
           exact hsm e.symm⟩
      rw [decide_eq_false hsm]
      clear hsm
      go_wp2
      refine bodyPost_ret (v:=.tuple #[.agg #[iv 0,iv 0,iv 0,iv 0,iv 0],iv 2]) (by simp [results,Tryz.results73,go_sem,q1]) rfl ⟨0,0,0,0,0,2,rfl,HUN.out,?_⟩
      exact jab w02 (Nat.le_refl _)
    ·have HIB:Hid (isB 4 m0 m1 0 m2=false):=by unfold Hid;simpa using hib
     have HUN:Hid (UN (4 :: tl) 0 0 0 0 0 2):=.inr ⟨rfl,rfl,rfl,rfl,rfl,rfl,fun k' t' c' u' o' h e=>by
          have e5:=HU2.out k' t' c' u' o' h e
          simp only [Prod.mk.injEq] at e5
          obtain ⟨rfl,rfl,rfl,rfl,rfl⟩:=e5
          exact hib h⟩
     clear hib
     go_wp2_with fail
     refine (jgb 4 m0 m1 0 m2 _ HIB.out).mono ?_
     rintro e w2 ⟨rfl,b2⟩
     have w02:Below w.heap.size w w2:=(w01.alloc (Nat.le_of_lt s1) _).trans (b2.mono (by simp;omega))
     have HSB:Hid (ja6 w2 (some (aq b off)) len cap (4 :: tl)):=jaa HS.out w02
     have q0:∀ i,i<5->w2.frozen? (aq w.heap.size i)=false:=fun i hi=>(b2.frozen (p:=(aq w.heap.size i)) (by simp;omega)).trans ((World.frozen?_of_block (a:=(aq w.heap.size i)) (Below.heap_alloc w1 _ w.heap.size s1)).trans (p0 i hi))
     have q1:∀ i,i<5->w2.cell? (aq w.heap.size i)=some (iv 0):=fun i hi=>(b2.cell (p:=(aq w.heap.size i)) (by simp;omega)).trans ((World.cell?_of_block (a:=(aq w.heap.size i)) (Below.heap_alloc w1 _ w.heap.size s1)).trans (p1 i hi))
     clear b2 p0 p1
     go_wp2_with fail
     refine (jcn _ _ _ _ _ _ [] _ _ ⟨rfl,Nat.le_refl _,Nat.zero_le _,fun _ h=>by simp at h,fun h=>absurd rfl h⟩ HSB.out).mono ?_
     rintro e w3 ⟨rfl,rfl⟩
     go_wp2
     refine bodyPost_ret (v:=.tuple #[.agg #[iv 0,iv 0,iv 0,iv 0,iv 0],iv 2]) (by simp [results,Tryz.results73,go_sem,q1]) rfl ⟨0,0,0,0,0,2,rfl,HUN.out,?_⟩
     exact jab w02 (Nat.le_refl _)
   ·have hx4':(x==4)=false:=by simpa using hx4
    have HU2:Hid (∀ k' t' c' u' o':Int,isB k' t' c' u' o'=true->x :: tl=ja8 k' (jaj k' t' c' u' o')->((x:Int),(m0:Int),(m1:Int),(0:Int),(m2:Int))=(k',t',c',u',o')):=fun k' t' c' u' o' h e=>by rw [← jhy HRN.out h e];exact HREQ.out.symm
    by_cases hib:isB x m0 m1 0 m2=true
    ·have HIB:Hid (isB x m0 m1 0 m2=true):=hib
     clear hib
     go_wp2_with fail
     refine (jey x m0 m1 0 m2 _ HIB.out).mono ?_
     rintro e w2 ⟨v2,rfl,hv2,b2⟩
     obtain ⟨g2,cap2,rfl,hs2⟩:=jcg hv2 (jcz HIB.out)
     have HS2:Hid (ja6 w2 (some (aq g2 0)) (ja8 x (jaj x m0 m1 0 m2)).length cap2 (ja8 x (jaj x m0 m1 0 m2))):=hs2
     have w02:Below w.heap.size w w2:=(w01.alloc (Nat.le_of_lt s1) _).trans (b2.mono (by simp;omega))
     have HSB:Hid (ja6 w2 (some (aq b off)) len cap (x :: tl)):=jaa HS.out w02
     have q0:∀ i,i<5->w2.frozen? (aq w.heap.size i)=false:=fun i hi=>(b2.frozen (p:=(aq w.heap.size i)) (by simp;omega)).trans ((World.frozen?_of_block (a:=(aq w.heap.size i)) (Below.heap_alloc w1 _ w.heap.size s1)).trans (p0 i hi))
     have q1:∀ i,i<5->w2.cell? (aq w.heap.size i)=some (iv 0):=fun i hi=>(b2.cell (p:=(aq w.heap.size i)) (by simp;omega)).trans ((World.cell?_of_block (a:=(aq w.heap.size i)) (Below.heap_alloc w1 _ w.heap.size s1)).trans (p1 i hi))
     have hr2:Hid (w2.heap[w1.heap.size]?=some (.cells #[iv x,iv m0,iv m1,iv 0,iv m2] 46 (0,0))):=(b2.block w1.heap.size (by simp)).trans (heap_alloc_new w1 _)
     obtain ⟨y0,y1,y2,y3,y4⟩:=jd9 hr2.out
     clear hv2 hs2 b2 p0 p1
     go_wp2_with fail
     refine (jcn _ _ _ _ _ _ _ _ _ HS2.out HSB.out).mono ?_
     rintro e w3 ⟨rfl,rfl⟩
     by_cases hsm:ja8 x (jaj x m0 m1 0 m2)=x :: tl
     ·have HUN:Hid (UN (x :: tl) x m0 m1 0 m2 0):=.inl ⟨rfl,HIB.out,hsm.symm⟩
      rw [decide_eq_true hsm]
      clear hsm
      go_wp2
      refine bodyPost_ret (v:=.tuple #[.agg #[iv x,iv m0,iv m1,iv 0,iv m2],iv 0]) (by simp [results,Tryz.results73,go_sem,q1]) rfl ⟨x,m0,m1,0,m2,0,rfl,HUN.out,?_⟩
      exact jab w02 (Nat.le_refl _)
     ·have HUN:Hid (UN (x :: tl) 0 0 0 0 0 2):=.inr ⟨rfl,rfl,rfl,rfl,rfl,rfl,fun k' t' c' u' o' h e=>by
           have e5:=HU2.out k' t' c' u' o' h e
           simp only [Prod.mk.injEq] at e5
           obtain ⟨rfl,rfl,rfl,rfl,rfl⟩:=e5
           exact hsm e.symm⟩
      rw [decide_eq_false hsm]
      clear hsm
      go_wp2
      refine bodyPost_ret (v:=.tuple #[.agg #[iv 0,iv 0,iv 0,iv 0,iv 0],iv 2]) (by simp [results,Tryz.results73,go_sem,q1]) rfl ⟨0,0,0,0,0,2,rfl,HUN.out,?_⟩
      exact jab w02 (Nat.le_refl _)
    ·have HIB:Hid (isB x m0 m1 0 m2=false):=by unfold Hid;simpa using hib
     have HUN:Hid (UN (x :: tl) 0 0 0 0 0 2):=.inr ⟨rfl,rfl,rfl,rfl,rfl,rfl,fun k' t' c' u' o' h e=>by
          have e5:=HU2.out k' t' c' u' o' h e
          simp only [Prod.mk.injEq] at e5
          obtain ⟨rfl,rfl,rfl,rfl,rfl⟩:=e5
          exact hib h⟩
     clear hib
     go_wp2_with fail
     refine (jgb x m0 m1 0 m2 _ HIB.out).mono ?_
     rintro e w2 ⟨rfl,b2⟩
     have w02:Below w.heap.size w w2:=(w01.alloc (Nat.le_of_lt s1) _).trans (b2.mono (by simp;omega))
     have HSB:Hid (ja6 w2 (some (aq b off)) len cap (x :: tl)):=jaa HS.out w02
     have q0:∀ i,i<5->w2.frozen? (aq w.heap.size i)=false:=fun i hi=>(b2.frozen (p:=(aq w.heap.size i)) (by simp;omega)).trans ((World.frozen?_of_block (a:=(aq w.heap.size i)) (Below.heap_alloc w1 _ w.heap.size s1)).trans (p0 i hi))
     have q1:∀ i,i<5->w2.cell? (aq w.heap.size i)=some (iv 0):=fun i hi=>(b2.cell (p:=(aq w.heap.size i)) (by simp;omega)).trans ((World.cell?_of_block (a:=(aq w.heap.size i)) (Below.heap_alloc w1 _ w.heap.size s1)).trans (p1 i hi))
     clear b2 p0 p1
     go_wp2_with fail
     refine (jcn _ _ _ _ _ _ [] _ _ ⟨rfl,Nat.le_refl _,Nat.zero_le _,fun _ h=>by simp at h,fun h=>absurd rfl h⟩ HSB.out).mono ?_
     rintro e w3 ⟨rfl,rfl⟩
     go_wp2
     refine bodyPost_ret (v:=.tuple #[.agg #[iv 0,iv 0,iv 0,iv 0,iv 0],iv 2]) (by simp [results,Tryz.results73,go_sem,q1]) rfl ⟨0,0,0,0,0,2,rfl,HUN.out,?_⟩
     exact jab w02 (Nat.le_refl _)
 ·have h3':((ms.length:Int)==3)=false:=by simp;omega
  by_cases hx4:x=4
  ·subst hx4
   by_cases h2:ms.length=2
   ·obtain ⟨g,rfl,hgw,hgc⟩:=hva (by omega)
    obtain ⟨m0,m1,rfl⟩:∃ m0 m1,ms=[m0,m1]:=by
     match ms,h2 with
     | [m0,m1],_=>exact ⟨m0,m1,rfl⟩
    have g0:w1.cell? (aq g 0)=some (iv m0):=hgc 0 (by simp)
    have g1:w1.cell? (aq g 1)=some (iv m1):=hgc 1 (by simp)
    clear hgc hva h3 h3' h2
    have HREQ:Hid (jhr 4 [m0,m1]=(4,0,(m0:Int),0,(m1:Int))):=rfl
    have HU2:Hid (∀ k' t' c' u' o':Int,isB k' t' c' u' o'=true->4 :: tl=ja8 k' (jaj k' t' c' u' o')->((4:Int),(0:Int),(m0:Int),(0:Int),(m1:Int))=(k',t',c',u',o')):=fun k' t' c' u' o' h e=>by rw [← jhy HRN.out h e];exact HREQ.out.symm
    by_cases hib:isB 4 0 m0 0 m1=true
    ·have HIB:Hid (isB 4 0 m0 0 m1=true):=hib
     clear hib
     go_wp2_with fail
     refine (jey 4 0 m0 0 m1 _ HIB.out).mono ?_
     rintro e w2 ⟨v2,rfl,hv2,b2⟩
     obtain ⟨g2,cap2,rfl,hs2⟩:=jcg hv2 (jcz HIB.out)
     have HS2:Hid (ja6 w2 (some (aq g2 0)) (ja8 4 (jaj 4 0 m0 0 m1)).length cap2 (ja8 4 (jaj 4 0 m0 0 m1))):=hs2
     have w02:Below w.heap.size w w2:=(w01.alloc (Nat.le_of_lt s1) _).trans (b2.mono (by simp;omega))
     have HSB:Hid (ja6 w2 (some (aq b off)) len cap (4 :: tl)):=jaa HS.out w02
     have q0:∀ i,i<5->w2.frozen? (aq w.heap.size i)=false:=fun i hi=>(b2.frozen (p:=(aq w.heap.size i)) (by simp;omega)).trans ((World.frozen?_of_block (a:=(aq w.heap.size i)) (Below.heap_alloc w1 _ w.heap.size s1)).trans (p0 i hi))
     have q1:∀ i,i<5->w2.cell? (aq w.heap.size i)=some (iv 0):=fun i hi=>(b2.cell (p:=(aq w.heap.size i)) (by simp;omega)).trans ((World.cell?_of_block (a:=(aq w.heap.size i)) (Below.heap_alloc w1 _ w.heap.size s1)).trans (p1 i hi))
     have hr2:Hid (w2.heap[w1.heap.size]?=some (.cells #[iv 4,iv 0,iv m0,iv 0,iv m1] 46 (0,0))):=(b2.block w1.heap.size (by simp)).trans (heap_alloc_new w1 _)
     obtain ⟨y0,y1,y2,y3,y4⟩:=jd9 hr2.out
     clear hv2 hs2 b2 p0 p1
     go_wp2_with fail
     refine (jcn _ _ _ _ _ _ _ _ _ HS2.out HSB.out).mono ?_
     rintro e w3 ⟨rfl,rfl⟩
     by_cases hsm:ja8 4 (jaj 4 0 m0 0 m1)=4 :: tl
     ·have HUN:Hid (UN (4 :: tl) 4 0 m0 0 m1 0):=.inl ⟨rfl,HIB.out,hsm.symm⟩
      rw [decide_eq_true hsm]
      clear hsm
      go_wp2
      refine bodyPost_ret (v:=.tuple #[.agg #[iv 4,iv 0,iv m0,iv 0,iv m1],iv 0]) (by simp [results,Tryz.results73,go_sem,q1]) rfl ⟨4,0,m0,0,m1,0,rfl,HUN.out,?_⟩
      exact jab w02 (Nat.le_refl _)
     ·have HUN:Hid (UN (4 :: tl) 0 0 0 0 0 2):=.inr ⟨rfl,rfl,rfl,rfl,rfl,rfl,fun k' t' c' u' o' h e=>by
       have e5:=HU2.out k' t' c' u' o' h e
       simp only [Prod.mk.injEq] at e5
       obtain ⟨rfl,rfl,rfl,rfl,rfl⟩:=e5
       exact hsm e.symm⟩
      rw [decide_eq_false hsm]
      clear hsm
      go_wp2
      refine bodyPost_ret (v:=.tuple #[.agg #[iv 0,iv 0,iv 0,iv 0,iv 0],iv 2]) (by simp [results,Tryz.results73,go_sem,q1]) rfl ⟨0,0,0,0,0,2,rfl,HUN.out,?_⟩
      exact jab w02 (Nat.le_refl _)
    ·have HIB:Hid (isB 4 0 m0 0 m1=false):=by unfold Hid;simpa using hib
     have HUN:Hid (UN (4 :: tl) 0 0 0 0 0 2):=.inr ⟨rfl,rfl,rfl,rfl,rfl,rfl,fun k' t' c' u' o' h e=>by
      have e5:=HU2.out k' t' c' u' o' h e
      simp only [Prod.mk.injEq] at e5
      obtain ⟨rfl,rfl,rfl,rfl,rfl⟩:=e5
      exact hib h⟩
     clear hib
     go_wp2_with fail
     refine (jgb 4 0 m0 0 m1 _ HIB.out).mono ?_
     rintro e w2 ⟨rfl,b2⟩
     have w02:Below w.heap.size w w2:=(w01.alloc (Nat.le_of_lt s1) _).trans (b2.mono (by simp;omega))
     have HSB:Hid (ja6 w2 (some (aq b off)) len cap (4 :: tl)):=jaa HS.out w02
     have q0:∀ i,i<5->w2.frozen? (aq w.heap.size i)=false:=fun i hi=>(b2.frozen (p:=(aq w.heap.size i)) (by simp;omega)).trans ((World.frozen?_of_block (a:=(aq w.heap.size i)) (Below.heap_alloc w1 _ w.heap.size s1)).trans (p0 i hi))
     have q1:∀ i,i<5->w2.cell? (aq w.heap.size i)=some (iv 0):=fun i hi=>(b2.cell (p:=(aq w.heap.size i)) (by simp;omega)).trans ((World.cell?_of_block (a:=(aq w.heap.size i)) (Below.heap_alloc w1 _ w.heap.size s1)).trans (p1 i hi))
     clear b2 p0 p1
     go_wp2_with fail
     refine (jcn _ _ _ _ _ _ [] _ _ ⟨rfl,Nat.le_refl _,Nat.zero_le _,fun _ h=>by simp at h,fun h=>absurd rfl h⟩ HSB.out).mono ?_
     rintro e w3 ⟨rfl,rfl⟩
     go_wp2
     refine bodyPost_ret (v:=.tuple #[.agg #[iv 0,iv 0,iv 0,iv 0,iv 0],iv 2]) (by simp [results,Tryz.results73,go_sem,q1]) rfl ⟨0,0,0,0,0,2,rfl,HUN.out,?_⟩
     exact jab w02 (Nat.le_refl _)
   ·have h2':((ms.length:Int)==2)=false:=by simp;omega
    have HREQ:Hid (jhr 4 ms=(4,0,0,0,0)):=by unfold Hid jhr;simp [h2,h3]
    clear hva
    have HU2:Hid (∀ k' t' c' u' o':Int,isB k' t' c' u' o'=true->4 :: tl=ja8 k' (jaj k' t' c' u' o')->((4:Int),(0:Int),(0:Int),(0:Int),(0:Int))=(k',t',c',u',o')):=fun k' t' c' u' o' h e=>by rw [← jhy HRN.out h e];exact HREQ.out.symm
    by_cases hib:isB 4 0 0 0 0=true
    ·have HIB:Hid (isB 4 0 0 0 0=true):=hib
     clear hib
     go_wp2_with fail
     refine (jey 4 0 0 0 0 _ HIB.out).mono ?_
     rintro e w2 ⟨v2,rfl,hv2,b2⟩
     obtain ⟨g2,cap2,rfl,hs2⟩:=jcg hv2 (jcz HIB.out)
     have HS2:Hid (ja6 w2 (some (aq g2 0)) (ja8 4 (jaj 4 0 0 0 0)).length cap2 (ja8 4 (jaj 4 0 0 0 0))):=hs2
     have w02:Below w.heap.size w w2:=(w01.alloc (Nat.le_of_lt s1) _).trans (b2.mono (by simp;omega))
     have HSB:Hid (ja6 w2 (some (aq b off)) len cap (4 :: tl)):=jaa HS.out w02
     have q0:∀ i,i<5->w2.frozen? (aq w.heap.size i)=false:=fun i hi=>(b2.frozen (p:=(aq w.heap.size i)) (by simp;omega)).trans ((World.frozen?_of_block (a:=(aq w.heap.size i)) (Below.heap_alloc w1 _ w.heap.size s1)).trans (p0 i hi))
     have q1:∀ i,i<5->w2.cell? (aq w.heap.size i)=some (iv 0):=fun i hi=>(b2.cell (p:=(aq w.heap.size i)) (by simp;omega)).trans ((World.cell?_of_block (a:=(aq w.heap.size i)) (Below.heap_alloc w1 _ w.heap.size s1)).trans (p1 i hi))
     have hr2:Hid (w2.heap[w1.heap.size]?=some (.cells #[iv 4,iv 0,iv 0,iv 0,iv 0] 46 (0,0))):=(b2.block w1.heap.size (by simp)).trans (heap_alloc_new w1 _)
     obtain ⟨y0,y1,y2,y3,y4⟩:=jd9 hr2.out
     clear hv2 hs2 b2 p0 p1
     go_wp2_with fail
     refine (jcn _ _ _ _ _ _ _ _ _ HS2.out HSB.out).mono ?_
     rintro e w3 ⟨rfl,rfl⟩
     by_cases hsm:ja8 4 (jaj 4 0 0 0 0)=4 :: tl
     ·have HUN:Hid (UN (4 :: tl) 4 0 0 0 0 0):=.inl ⟨rfl,HIB.out,hsm.symm⟩
      rw [decide_eq_true hsm]
      clear hsm
      go_wp2
      refine bodyPost_ret (v:=.tuple #[.agg #[iv 4,iv 0,iv 0,iv 0,iv 0],iv 0]) (by simp [results,Tryz.results73,go_sem,q1]) rfl ⟨4,0,0,0,0,0,rfl,HUN.out,?_⟩
      exact jab w02 (Nat.le_refl _)
     ·have HUN:Hid (UN (4 :: tl) 0 0 0 0 0 2):=.inr ⟨rfl,rfl,rfl,rfl,rfl,rfl,fun k' t' c' u' o' h e=>by
       have e5:=HU2.out k' t' c' u' o' h e
       simp only [Prod.mk.injEq] at e5
       obtain ⟨rfl,rfl,rfl,rfl,rfl⟩:=e5
       exact hsm e.symm⟩
      rw [decide_eq_false hsm]
      clear hsm
      go_wp2
      refine bodyPost_ret (v:=.tuple #[.agg #[iv 0,iv 0,iv 0,iv 0,iv 0],iv 2]) (by simp [results,Tryz.results73,go_sem,q1]) rfl ⟨0,0,0,0,0,2,rfl,HUN.out,?_⟩
      exact jab w02 (Nat.le_refl _)
    ·have HIB:Hid (isB 4 0 0 0 0=false):=by unfold Hid;simpa using hib
     have HUN:Hid (UN (4 :: tl) 0 0 0 0 0 2):=.inr ⟨rfl,rfl,rfl,rfl,rfl,rfl,fun k' t' c' u' o' h e=>by
      have e5:=HU2.out k' t' c' u' o' h e
      simp only [Prod.mk.injEq] at e5
      obtain ⟨rfl,rfl,rfl,rfl,rfl⟩:=e5
      exact hib h⟩
     clear hib
     go_wp2_with fail
     refine (jgb 4 0 0 0 0 _ HIB.out).mono ?_
     rintro e w2 ⟨rfl,b2⟩
     have w02:Below w.heap.size w w2:=(w01.alloc (Nat.le_of_lt s1) _).trans (b2.mono (by simp;omega))
     have HSB:Hid (ja6 w2 (some (aq b off)) len cap (4 :: tl)):=jaa HS.out w02
     have q0:∀ i,i<5->w2.frozen? (aq w.heap.size i)=false:=fun i hi=>(b2.frozen (p:=(aq w.heap.size i)) (by simp;omega)).trans ((World.frozen?_of_block (a:=(aq w.heap.size i)) (Below.heap_alloc w1 _ w.heap.size s1)).trans (p0 i hi))
     have q1:∀ i,i<5->w2.cell? (aq w.heap.size i)=some (iv 0):=fun i hi=>(b2.cell (p:=(aq w.heap.size i)) (by simp;omega)).trans ((World.cell?_of_block (a:=(aq w.heap.size i)) (Below.heap_alloc w1 _ w.heap.size s1)).trans (p1 i hi))
     clear b2 p0 p1
     go_wp2_with fail
     refine (jcn _ _ _ _ _ _ [] _ _ ⟨rfl,Nat.le_refl _,Nat.zero_le _,fun _ h=>by simp at h,fun h=>absurd rfl h⟩ HSB.out).mono ?_
     rintro e w3 ⟨rfl,rfl⟩
     go_wp2
     refine bodyPost_ret (v:=.tuple #[.agg #[iv 0,iv 0,iv 0,iv 0,iv 0],iv 2]) (by simp [results,Tryz.results73,go_sem,q1]) rfl ⟨0,0,0,0,0,2,rfl,HUN.out,?_⟩
     exact jab w02 (Nat.le_refl _)
  ·have hx4':(x==4)=false:=by simpa using hx4
   have HREQ:Hid (jhr x ms=(x,0,0,0,0)):=by unfold Hid jhr;simp [h3,hx4]
   clear hva
   by_cases hx:x=1
   ·subst hx
    have HU2:Hid (∀ k' t' c' u' o':Int,isB k' t' c' u' o'=true->1 :: tl=ja8 k' (jaj k' t' c' u' o')->((1:Int),(0:Int),(0:Int),(0:Int),(0:Int))=(k',t',c',u',o')):=fun k' t' c' u' o' h e=>by rw [← jhy HRN.out h e];exact HREQ.out.symm
    by_cases hib:isB 1 0 0 0 0=true
    ·have HIB:Hid (isB 1 0 0 0 0=true):=hib
     clear hib
     go_wp2_with fail
     refine (jey 1 0 0 0 0 _ HIB.out).mono ?_
     rintro e w2 ⟨v2,rfl,hv2,b2⟩
     obtain ⟨g2,cap2,rfl,hs2⟩:=jcg hv2 (jcz HIB.out)
     have HS2:Hid (ja6 w2 (some (aq g2 0)) (ja8 1 (jaj 1 0 0 0 0)).length cap2 (ja8 1 (jaj 1 0 0 0 0))):=hs2
     have w02:Below w.heap.size w w2:=(w01.alloc (Nat.le_of_lt s1) _).trans (b2.mono (by simp;omega))
     have HSB:Hid (ja6 w2 (some (aq b off)) len cap (1 :: tl)):=jaa HS.out w02
     have q0:∀ i,i<5->w2.frozen? (aq w.heap.size i)=false:=fun i hi=>(b2.frozen (p:=(aq w.heap.size i)) (by simp;omega)).trans ((World.frozen?_of_block (a:=(aq w.heap.size i)) (Below.heap_alloc w1 _ w.heap.size s1)).trans (p0 i hi))
     have q1:∀ i,i<5->w2.cell? (aq w.heap.size i)=some (iv 0):=fun i hi=>(b2.cell (p:=(aq w.heap.size i)) (by simp;omega)).trans ((World.cell?_of_block (a:=(aq w.heap.size i)) (Below.heap_alloc w1 _ w.heap.size s1)).trans (p1 i hi))
     have hr2:Hid (w2.heap[w1.heap.size]?=some (.cells #[iv 1,iv 0,iv 0,iv 0,iv 0] 46 (0,0))):=(b2.block w1.heap.size (by simp)).trans (heap_alloc_new w1 _)
     obtain ⟨y0,y1,y2,y3,y4⟩:=jd9 hr2.out
     clear hv2 hs2 b2 p0 p1
     go_wp2_with fail
     refine (jcn _ _ _ _ _ _ _ _ _ HS2.out HSB.out).mono ?_
     rintro e w3 ⟨rfl,rfl⟩
     by_cases hsm:ja8 1 (jaj 1 0 0 0 0)=1 :: tl
     ·have HUN:Hid (UN (1 :: tl) 1 0 0 0 0 0):=.inl ⟨rfl,HIB.out,hsm.symm⟩
      rw [decide_eq_true hsm]
      clear hsm
      go_wp2
      refine bodyPost_ret (v:=.tuple #[.agg #[iv 1,iv 0,iv 0,iv 0,iv 0],iv 0]) (by simp [results,Tryz.results73,go_sem,q1]) rfl ⟨1,0,0,0,0,0,rfl,HUN.out,?_⟩
      exact jab w02 (Nat.le_refl _)
     ·have HUN:Hid (UN (1 :: tl) 0 0 0 0 0 2):=.inr ⟨rfl,rfl,rfl,rfl,rfl,rfl,fun k' t' c' u' o' h e=>by
       have e5:=HU2.out k' t' c' u' o' h e
       simp only [Prod.mk.injEq] at e5
       obtain ⟨rfl,rfl,rfl,rfl,rfl⟩:=e5
       exact hsm e.symm⟩
      rw [decide_eq_false hsm]
      clear hsm
      go_wp2
      refine bodyPost_ret (v:=.tuple #[.agg #[iv 0,iv 0,iv 0,iv 0,iv 0],iv 2]) (by simp [results,Tryz.results73,go_sem,q1]) rfl ⟨0,0,0,0,0,2,rfl,HUN.out,?_⟩
      exact jab w02 (Nat.le_refl _)
    ·have HIB:Hid (isB 1 0 0 0 0=false):=by unfold Hid;simpa using hib
     have HUN:Hid (UN (1 :: tl) 0 0 0 0 0 2):=.inr ⟨rfl,rfl,rfl,rfl,rfl,rfl,fun k' t' c' u' o' h e=>by
      have e5:=HU2.out k' t' c' u' o' h e
      simp only [Prod.mk.injEq] at e5
      obtain ⟨rfl,rfl,rfl,rfl,rfl⟩:=e5
      exact hib h⟩
     clear hib
     go_wp2_with fail
     refine (jgb 1 0 0 0 0 _ HIB.out).mono ?_
     rintro e w2 ⟨rfl,b2⟩
     have w02:Below w.heap.size w w2:=(w01.alloc (Nat.le_of_lt s1) _).trans (b2.mono (by simp;omega))
     have HSB:Hid (ja6 w2 (some (aq b off)) len cap (1 :: tl)):=jaa HS.out w02
     have q0:∀ i,i<5->w2.frozen? (aq w.heap.size i)=false:=fun i hi=>(b2.frozen (p:=(aq w.heap.size i)) (by simp;omega)).trans ((World.frozen?_of_block (a:=(aq w.heap.size i)) (Below.heap_alloc w1 _ w.heap.size s1)).trans (p0 i hi))
     have q1:∀ i,i<5->w2.cell? (aq w.heap.size i)=some (iv 0):=fun i hi=>(b2.cell (p:=(aq w.heap.size i)) (by simp;omega)).trans ((World.cell?_of_block (a:=(aq w.heap.size i)) (Below.heap_alloc w1 _ w.heap.size s1)).trans (p1 i hi))
     clear b2 p0 p1
     go_wp2_with fail
     refine (jcn _ _ _ _ _ _ [] _ _ ⟨rfl,Nat.le_refl _,Nat.zero_le _,fun _ h=>by simp at h,fun h=>absurd rfl h⟩ HSB.out).mono ?_
     rintro e w3 ⟨rfl,rfl⟩
     go_wp2
     refine bodyPost_ret (v:=.tuple #[.agg #[iv 0,iv 0,iv 0,iv 0,iv 0],iv 2]) (by simp [results,Tryz.results73,go_sem,q1]) rfl ⟨0,0,0,0,0,2,rfl,HUN.out,?_⟩
     exact jab w02 (Nat.le_refl _)
   ·have hx':(x==1)=false:=by simpa using hx
    have HU2:Hid (∀ k' t' c' u' o':Int,isB k' t' c' u' o'=true->x :: tl=ja8 k' (jaj k' t' c' u' o')->((x:Int),(0:Int),(0:Int),(0:Int),(0:Int))=(k',t',c',u',o')):=fun k' t' c' u' o' h e=>by rw [← jhy HRN.out h e];exact HREQ.out.symm
    by_cases hib:isB x 0 0 0 0=true
    ·have HIB:Hid (isB x 0 0 0 0=true):=hib
     clear hib
     go_wp2_with fail
     refine (jey x 0 0 0 0 _ HIB.out).mono ?_
     rintro e w2 ⟨v2,rfl,hv2,b2⟩
     obtain ⟨g2,cap2,rfl,hs2⟩:=jcg hv2 (jcz HIB.out)
     have HS2:Hid (ja6 w2 (some (aq g2 0)) (ja8 x (jaj x 0 0 0 0)).length cap2 (ja8 x (jaj x 0 0 0 0))):=hs2
     have w02:Below w.heap.size w w2:=(w01.alloc (Nat.le_of_lt s1) _).trans (b2.mono (by simp;omega))
     have HSB:Hid (ja6 w2 (some (aq b off)) len cap (x :: tl)):=jaa HS.out w02
     have q0:∀ i,i<5->w2.frozen? (aq w.heap.size i)=false:=fun i hi=>(b2.frozen (p:=(aq w.heap.size i)) (by simp;omega)).trans ((World.frozen?_of_block (a:=(aq w.heap.size i)) (Below.heap_alloc w1 _ w.heap.size s1)).trans (p0 i hi))
     have q1:∀ i,i<5->w2.cell? (aq w.heap.size i)=some (iv 0):=fun i hi=>(b2.cell (p:=(aq w.heap.size i)) (by simp;omega)).trans ((World.cell?_of_block (a:=(aq w.heap.size i)) (Below.heap_alloc w1 _ w.heap.size s1)).trans (p1 i hi))
     have hr2:Hid (w2.heap[w1.heap.size]?=some (.cells #[iv x,iv 0,iv 0,iv 0,iv 0] 46 (0,0))):=(b2.block w1.heap.size (by simp)).trans (heap_alloc_new w1 _)
     obtain ⟨y0,y1,y2,y3,y4⟩:=jd9 hr2.out
     clear hv2 hs2 b2 p0 p1
     go_wp2_with fail
     refine (jcn _ _ _ _ _ _ _ _ _ HS2.out HSB.out).mono ?_
     rintro e w3 ⟨rfl,rfl⟩
     by_cases hsm:ja8 x (jaj x 0 0 0 0)=x :: tl
     ·have HUN:Hid (UN (x :: tl) x 0 0 0 0 0):=.inl ⟨rfl,HIB.out,hsm.symm⟩
      rw [decide_eq_true hsm]
      clear hsm
      go_wp2
      refine bodyPost_ret (v:=.tuple #[.agg #[iv x,iv 0,iv 0,iv 0,iv 0],iv 0]) (by simp [results,Tryz.results73,go_sem,q1]) rfl ⟨x,0,0,0,0,0,rfl,HUN.out,?_⟩
      exact jab w02 (Nat.le_refl _)
     ·have HUN:Hid (UN (x :: tl) 0 0 0 0 0 2):=.inr ⟨rfl,rfl,rfl,rfl,rfl,rfl,fun k' t' c' u' o' h e=>by
       have e5:=HU2.out k' t' c' u' o' h e
       simp only [Prod.mk.injEq] at e5
       obtain ⟨rfl,rfl,rfl,rfl,rfl⟩:=e5
       exact hsm e.symm⟩
      rw [decide_eq_false hsm]
      clear hsm
      go_wp2
      refine bodyPost_ret (v:=.tuple #[.agg #[iv 0,iv 0,iv 0,iv 0,iv 0],iv 2]) (by simp [results,Tryz.results73,go_sem,q1]) rfl ⟨0,0,0,0,0,2,rfl,HUN.out,?_⟩
      exact jab w02 (Nat.le_refl _)
    ·have HIB:Hid (isB x 0 0 0 0=false):=by unfold Hid;simpa using hib
     have HUN:Hid (UN (x :: tl) 0 0 0 0 0 2):=.inr ⟨rfl,rfl,rfl,rfl,rfl,rfl,fun k' t' c' u' o' h e=>by
      have e5:=HU2.out k' t' c' u' o' h e
      simp only [Prod.mk.injEq] at e5
      obtain ⟨rfl,rfl,rfl,rfl,rfl⟩:=e5
      exact hib h⟩
     clear hib
     go_wp2_with fail
     refine (jgb x 0 0 0 0 _ HIB.out).mono ?_
     rintro e w2 ⟨rfl,b2⟩
     have w02:Below w.heap.size w w2:=(w01.alloc (Nat.le_of_lt s1) _).trans (b2.mono (by simp;omega))
     have HSB:Hid (ja6 w2 (some (aq b off)) len cap (x :: tl)):=jaa HS.out w02
     have q0:∀ i,i<5->w2.frozen? (aq w.heap.size i)=false:=fun i hi=>(b2.frozen (p:=(aq w.heap.size i)) (by simp;omega)).trans ((World.frozen?_of_block (a:=(aq w.heap.size i)) (Below.heap_alloc w1 _ w.heap.size s1)).trans (p0 i hi))
     have q1:∀ i,i<5->w2.cell? (aq w.heap.size i)=some (iv 0):=fun i hi=>(b2.cell (p:=(aq w.heap.size i)) (by simp;omega)).trans ((World.cell?_of_block (a:=(aq w.heap.size i)) (Below.heap_alloc w1 _ w.heap.size s1)).trans (p1 i hi))
     clear b2 p0 p1
     go_wp2_with fail
     refine (jcn _ _ _ _ _ _ [] _ _ ⟨rfl,Nat.le_refl _,Nat.zero_le _,fun _ h=>by simp at h,fun h=>absurd rfl h⟩ HSB.out).mono ?_
     rintro e w3 ⟨rfl,rfl⟩
     go_wp2
     refine bodyPost_ret (v:=.tuple #[.agg #[iv 0,iv 0,iv 0,iv 0,iv 0],iv 2]) (by simp [results,Tryz.results73,go_sem,q1]) rfl ⟨0,0,0,0,0,2,rfl,HUN.out,?_⟩
     exact jab w02 (Nat.le_refl _)
theorem jt8 (a:Option Addr) (cap:Nat) (w:World) :
 Calls Tryz.prog 73 #[.slice a 0 cap] w fun e w'=>∃ k t c u o err,e=.returned (.tuple #[.agg #[iv k,iv t,iv c,iv u,iv o],iv err])/\UN [] k t c u o err/\Below w.heap.size w w':=by
 go_enter Tryz.func73,Tryz.ntmps73
 go_wp2
 refine bodyPost_ret (v:=.tuple #[.agg #[iv 0,iv 0,iv 0,iv 0,iv 0],iv 2]) (by simp [results,Tryz.results73,go_sem]) rfl ⟨0,0,0,0,0,2,rfl,qde,?_⟩
 exact (Below.refl _ _).alloc (Nat.le_refl _) _
theorem jtg (a:Option Addr) (len cap:Nat) (l:List Int) (w:World) (h:ja6 w a len cap l) :
 Calls Tryz.prog 73 #[.slice a len cap] w fun e w'=>∃ k t c u o err,e=.returned (.tuple #[.agg #[iv k,iv t,iv c,iv u,iv o],iv err])/\UN l k t c u o err/\Below w.heap.size w w':=by
 match l,h with
 | [],h =>
   have h1:=h.1
   simp at h1
   subst h1
   exact jt8 a cap w
 | x :: tl,h =>
   obtain ⟨b,off,rfl,_⟩:=h.2.2.2.2 (by simp)
   exact jry b off len cap x tl w h
theorem qdj {l:List Int} {k t c u o e k' t' c' u' o' e':Int} (h:UN l k t c u o e) (h':UN l k' t' c' u' o' e'):k=k'/\t=t'/\c=c'/\u=u'/\o=o'/\e=e':=by
 rcases h with ⟨rfl,h1,h2⟩|⟨rfl,rfl,rfl,rfl,rfl,rfl,h2⟩
 ·subst h2
  obtain ⟨rfl,rfl,rfl,rfl,rfl,rfl⟩:=qdn h1 h'
  exact ⟨rfl,rfl,rfl,rfl,rfl,rfl⟩
 ·rcases h' with ⟨rfl,h1',h2'⟩|⟨rfl,rfl,rfl,rfl,rfl,rfl,_⟩
  ·exact absurd h2' (h2 _ _ _ _ _ h1')
  ·exact ⟨rfl,rfl,rfl,rfl,rfl,rfl⟩
end Go.Proofs.YtfhncfghblkgeaaGreat
