import Derived.Test.YtfhncfghblkgeabGreatL21
set_option maxRecDepth 100000
set_option maxHeartbeats 2000000
namespace Go.Proofs.YtfhncfghblkgeabGreat
open Go.RowKit
theorem Ge {w:World} {B:Nat} {v:Value} {ms:List Nat} (h:w.ownsRow B 3 1 v ms.length (Ze ms)):∃ va vc,v=.slice va ms.length vc/\(0<ms.length->∃ g,va=some (aq g 0)/\g<w.heap.size/\∀ i,i<ms.length->w.cell? (aq g i)=some (iv (ms.getD i 0:Int))):=by
 rcases h.2 with ⟨rfl,h0⟩|⟨g,cap,cur,rfl,hg,hh,_⟩
 ·exact ⟨none,0,by rw [h0],fun hp=>uO⟩
 ·refine ⟨_,_,rfl,fun _=>⟨g,rfl,(blt hh),fun i hi=>?_⟩⟩
  have:=h.cells (g:=g) rfl i (iv (ms.getD i 0:Int)) (by simp [Ze,List.getD,uD hi])
  simpa [Addr.add_lit] using this
theorem tE {w w1 w2:World} {o:Obj} (b2:Below (w1.alloc o).heap.size (w1.alloc o) w2) (s1:w.heap.size<w1.heap.size) (w01:Below w.heap.size w w1)
 (p0:∀ i,i<5->w1.frozen? (aq w.heap.size i)=false) (p1:∀ i,i<5->w1.cell? (aq w.heap.size i)=some (iv 0)) :
 Below w.heap.size w w2/\(∀ i,i<5->w2.frozen? (aq w.heap.size i)=false)/\∀ i,i<5->w2.cell? (aq w.heap.size i)=some (iv 0) :=
 ⟨(w01.alloc (uY s1) _).trans (b2.mono uT),fun i hi=>(b2.frozen (p:=(aq w.heap.size i)) uT).trans ((uW (a:=(aq w.heap.size i)) (uE w1 _ w.heap.size s1)).trans (p0 i hi)),fun i hi=>(b2.cell (p:=(aq w.heap.size i)) uT).trans ((uV (a:=(aq w.heap.size i)) (uE w1 _ w.heap.size s1)).trans (p1 i hi))⟩
theorem Kd (b off len cap:Nat) (x:Int) (tl:List Int) (w:World) (h:qJ w (some (aq b off)) len cap (x :: tl)) :
 Ca 77 #[.slice (some (aq b off)) len cap] w fun e w'=>∃ k t c u o err,e=.returned (.tuple #[.agg #[iv k,iv t,iv c,iv u,iv o],iv err])/\UN (x :: tl) k t c u o err/\Below w.heap.size w w':=by
 have HS:Hid (qJ w (some (aq b off)) len cap (x :: tl)):=h
 have hxb:=h.2.2.2.1 x vS
 obtain ⟨hx0,hx1⟩:=hxb
 obtain ⟨hl,hlc,_,hc0,_⟩:=vW h
 have hbw:b<w.heap.size:=uC w _ hc0
 have hne:((len:Int)==0)=false:=by simp;omega
 have hpos:(0:Int)<(len:Int):=uO
 clear h
 go_enter Tryz.func77,Tryz.ntmps77
 go_wp2_with fail
 refine (Rv b off len cap x tl _ (qM HS.out ((uM _ _).alloc (uA _) _))).mono ?_
 rintro e w1 ⟨v1,ms,rfl,hown,_,hrn,b1⟩
 have HRN:Hid (QG tl ms):=hrn
 have s1:w.heap.size<w1.heap.size:=by have:=b1.size;simp at this;omega
 have w01:Below w.heap.size w w1:=((uM _ _).alloc (uA _) _).trans (b1.mono vS)
 have hcx:w1.cell? (aq b off)=some (.int .u8 x):=(w01.cell (p:=(aq b off)) hbw).trans hc0
 have hbw1:b<w1.heap.size:=uO
 have p0:∀ i,i<5->w1.frozen? (aq w.heap.size i)=false:=fun i hi=>(b1.frozen (p:=(aq w.heap.size i)) vS).trans uU
 have p1:∀ i,i<5->w1.cell? (aq w.heap.size i)=some (iv 0):=fun i hi=>(b1.cell (p:=(aq w.heap.size i)) vS).trans (by match i,hi with
  | 0,_=>simp [go_sem]
  | 1,_=>simp [go_sem]
  | 2,_=>simp [go_sem]
  | 3,_=>simp [go_sem]
  | 4,_=>simp [go_sem])
 obtain ⟨va,vc,rfl,hva⟩:=Ge hown
 clear hrn hown b1
 by_cases h3:ms.length=3
 ·obtain ⟨g,rfl,hgw,hgc⟩:=hva uO
  obtain ⟨m0,m1,m2,rfl⟩:∃ m0 m1 m2,ms=[m0,m1,m2]:=by
   match ms,h3 with
   | [m0,m1,m2],_=>exact ⟨m0,m1,m2,rfl⟩
  have g0:w1.cell? (aq g 0)=some (iv m0):=hgc 0 vS
  have g1:w1.cell? (aq g 1)=some (iv m1):=hgc 1 vS
  have g2':w1.cell? (aq g 2)=some (iv m2):=hgc 2 vS
  clear hgc hva h3
  by_cases hx:x=1
  ·subst hx
   have HREQ:Hid (mQ 1 [m0,m1,m2]=(1,(m0:Int),(m1:Int),(m2:Int),0)):=rfl
   have HU2:Hid (∀ k' t' c' u' o':Int,QH k' t' c' u' o'=true->1 :: tl=qE k' (qT k' t' c' u' o')->((1:Int),(m0:Int),(m1:Int),(m2:Int),(0:Int))=(k',t',c',u',o')):=fun k' t' c' u' o' h e=>by rw [← nS HRN.out h e];exact HREQ.out.symm
   by_cases hib:QH 1 m0 m1 m2 0=true
   ·have HIB:Hid (QH 1 m0 m1 m2 0=true):=hib
    clear hib
    go_wp2_with fail
    refine (oD 1 m0 m1 m2 0 _ HIB.out).mono ?_
    rintro e w2 ⟨v2,rfl,hv2,b2⟩
    obtain ⟨g2,cap2,rfl,hs2⟩:=zT hv2 (jZ HIB.out)
    have HS2:Hid (qJ w2 (some (aq g2 0)) (qE 1 (qT 1 m0 m1 m2 0)).length cap2 (qE 1 (qT 1 m0 m1 m2 0))):=hs2
    obtain ⟨w02,q0,q1⟩:=tE b2 s1 w01 p0 p1
    have HSB:Hid (qJ w2 (some (aq b off)) len cap (1 :: tl)):=qM HS.out w02
    have hr2:Hid (w2.heap[w1.heap.size]?=some (.cells #[iv 1,iv m0,iv m1,iv m2,iv 0] 39)):=(b2.block w1.heap.size vS).trans (uF w1 _)
    obtain ⟨y0,y1,y2,y3,y4⟩:=yD hr2.out
    clear hv2 hs2 b2 p0 p1
    go_wp2_with fail
    refine (xA _ _ _ _ _ _ _ _ _ HS2.out HSB.out).mono ?_
    rintro e w3 ⟨rfl,rfl⟩
    by_cases hsm:qE 1 (qT 1 m0 m1 m2 0)=1 :: tl
    ·have HUN:Hid (UN (1 :: tl) 1 m0 m1 m2 0 0):=.inl ⟨rfl,HIB.out,hsm.symm⟩
     rw [decide_eq_true hsm]
     clear hsm
     go_wp2
     refine uK (v:=.tuple #[.agg #[iv 1,iv m0,iv m1,iv m2,iv 0],iv 0]) (by simp [results,Tryz.results77,go_sem,q1]) rfl ⟨1,m0,m1,m2,0,0,rfl,HUN.out,?_⟩
     exact qO w02 (uA _)
    ·have HUN:Hid (UN (1 :: tl) 0 0 0 0 0 2):=.inr ⟨rfl,rfl,rfl,rfl,rfl,rfl,fun k' t' c' u' o' h e=>by
          have e5:=HU2.out k' t' c' u' o' h e
          simp only [Prod.mk.injEq] at e5
          obtain ⟨rfl,rfl,rfl,rfl,rfl⟩:=e5
          exact hsm e.symm⟩
     rw [decide_eq_false hsm]
     clear hsm
     go_wp2
     refine uK (v:=.tuple #[.agg #[iv 0,iv 0,iv 0,iv 0,iv 0],iv 2]) (by simp [results,Tryz.results77,go_sem,q1]) rfl ⟨0,0,0,0,0,2,rfl,HUN.out,?_⟩
     exact qO w02 (uA _)
   ·have HIB:Hid (QH 1 m0 m1 m2 0=false):=by unfold Hid;simpa using hib
    have HUN:Hid (UN (1 :: tl) 0 0 0 0 0 2):=.inr ⟨rfl,rfl,rfl,rfl,rfl,rfl,fun k' t' c' u' o' h e=>by
     have e5:=HU2.out k' t' c' u' o' h e
     simp only [Prod.mk.injEq] at e5
     obtain ⟨rfl,rfl,rfl,rfl,rfl⟩:=e5
     exact hib h⟩
    clear hib
    go_wp2_with fail
    refine (dP 1 m0 m1 m2 0 _ HIB.out).mono ?_
    rintro e w2 ⟨rfl,b2⟩
    obtain ⟨w02,q0,q1⟩:=tE b2 s1 w01 p0 p1
    have HSB:Hid (qJ w2 (some (aq b off)) len cap (1 :: tl)):=qM HS.out w02
    clear b2 p0 p1
    go_wp2_with fail
    refine (xA _ _ _ _ _ _ [] _ _ ⟨rfl,uA _,Nat.zero_le _,fun _ h=>by simp at h,fun h=>absurd rfl h⟩ HSB.out).mono ?_
    rintro e w3 ⟨rfl,rfl⟩
    go_wp2
    refine uK (v:=.tuple #[.agg #[iv 0,iv 0,iv 0,iv 0,iv 0],iv 2]) (by simp [results,Tryz.results77,go_sem,q1]) rfl ⟨0,0,0,0,0,2,rfl,HUN.out,?_⟩
    exact qO w02 (uA _)
  ·have hx':(x==1)=false:=by simpa using hx
   have HREQ:Hid (mQ x [m0,m1,m2]=(x,(m0:Int),(m1:Int),0,(m2:Int))):=by unfold Hid mQ;simp [hx]
   by_cases hx4:x=4
   ·subst hx4
    have HU2:Hid (∀ k' t' c' u' o':Int,QH k' t' c' u' o'=true->4 :: tl=qE k' (qT k' t' c' u' o')->((4:Int),(m0:Int),(m1:Int),(0:Int),(m2:Int))=(k',t',c',u',o')):=fun k' t' c' u' o' h e=>by rw [← nS HRN.out h e];exact HREQ.out.symm
    by_cases hib:QH 4 m0 m1 0 m2=true
    ·have HIB:Hid (QH 4 m0 m1 0 m2=true):=hib
     clear hib
     go_wp2_with fail
     refine (oD 4 m0 m1 0 m2 _ HIB.out).mono ?_
     rintro e w2 ⟨v2,rfl,hv2,b2⟩
     obtain ⟨g2,cap2,rfl,hs2⟩:=zT hv2 (jZ HIB.out)
     have HS2:Hid (qJ w2 (some (aq g2 0)) (qE 4 (qT 4 m0 m1 0 m2)).length cap2 (qE 4 (qT 4 m0 m1 0 m2))):=hs2
     obtain ⟨w02,q0,q1⟩:=tE b2 s1 w01 p0 p1
     have HSB:Hid (qJ w2 (some (aq b off)) len cap (4 :: tl)):=qM HS.out w02
     have hr2:Hid (w2.heap[w1.heap.size]?=some (.cells #[iv 4,iv m0,iv m1,iv 0,iv m2] 39)):=(b2.block w1.heap.size vS).trans (uF w1 _)
     obtain ⟨y0,y1,y2,y3,y4⟩:=yD hr2.out
     clear hv2 hs2 b2 p0 p1
     go_wp2_with fail
     refine (xA _ _ _ _ _ _ _ _ _ HS2.out HSB.out).mono ?_
     rintro e w3 ⟨rfl,rfl⟩
     by_cases hsm:qE 4 (qT 4 m0 m1 0 m2)=4 :: tl
     ·have HUN:Hid (UN (4 :: tl) 4 m0 m1 0 m2 0):=.inl ⟨rfl,HIB.out,hsm.symm⟩
      rw [decide_eq_true hsm]
      clear hsm
      go_wp2
      refine uK (v:=.tuple #[.agg #[iv 4,iv m0,iv m1,iv 0,iv m2],iv 0]) (by simp [results,Tryz.results77,go_sem,q1]) rfl ⟨4,m0,m1,0,m2,0,rfl,HUN.out,?_⟩
      exact qO w02 (uA _)
     ·have HUN:Hid (UN (4 :: tl) 0 0 0 0 0 2):=.inr ⟨rfl,rfl,rfl,rfl,rfl,rfl,fun k' t' c' u' o' h e=>by
           have e5:=HU2.out k' t' c' u' o' h e
           simp only [Prod.mk.injEq] at e5
           obtain ⟨rfl,rfl,rfl,rfl,rfl⟩:=e5
           exact hsm e.symm⟩
      rw [decide_eq_false hsm]
      clear hsm
      go_wp2
      refine uK (v:=.tuple #[.agg #[iv 0,iv 0,iv 0,iv 0,iv 0],iv 2]) (by simp [results,Tryz.results77,go_sem,q1]) rfl ⟨0,0,0,0,0,2,rfl,HUN.out,?_⟩
      exact qO w02 (uA _)
    ·have HIB:Hid (QH 4 m0 m1 0 m2=false):=by unfold Hid;simpa using hib
     have HUN:Hid (UN (4 :: tl) 0 0 0 0 0 2):=.inr ⟨rfl,rfl,rfl,rfl,rfl,rfl,fun k' t' c' u' o' h e=>by
          have e5:=HU2.out k' t' c' u' o' h e
          simp only [Prod.mk.injEq] at e5
          obtain ⟨rfl,rfl,rfl,rfl,rfl⟩:=e5
          exact hib h⟩
     clear hib
     go_wp2_with fail
     refine (dP 4 m0 m1 0 m2 _ HIB.out).mono ?_
     rintro e w2 ⟨rfl,b2⟩
     obtain ⟨w02,q0,q1⟩:=tE b2 s1 w01 p0 p1
     have HSB:Hid (qJ w2 (some (aq b off)) len cap (4 :: tl)):=qM HS.out w02
     clear b2 p0 p1
     go_wp2_with fail
     refine (xA _ _ _ _ _ _ [] _ _ ⟨rfl,uA _,Nat.zero_le _,fun _ h=>by simp at h,fun h=>absurd rfl h⟩ HSB.out).mono ?_
     rintro e w3 ⟨rfl,rfl⟩
     go_wp2
     refine uK (v:=.tuple #[.agg #[iv 0,iv 0,iv 0,iv 0,iv 0],iv 2]) (by simp [results,Tryz.results77,go_sem,q1]) rfl ⟨0,0,0,0,0,2,rfl,HUN.out,?_⟩
     exact qO w02 (uA _)
   ·have hx4':(x==4)=false:=by simpa using hx4
    have HU2:Hid (∀ k' t' c' u' o':Int,QH k' t' c' u' o'=true->x :: tl=qE k' (qT k' t' c' u' o')->((x:Int),(m0:Int),(m1:Int),(0:Int),(m2:Int))=(k',t',c',u',o')):=fun k' t' c' u' o' h e=>by rw [← nS HRN.out h e];exact HREQ.out.symm
    by_cases hib:QH x m0 m1 0 m2=true
    ·have HIB:Hid (QH x m0 m1 0 m2=true):=hib
     clear hib
     go_wp2_with fail
     refine (oD x m0 m1 0 m2 _ HIB.out).mono ?_
     rintro e w2 ⟨v2,rfl,hv2,b2⟩
     obtain ⟨g2,cap2,rfl,hs2⟩:=zT hv2 (jZ HIB.out)
     have HS2:Hid (qJ w2 (some (aq g2 0)) (qE x (qT x m0 m1 0 m2)).length cap2 (qE x (qT x m0 m1 0 m2))):=hs2
     obtain ⟨w02,q0,q1⟩:=tE b2 s1 w01 p0 p1
     have HSB:Hid (qJ w2 (some (aq b off)) len cap (x :: tl)):=qM HS.out w02
     have hr2:Hid (w2.heap[w1.heap.size]?=some (.cells #[iv x,iv m0,iv m1,iv 0,iv m2] 39)):=(b2.block w1.heap.size vS).trans (uF w1 _)
     obtain ⟨y0,y1,y2,y3,y4⟩:=yD hr2.out
     clear hv2 hs2 b2 p0 p1
     go_wp2_with fail
     refine (xA _ _ _ _ _ _ _ _ _ HS2.out HSB.out).mono ?_
     rintro e w3 ⟨rfl,rfl⟩
     by_cases hsm:qE x (qT x m0 m1 0 m2)=x :: tl
     ·have HUN:Hid (UN (x :: tl) x m0 m1 0 m2 0):=.inl ⟨rfl,HIB.out,hsm.symm⟩
      rw [decide_eq_true hsm]
      clear hsm
      go_wp2
      refine uK (v:=.tuple #[.agg #[iv x,iv m0,iv m1,iv 0,iv m2],iv 0]) (by simp [results,Tryz.results77,go_sem,q1]) rfl ⟨x,m0,m1,0,m2,0,rfl,HUN.out,?_⟩
      exact qO w02 (uA _)
     ·have HUN:Hid (UN (x :: tl) 0 0 0 0 0 2):=.inr ⟨rfl,rfl,rfl,rfl,rfl,rfl,fun k' t' c' u' o' h e=>by
           have e5:=HU2.out k' t' c' u' o' h e
           simp only [Prod.mk.injEq] at e5
           obtain ⟨rfl,rfl,rfl,rfl,rfl⟩:=e5
           exact hsm e.symm⟩
      rw [decide_eq_false hsm]
      clear hsm
      go_wp2
      refine uK (v:=.tuple #[.agg #[iv 0,iv 0,iv 0,iv 0,iv 0],iv 2]) (by simp [results,Tryz.results77,go_sem,q1]) rfl ⟨0,0,0,0,0,2,rfl,HUN.out,?_⟩
      exact qO w02 (uA _)
    ·have HIB:Hid (QH x m0 m1 0 m2=false):=by unfold Hid;simpa using hib
     have HUN:Hid (UN (x :: tl) 0 0 0 0 0 2):=.inr ⟨rfl,rfl,rfl,rfl,rfl,rfl,fun k' t' c' u' o' h e=>by
          have e5:=HU2.out k' t' c' u' o' h e
          simp only [Prod.mk.injEq] at e5
          obtain ⟨rfl,rfl,rfl,rfl,rfl⟩:=e5
          exact hib h⟩
     clear hib
     go_wp2_with fail
     refine (dP x m0 m1 0 m2 _ HIB.out).mono ?_
     rintro e w2 ⟨rfl,b2⟩
     obtain ⟨w02,q0,q1⟩:=tE b2 s1 w01 p0 p1
     have HSB:Hid (qJ w2 (some (aq b off)) len cap (x :: tl)):=qM HS.out w02
     clear b2 p0 p1
     go_wp2_with fail
     refine (xA _ _ _ _ _ _ [] _ _ ⟨rfl,uA _,Nat.zero_le _,fun _ h=>by simp at h,fun h=>absurd rfl h⟩ HSB.out).mono ?_
     rintro e w3 ⟨rfl,rfl⟩
     go_wp2
     refine uK (v:=.tuple #[.agg #[iv 0,iv 0,iv 0,iv 0,iv 0],iv 2]) (by simp [results,Tryz.results77,go_sem,q1]) rfl ⟨0,0,0,0,0,2,rfl,HUN.out,?_⟩
     exact qO w02 (uA _)
 ·have h3':((ms.length:Int)==3)=false:=by simp;omega
  by_cases hx4:x=4
  ·subst hx4
   by_cases h2:ms.length=2
   ·obtain ⟨g,rfl,hgw,hgc⟩:=hva uO
    obtain ⟨m0,m1,rfl⟩:∃ m0 m1,ms=[m0,m1]:=by
     match ms,h2 with
     | [m0,m1],_=>exact ⟨m0,m1,rfl⟩
    have g0:w1.cell? (aq g 0)=some (iv m0):=hgc 0 vS
    have g1:w1.cell? (aq g 1)=some (iv m1):=hgc 1 vS
    clear hgc hva h3 h3' h2
    have HREQ:Hid (mQ 4 [m0,m1]=(4,0,(m0:Int),0,(m1:Int))):=rfl
    have HU2:Hid (∀ k' t' c' u' o':Int,QH k' t' c' u' o'=true->4 :: tl=qE k' (qT k' t' c' u' o')->((4:Int),(0:Int),(m0:Int),(0:Int),(m1:Int))=(k',t',c',u',o')):=fun k' t' c' u' o' h e=>by rw [← nS HRN.out h e];exact HREQ.out.symm
    by_cases hib:QH 4 0 m0 0 m1=true
    ·have HIB:Hid (QH 4 0 m0 0 m1=true):=hib
     clear hib
     go_wp2_with fail
     refine (oD 4 0 m0 0 m1 _ HIB.out).mono ?_
     rintro e w2 ⟨v2,rfl,hv2,b2⟩
     obtain ⟨g2,cap2,rfl,hs2⟩:=zT hv2 (jZ HIB.out)
     have HS2:Hid (qJ w2 (some (aq g2 0)) (qE 4 (qT 4 0 m0 0 m1)).length cap2 (qE 4 (qT 4 0 m0 0 m1))):=hs2
     obtain ⟨w02,q0,q1⟩:=tE b2 s1 w01 p0 p1
     have HSB:Hid (qJ w2 (some (aq b off)) len cap (4 :: tl)):=qM HS.out w02
     have hr2:Hid (w2.heap[w1.heap.size]?=some (.cells #[iv 4,iv 0,iv m0,iv 0,iv m1] 39)):=(b2.block w1.heap.size vS).trans (uF w1 _)
     obtain ⟨y0,y1,y2,y3,y4⟩:=yD hr2.out
     clear hv2 hs2 b2 p0 p1
     go_wp2_with fail
     refine (xA _ _ _ _ _ _ _ _ _ HS2.out HSB.out).mono ?_
     rintro e w3 ⟨rfl,rfl⟩
     by_cases hsm:qE 4 (qT 4 0 m0 0 m1)=4 :: tl
     ·have HUN:Hid (UN (4 :: tl) 4 0 m0 0 m1 0):=.inl ⟨rfl,HIB.out,hsm.symm⟩
      rw [decide_eq_true hsm]
      clear hsm
      go_wp2
      refine uK (v:=.tuple #[.agg #[iv 4,iv 0,iv m0,iv 0,iv m1],iv 0]) (by simp [results,Tryz.results77,go_sem,q1]) rfl ⟨4,0,m0,0,m1,0,rfl,HUN.out,?_⟩
      exact qO w02 (uA _)
     ·have HUN:Hid (UN (4 :: tl) 0 0 0 0 0 2):=.inr ⟨rfl,rfl,rfl,rfl,rfl,rfl,fun k' t' c' u' o' h e=>by
       have e5:=HU2.out k' t' c' u' o' h e
       simp only [Prod.mk.injEq] at e5
       obtain ⟨rfl,rfl,rfl,rfl,rfl⟩:=e5
       exact hsm e.symm⟩
      rw [decide_eq_false hsm]
      clear hsm
      go_wp2
      refine uK (v:=.tuple #[.agg #[iv 0,iv 0,iv 0,iv 0,iv 0],iv 2]) (by simp [results,Tryz.results77,go_sem,q1]) rfl ⟨0,0,0,0,0,2,rfl,HUN.out,?_⟩
      exact qO w02 (uA _)
    ·have HIB:Hid (QH 4 0 m0 0 m1=false):=by unfold Hid;simpa using hib
     have HUN:Hid (UN (4 :: tl) 0 0 0 0 0 2):=.inr ⟨rfl,rfl,rfl,rfl,rfl,rfl,fun k' t' c' u' o' h e=>by
      have e5:=HU2.out k' t' c' u' o' h e
      simp only [Prod.mk.injEq] at e5
      obtain ⟨rfl,rfl,rfl,rfl,rfl⟩:=e5
      exact hib h⟩
     clear hib
     go_wp2_with fail
     refine (dP 4 0 m0 0 m1 _ HIB.out).mono ?_
     rintro e w2 ⟨rfl,b2⟩
     obtain ⟨w02,q0,q1⟩:=tE b2 s1 w01 p0 p1
     have HSB:Hid (qJ w2 (some (aq b off)) len cap (4 :: tl)):=qM HS.out w02
     clear b2 p0 p1
     go_wp2_with fail
     refine (xA _ _ _ _ _ _ [] _ _ ⟨rfl,uA _,Nat.zero_le _,fun _ h=>by simp at h,fun h=>absurd rfl h⟩ HSB.out).mono ?_
     rintro e w3 ⟨rfl,rfl⟩
     go_wp2
     refine uK (v:=.tuple #[.agg #[iv 0,iv 0,iv 0,iv 0,iv 0],iv 2]) (by simp [results,Tryz.results77,go_sem,q1]) rfl ⟨0,0,0,0,0,2,rfl,HUN.out,?_⟩
     exact qO w02 (uA _)
   ·have h2':((ms.length:Int)==2)=false:=by simp;omega
    have HREQ:Hid (mQ 4 ms=(4,0,0,0,0)):=by unfold Hid mQ;simp [h2,h3]
    clear hva
    have HU2:Hid (∀ k' t' c' u' o':Int,QH k' t' c' u' o'=true->4 :: tl=qE k' (qT k' t' c' u' o')->((4:Int),(0:Int),(0:Int),(0:Int),(0:Int))=(k',t',c',u',o')):=fun k' t' c' u' o' h e=>by rw [← nS HRN.out h e];exact HREQ.out.symm
    by_cases hib:QH 4 0 0 0 0=true
    ·have HIB:Hid (QH 4 0 0 0 0=true):=hib
     clear hib
     go_wp2_with fail
     refine (oD 4 0 0 0 0 _ HIB.out).mono ?_
     rintro e w2 ⟨v2,rfl,hv2,b2⟩
     obtain ⟨g2,cap2,rfl,hs2⟩:=zT hv2 (jZ HIB.out)
     have HS2:Hid (qJ w2 (some (aq g2 0)) (qE 4 (qT 4 0 0 0 0)).length cap2 (qE 4 (qT 4 0 0 0 0))):=hs2
     obtain ⟨w02,q0,q1⟩:=tE b2 s1 w01 p0 p1
     have HSB:Hid (qJ w2 (some (aq b off)) len cap (4 :: tl)):=qM HS.out w02
     have hr2:Hid (w2.heap[w1.heap.size]?=some (.cells #[iv 4,iv 0,iv 0,iv 0,iv 0] 39)):=(b2.block w1.heap.size vS).trans (uF w1 _)
     obtain ⟨y0,y1,y2,y3,y4⟩:=yD hr2.out
     clear hv2 hs2 b2 p0 p1
     go_wp2_with fail
     refine (xA _ _ _ _ _ _ _ _ _ HS2.out HSB.out).mono ?_
     rintro e w3 ⟨rfl,rfl⟩
     by_cases hsm:qE 4 (qT 4 0 0 0 0)=4 :: tl
     ·have HUN:Hid (UN (4 :: tl) 4 0 0 0 0 0):=.inl ⟨rfl,HIB.out,hsm.symm⟩
      rw [decide_eq_true hsm]
      clear hsm
      go_wp2
      refine uK (v:=.tuple #[.agg #[iv 4,iv 0,iv 0,iv 0,iv 0],iv 0]) (by simp [results,Tryz.results77,go_sem,q1]) rfl ⟨4,0,0,0,0,0,rfl,HUN.out,?_⟩
      exact qO w02 (uA _)
     ·have HUN:Hid (UN (4 :: tl) 0 0 0 0 0 2):=.inr ⟨rfl,rfl,rfl,rfl,rfl,rfl,fun k' t' c' u' o' h e=>by
       have e5:=HU2.out k' t' c' u' o' h e
       simp only [Prod.mk.injEq] at e5
       obtain ⟨rfl,rfl,rfl,rfl,rfl⟩:=e5
       exact hsm e.symm⟩
      rw [decide_eq_false hsm]
      clear hsm
      go_wp2
      refine uK (v:=.tuple #[.agg #[iv 0,iv 0,iv 0,iv 0,iv 0],iv 2]) (by simp [results,Tryz.results77,go_sem,q1]) rfl ⟨0,0,0,0,0,2,rfl,HUN.out,?_⟩
      exact qO w02 (uA _)
    ·have HIB:Hid (QH 4 0 0 0 0=false):=by unfold Hid;simpa using hib
     have HUN:Hid (UN (4 :: tl) 0 0 0 0 0 2):=.inr ⟨rfl,rfl,rfl,rfl,rfl,rfl,fun k' t' c' u' o' h e=>by
      have e5:=HU2.out k' t' c' u' o' h e
      simp only [Prod.mk.injEq] at e5
      obtain ⟨rfl,rfl,rfl,rfl,rfl⟩:=e5
      exact hib h⟩
     clear hib
     go_wp2_with fail
     refine (dP 4 0 0 0 0 _ HIB.out).mono ?_
     rintro e w2 ⟨rfl,b2⟩
     obtain ⟨w02,q0,q1⟩:=tE b2 s1 w01 p0 p1
     have HSB:Hid (qJ w2 (some (aq b off)) len cap (4 :: tl)):=qM HS.out w02
     clear b2 p0 p1
     go_wp2_with fail
     refine (xA _ _ _ _ _ _ [] _ _ ⟨rfl,uA _,Nat.zero_le _,fun _ h=>by simp at h,fun h=>absurd rfl h⟩ HSB.out).mono ?_
     rintro e w3 ⟨rfl,rfl⟩
     go_wp2
     refine uK (v:=.tuple #[.agg #[iv 0,iv 0,iv 0,iv 0,iv 0],iv 2]) (by simp [results,Tryz.results77,go_sem,q1]) rfl ⟨0,0,0,0,0,2,rfl,HUN.out,?_⟩
     exact qO w02 (uA _)
  ·have hx4':(x==4)=false:=by simpa using hx4
   have HREQ:Hid (mQ x ms=(x,0,0,0,0)):=by unfold Hid mQ;simp [h3,hx4]
   clear hva
   by_cases hx:x=1
   ·subst hx
    have HU2:Hid (∀ k' t' c' u' o':Int,QH k' t' c' u' o'=true->1 :: tl=qE k' (qT k' t' c' u' o')->((1:Int),(0:Int),(0:Int),(0:Int),(0:Int))=(k',t',c',u',o')):=fun k' t' c' u' o' h e=>by rw [← nS HRN.out h e];exact HREQ.out.symm
    by_cases hib:QH 1 0 0 0 0=true
    ·have HIB:Hid (QH 1 0 0 0 0=true):=hib
     clear hib
     go_wp2_with fail
     refine (oD 1 0 0 0 0 _ HIB.out).mono ?_
     rintro e w2 ⟨v2,rfl,hv2,b2⟩
     obtain ⟨g2,cap2,rfl,hs2⟩:=zT hv2 (jZ HIB.out)
     have HS2:Hid (qJ w2 (some (aq g2 0)) (qE 1 (qT 1 0 0 0 0)).length cap2 (qE 1 (qT 1 0 0 0 0))):=hs2
     obtain ⟨w02,q0,q1⟩:=tE b2 s1 w01 p0 p1
     have HSB:Hid (qJ w2 (some (aq b off)) len cap (1 :: tl)):=qM HS.out w02
     have hr2:Hid (w2.heap[w1.heap.size]?=some (.cells #[iv 1,iv 0,iv 0,iv 0,iv 0] 39)):=(b2.block w1.heap.size vS).trans (uF w1 _)
     obtain ⟨y0,y1,y2,y3,y4⟩:=yD hr2.out
     clear hv2 hs2 b2 p0 p1
     go_wp2_with fail
     refine (xA _ _ _ _ _ _ _ _ _ HS2.out HSB.out).mono ?_
     rintro e w3 ⟨rfl,rfl⟩
     by_cases hsm:qE 1 (qT 1 0 0 0 0)=1 :: tl
     ·have HUN:Hid (UN (1 :: tl) 1 0 0 0 0 0):=.inl ⟨rfl,HIB.out,hsm.symm⟩
      rw [decide_eq_true hsm]
      clear hsm
      go_wp2
      refine uK (v:=.tuple #[.agg #[iv 1,iv 0,iv 0,iv 0,iv 0],iv 0]) (by simp [results,Tryz.results77,go_sem,q1]) rfl ⟨1,0,0,0,0,0,rfl,HUN.out,?_⟩
      exact qO w02 (uA _)
     ·have HUN:Hid (UN (1 :: tl) 0 0 0 0 0 2):=.inr ⟨rfl,rfl,rfl,rfl,rfl,rfl,fun k' t' c' u' o' h e=>by
       have e5:=HU2.out k' t' c' u' o' h e
       simp only [Prod.mk.injEq] at e5
       obtain ⟨rfl,rfl,rfl,rfl,rfl⟩:=e5
       exact hsm e.symm⟩
      rw [decide_eq_false hsm]
      clear hsm
      go_wp2
      refine uK (v:=.tuple #[.agg #[iv 0,iv 0,iv 0,iv 0,iv 0],iv 2]) (by simp [results,Tryz.results77,go_sem,q1]) rfl ⟨0,0,0,0,0,2,rfl,HUN.out,?_⟩
      exact qO w02 (uA _)
    ·have HIB:Hid (QH 1 0 0 0 0=false):=by unfold Hid;simpa using hib
     have HUN:Hid (UN (1 :: tl) 0 0 0 0 0 2):=.inr ⟨rfl,rfl,rfl,rfl,rfl,rfl,fun k' t' c' u' o' h e=>by
      have e5:=HU2.out k' t' c' u' o' h e
      simp only [Prod.mk.injEq] at e5
      obtain ⟨rfl,rfl,rfl,rfl,rfl⟩:=e5
      exact hib h⟩
     clear hib
     go_wp2_with fail
     refine (dP 1 0 0 0 0 _ HIB.out).mono ?_
     rintro e w2 ⟨rfl,b2⟩
     obtain ⟨w02,q0,q1⟩:=tE b2 s1 w01 p0 p1
     have HSB:Hid (qJ w2 (some (aq b off)) len cap (1 :: tl)):=qM HS.out w02
     clear b2 p0 p1
     go_wp2_with fail
     refine (xA _ _ _ _ _ _ [] _ _ ⟨rfl,uA _,Nat.zero_le _,fun _ h=>by simp at h,fun h=>absurd rfl h⟩ HSB.out).mono ?_
     rintro e w3 ⟨rfl,rfl⟩
     go_wp2
     refine uK (v:=.tuple #[.agg #[iv 0,iv 0,iv 0,iv 0,iv 0],iv 2]) (by simp [results,Tryz.results77,go_sem,q1]) rfl ⟨0,0,0,0,0,2,rfl,HUN.out,?_⟩
     exact qO w02 (uA _)
   ·have hx':(x==1)=false:=by simpa using hx
    have HU2:Hid (∀ k' t' c' u' o':Int,QH k' t' c' u' o'=true->x :: tl=qE k' (qT k' t' c' u' o')->((x:Int),(0:Int),(0:Int),(0:Int),(0:Int))=(k',t',c',u',o')):=fun k' t' c' u' o' h e=>by rw [← nS HRN.out h e];exact HREQ.out.symm
    by_cases hib:QH x 0 0 0 0=true
    ·have HIB:Hid (QH x 0 0 0 0=true):=hib
     clear hib
     go_wp2_with fail
     refine (oD x 0 0 0 0 _ HIB.out).mono ?_
     rintro e w2 ⟨v2,rfl,hv2,b2⟩
     obtain ⟨g2,cap2,rfl,hs2⟩:=zT hv2 (jZ HIB.out)
     have HS2:Hid (qJ w2 (some (aq g2 0)) (qE x (qT x 0 0 0 0)).length cap2 (qE x (qT x 0 0 0 0))):=hs2
     obtain ⟨w02,q0,q1⟩:=tE b2 s1 w01 p0 p1
     have HSB:Hid (qJ w2 (some (aq b off)) len cap (x :: tl)):=qM HS.out w02
     have hr2:Hid (w2.heap[w1.heap.size]?=some (.cells #[iv x,iv 0,iv 0,iv 0,iv 0] 39)):=(b2.block w1.heap.size vS).trans (uF w1 _)
     obtain ⟨y0,y1,y2,y3,y4⟩:=yD hr2.out
     clear hv2 hs2 b2 p0 p1
     go_wp2_with fail
     refine (xA _ _ _ _ _ _ _ _ _ HS2.out HSB.out).mono ?_
     rintro e w3 ⟨rfl,rfl⟩
     by_cases hsm:qE x (qT x 0 0 0 0)=x :: tl
     ·have HUN:Hid (UN (x :: tl) x 0 0 0 0 0):=.inl ⟨rfl,HIB.out,hsm.symm⟩
      rw [decide_eq_true hsm]
      clear hsm
      go_wp2
      refine uK (v:=.tuple #[.agg #[iv x,iv 0,iv 0,iv 0,iv 0],iv 0]) (by simp [results,Tryz.results77,go_sem,q1]) rfl ⟨x,0,0,0,0,0,rfl,HUN.out,?_⟩
      exact qO w02 (uA _)
     ·have HUN:Hid (UN (x :: tl) 0 0 0 0 0 2):=.inr ⟨rfl,rfl,rfl,rfl,rfl,rfl,fun k' t' c' u' o' h e=>by
       have e5:=HU2.out k' t' c' u' o' h e
       simp only [Prod.mk.injEq] at e5
       obtain ⟨rfl,rfl,rfl,rfl,rfl⟩:=e5
       exact hsm e.symm⟩
      rw [decide_eq_false hsm]
      clear hsm
      go_wp2
      refine uK (v:=.tuple #[.agg #[iv 0,iv 0,iv 0,iv 0,iv 0],iv 2]) (by simp [results,Tryz.results77,go_sem,q1]) rfl ⟨0,0,0,0,0,2,rfl,HUN.out,?_⟩
      exact qO w02 (uA _)
    ·have HIB:Hid (QH x 0 0 0 0=false):=by unfold Hid;simpa using hib
     have HUN:Hid (UN (x :: tl) 0 0 0 0 0 2):=.inr ⟨rfl,rfl,rfl,rfl,rfl,rfl,fun k' t' c' u' o' h e=>by
      have e5:=HU2.out k' t' c' u' o' h e
      simp only [Prod.mk.injEq] at e5
      obtain ⟨rfl,rfl,rfl,rfl,rfl⟩:=e5
      exact hib h⟩
     clear hib
     go_wp2_with fail
     refine (dP x 0 0 0 0 _ HIB.out).mono ?_
     rintro e w2 ⟨rfl,b2⟩
     obtain ⟨w02,q0,q1⟩:=tE b2 s1 w01 p0 p1
     have HSB:Hid (qJ w2 (some (aq b off)) len cap (x :: tl)):=qM HS.out w02
     clear b2 p0 p1
     go_wp2_with fail
     refine (xA _ _ _ _ _ _ [] _ _ ⟨rfl,uA _,Nat.zero_le _,fun _ h=>by simp at h,fun h=>absurd rfl h⟩ HSB.out).mono ?_
     rintro e w3 ⟨rfl,rfl⟩
     go_wp2
     refine uK (v:=.tuple #[.agg #[iv 0,iv 0,iv 0,iv 0,iv 0],iv 2]) (by simp [results,Tryz.results77,go_sem,q1]) rfl ⟨0,0,0,0,0,2,rfl,HUN.out,?_⟩
     exact qO w02 (uA _)
theorem Vo (a:Option Addr) (cap:Nat) (w:World) :
 Ca 77 #[.slice a 0 cap] w fun e w'=>∃ k t c u o err,e=.returned (.tuple #[.agg #[iv k,iv t,iv c,iv u,iv o],iv err])/\UN [] k t c u o err/\Below w.heap.size w w':=by
 go_enter Tryz.func77,Tryz.ntmps77
 go_wp2
 refine uK (v:=.tuple #[.agg #[iv 0,iv 0,iv 0,iv 0,iv 0],iv 2]) (by simp [results,Tryz.results77,go_sem]) rfl ⟨0,0,0,0,0,2,rfl,Pp,?_⟩
 exact (uM _ _).alloc (uA _) _
theorem eD (a:Option Addr) (len cap:Nat) (l:List Int) (w:World) (h:qJ w a len cap l) :
 Ca 77 #[.slice a len cap] w fun e w'=>∃ k t c u o err,e=.returned (.tuple #[.agg #[iv k,iv t,iv c,iv u,iv o],iv err])/\UN l k t c u o err/\Below w.heap.size w w':=by
 match l,h with
 | [],h =>
   have h1:=h.1
   simp at h1
   subst h1
   exact Vo a cap w
 | x :: tl,h =>
   obtain ⟨b,off,rfl,_⟩:=h.2.2.2.2 vS
   exact Kd b off len cap x tl w h
theorem Tk {l:List Int} {k t c u o e k' t' c' u' o' e':Int} (h:UN l k t c u o e) (h':UN l k' t' c' u' o' e'):k=k'/\t=t'/\c=c'/\u=u'/\o=o'/\e=e':=by
 rcases h with ⟨rfl,h1,h2⟩|⟨rfl,rfl,rfl,rfl,rfl,rfl,h2⟩
 ·subst h2
  obtain ⟨rfl,rfl,rfl,rfl,rfl,rfl⟩:=Wt h1 h'
  exact ⟨rfl,rfl,rfl,rfl,rfl,rfl⟩
 ·rcases h' with ⟨rfl,h1',h2'⟩|⟨rfl,rfl,rfl,rfl,rfl,rfl,_⟩
  ·exact absurd h2' (h2 _ _ _ _ _ h1')
  ·exact ⟨rfl,rfl,rfl,rfl,rfl,rfl⟩
