import Derived.Test.YtfhncfghblkgeabGreatL05
import Derived.Test.YtfhncfghblkgeabGreatL06
set_option maxRecDepth 100000
set_option maxHeartbeats 2000000
namespace Go.Proofs.YtfhncfghblkgeabGreat
open Go.RowKit
theorem fS (n0 n1 n2 n3 n4 n5 n6:Int) (a:Option Addr) (len cap:Nat) (ts:List (Int × Int)) (w:World) (h:tiersAt w a len cap ts) :
 Ca 37 #[.agg #[iv n0,iv n1,iv n2,iv n3,iv n4,iv n5,iv n6,.slice a len cap]] w fun e w'=>e=.returned (iv (Bn (mZ [n0,n1,n2,n3,n4,n5,n6] ts)))/\Below w.heap.size w w':=by
 have HT:Hid (tiersAt w a len cap ts):=h
 clear h
 go_enter Tryz.func37,Tryz.ntmps37
 go_wp2_with fail
 have hrow:∀ i,i<7->((w.alloc (.cells #[iv n0,iv n1,iv n2,iv n3,iv n4,iv n5,iv n6,.slice a len cap] 24)).alloc (.cells #[iv n0,iv n1,iv n2,iv n3,iv n4,iv n5,iv n6] 3)).cell? (aq (w.heap.size+1) i)=some (iv ([n0,n1,n2,n3,n4,n5,n6].getD i 0)):=by
  intro i hi
  match i,hi with
  | 0,_=>simp [go_sem]
  | 1,_=>simp [go_sem]
  | 2,_=>simp [go_sem]
  | 3,_=>simp [go_sem]
  | 4,_=>simp [go_sem]
  | 5,_=>simp [go_sem]
  | 6,_=>simp [go_sem]
 have hbox:((w.alloc (.cells #[iv n0,iv n1,iv n2,iv n3,iv n4,iv n5,iv n6,.slice a len cap] 24)).alloc (.cells #[iv n0,iv n1,iv n2,iv n3,iv n4,iv n5,iv n6] 3)).cell? (aq w.heap.size 7)=some (.slice a len cap):=by simp [go_sem]
 have hW:=(zq3 w #[iv n0,iv n1,iv n2,iv n3,iv n4,iv n5,iv n6,.slice a len cap] 24 #[iv n0,iv n1,iv n2,iv n3,iv n4,iv n5,iv n6] 3).out
 have hsz:((w.alloc (.cells #[iv n0,iv n1,iv n2,iv n3,iv n4,iv n5,iv n6,.slice a len cap] 24)).alloc (.cells #[iv n0,iv n1,iv n2,iv n3,iv n4,iv n5,iv n6] 3)).heap.size=w.heap.size+2:=by simp
 generalize ((w.alloc (.cells #[iv n0,iv n1,iv n2,iv n3,iv n4,iv n5,iv n6,.slice a len cap] 24)).alloc (.cells #[iv n0,iv n1,iv n2,iv n3,iv n4,iv n5,iv n6] 3))=W at *
 have HR:Hid (∀ i,i<7->W.cell? (aq (w.heap.size+1) i)=some (iv ([n0,n1,n2,n3,n4,n5,n6].getD i 0))):=hrow
 have HSZ:Hid (W.heap.size=w.heap.size+2):=hsz
 clear hrow hsz
 go_loop [4] (fun i=>∃ k:Nat,k<=7/\i=iv k/\Hid (([n0,n1,n2,n3,n4,n5,n6].take k).all yU=true)) (fun i=>7 - (intOf i).toNat)
 case atStart=>exact ⟨0,Nat.zero_le _,rfl,by simp [Hid]⟩
 case round =>
  obtain ⟨k,hk,rfl,hall⟩:=hrel
  by_cases hlt:k<7
  ·have hc:=HR.out k hlt
   generalize hx:[n0,n1,n2,n3,n4,n5,n6].getD k 0=x at hc
   have HX:Hid ([n0,n1,n2,n3,n4,n5,n6].getD k 0=x):=hx
   clear hx
   by_cases hn:yU x=true
   ·have HN:Hid (yU x=true):=hn
    clear hn
    go_wp2_with (go_at_call 59;refine (dL x _).mono ?_;rintro e w' ⟨rfl,rfl⟩;rw [HN.out])
    go_round
    case rel=>exact ⟨k+1,uO,vN,by unfold Hid;rw [Oa [n0,n1,n2,n3,n4,n5,n6] k hlt HX.out,hall.out,HN.out];rfl⟩
    case measure=>simp [intOf];omega
   ·have HN:Hid (yU x=false):=by unfold Hid;simpa using hn
    have HE:Hid (Bn (mZ [n0,n1,n2,n3,n4,n5,n6] ts)=1):=by unfold Hid mZ;rw [Vr [n0,n1,n2,n3,n4,n5,n6] k hlt HX.out HN.out];rfl
    clear hn
    go_wp2_with (go_at_call 59;refine (dL x _).mono ?_;rintro e w' ⟨rfl,rfl⟩;rw [HN.out])
    go_ret
    exact ⟨by rw [HE.out];rfl,hW⟩
  ·have hk7:k=7:=uO
   subst hk7
   obtain ⟨hl,hlc,hm,hnil,hcs⟩:=HT.out
   by_cases h1:len<1
   ·have HE:Hid (Bn (mZ [n0,n1,n2,n3,n4,n5,n6] ts)=1):=by unfold Hid mZ;rw [oL uO,Bool.and_false];rfl
    have hd1:decide ((len:Int)<1)=true:=by simp;omega
    go_wp2
    go_ret
    exact ⟨by rw [HE.out];rfl,hW⟩
   by_cases h4:4<len
   ·have HE:Hid (Bn (mZ [n0,n1,n2,n3,n4,n5,n6] ts)=1):=by unfold Hid mZ;rw [oL uO,Bool.and_false];rfl
    have hd1:decide ((len:Int)<1)=false:=by simp;omega
    have hd4:decide (4<(len:Int))=true:=by simp;omega
    go_wp2
    go_ret
    exact ⟨by rw [HE.out];rfl,hW⟩
   obtain ⟨b,off,rfl,hbw,hcell⟩:=hcs (fun e=>by rw [e] at hl;simp at hl;omega)
   have hd1:decide ((len:Int)<1)=false:=by simp;omega
   have hd4:decide (4<(len:Int))=false:=by simp;omega
   clear hnil
   go_wp2_with fail
   go_loopw [6] (fun i wr=>∃ k:Nat,k<=len/\i=iv k/\Hid (∀ j,j<k->oG ts j=true)/\Below (w.heap.size+2) W wr) (fun i _=>len - (intOf i).toNat)
   case atStart=>exact ⟨0,Nat.zero_le _,rfl,fun _ h=>uO,uM _ _⟩
   case round =>
    obtain ⟨k,hk,rfl,hall2,hbel⟩:=hrel
    have hbox':wr.cell? (aq w.heap.size 7)=some (.slice (some (aq b off)) len cap):=(hbel.cell (p:=(aq w.heap.size 7)) (by show w.heap.size<w.heap.size+2;omega)).trans hbox
    by_cases hlt2:k<len
    ·have hcr:∀ i,i<len->wr.cell? (aq b (off+i * 2))=some (iv (ts.getD i (0,0)).1)/\wr.cell? (aq b (off+i * 2+1))=some (iv (ts.getD i (0,0)).2):=fun i hi =>
      ⟨((hbel.cell (p:=(aq b (off+i * 2))) (by show b<w.heap.size+2;omega)).trans (hW.cell (p:=(aq b (off+i * 2))) hbw)).trans (hcell i hi).1,((hbel.cell (p:=(aq b (off+i * 2+1))) (by show b<w.heap.size+2;omega)).trans (hW.cell (p:=(aq b (off+i * 2+1))) hbw)).trans (hcell i hi).2⟩
     have HCR:Hid (∀ i,i<len->wr.cell? (aq b (off+i * 2))=some (iv (ts.getD i (0,0)).1)/\wr.cell? (aq b (off+i * 2+1))=some (iv (ts.getD i (0,0)).2)):=hcr
     clear hcr hcell
     by_cases ht:oG ts k=true
     ·have HTT:Hid (oG ts k=true):=ht
      clear ht
      go_wp2_with (go_at_call 60;refine (Xu b off len cap k ts _ hlt2 uO HCR.out).mono ?_;rintro e w2 ⟨rfl,b2⟩;rw [HTT.out])
      go_roundw
      case rel=>exact ⟨k+1,uO,vN,Yz hall2.out HTT.out,hbel.trans (b2.mono (by rw [← HSZ.out];exact hbel.size))⟩
      case measure=>simp [intOf];omega
     ·have HTT:Hid (oG ts k=false):=by unfold Hid;simpa using ht
      have HE:Hid (Bn (mZ [n0,n1,n2,n3,n4,n5,n6] ts)=1):=by unfold Hid mZ;rw [vR uO HTT.out,Bool.and_false];rfl
      clear ht
      go_wp2_with (go_at_call 60;refine (Xu b off len cap k ts _ hlt2 uO HCR.out).mono ?_;rintro e w2 ⟨rfl,b2⟩;rw [HTT.out])
      go_ret
      exact ⟨by rw [HE.out];rfl,(hW.trans (hbel.mono uO)).trans (b2.mono (by have:=hbel.size;rw [HSZ.out] at this;omega))⟩
    ·have HE:Hid (Bn (mZ [n0,n1,n2,n3,n4,n5,n6] ts)=0):=by unfold Hid mZ;rw [eN uO uO (fun j hj=>hall2.out j uO),Bool.and_true];have:=hall.out;rw [List.take_of_length_le vS] at this;rw [this];rfl
     clear hcell
     go_wp2
     go_ret
     exact ⟨by rw [HE.out];rfl,hW.trans (hbel.mono uO)⟩
theorem bD {w:World} {g len:Nat} {ts:List (Int × Int)} (h:w.heap[g]?=some (.cells (qV (yX ts)).toArray 107 (0,0))) (hl:ts.length=len) (hb:len * 16<=140737488351232) :
 tiersAt w (some (aq g 0)) len (len+8) ts:=by
 refine ⟨hl,uO,uO,fun e=>by simp at e,fun _=>⟨g,0,rfl,(blt h),fun i hi=>?_⟩⟩
 have hf:=dV (yX ts) i (by rw [eX];omega)
 rw [sF uO] at hf
 constructor
 ·rw [uI h];simpa using hf.1
 ·rw [uI h];simpa using hf.2
theorem Ve (n0 n1 n2 n3 n4 n5 n6:Int) (w:World) :
 Ca 52 #[.agg #[iv n0,iv n1,iv n2,iv n3,iv n4,iv n5,iv n6,.slice none 0 0]] w fun e w'=>e=.returned (.bool true)/\Below w.heap.size w w':=by
 have ht:∀ w':World,tiersAt w' none 0 0 []:=fun w'=>⟨rfl,uA _,uO,fun _=>⟨rfl,rfl⟩,fun h=>absurd rfl h⟩
 have HT:Hid (∀ w':World,tiersAt w' none 0 0 []):=ht
 clear ht
 go_enter Tryz.func52,Tryz.ntmps52
 go_wp2_with fail
 refine (Dg n0 n1 n2 n3 n4 n5 n6 _).mono ?_
 rintro e w1 ⟨rfl,b1⟩
 have hbox:Hid (w1.heap[w.heap.size]?=some (.cells #[iv n0,iv n1,iv n2,iv n3,iv n4,iv n5,iv n6,.slice none 0 0] 24)):=(b1.block w.heap.size vS).trans (uF w _)
 have s1:w.heap.size<w1.heap.size:=by have:=b1.size;simp at this;omega
 have w01:Bl w w1:=((uM _ _).alloc (uA _) _).trans (b1.mono vS)
 go_wp2_with fail
 refine (rI n0 n1 n2 n3 n4 n5 n6 none 0 0 [] _ (HT.out _)).mono ?_
 rintro e w2 ⟨rfl,b2⟩
 have hbox2:Hid (w2.heap[w.heap.size]?=some (.cells #[iv n0,iv n1,iv n2,iv n3,iv n4,iv n5,iv n6,.slice none 0 0] 24)):=(b2.block w.heap.size uT).trans ((uE _ _ _ s1).trans hbox.out)
 have hl2:Hid (w2.heap[w1.heap.size]?=some (.cells #[iv n0,iv n1,iv n2,iv n3,iv n4,iv n5,iv n6,.slice none 0 0] 24)):=(b2.block w1.heap.size vS).trans (uF w1 _)
 have s2:w1.heap.size<w2.heap.size:=by have:=b2.size;simp at this;omega
 have w02:Bl w w2:=(w01.alloc (uY s1) _).trans (b2.mono uT)
 obtain ⟨k0,k1,k2,k3,k4,k5,k6,k7,kf⟩:=kS hbox2.out
 go_wp2_with fail
 refine (fS n0 n1 n2 n3 n4 n5 n6 none 0 0 [] _ (HT.out _)).mono ?_
 rintro e w3 ⟨rfl,b3⟩
 clear k0 k1 k2 k3 k4 k5 k6 k7 kf
 obtain ⟨k0,k1,k2,k3,k4,k5,k6,k7,kf⟩:=kS ((b3.block w.heap.size uO).trans hbox2.out)
 obtain ⟨l0,l1,l2,l3,l4,l5,l6,l7,lf⟩:=kS ((b3.block w1.heap.size s2).trans hl2.out)
 have w03:Bl w w3:=w02.trans (b3.mono uO)
 go_wp2_with fail
 refine (Kf n0 n1 n2 n3 n4 n5 n6 n0 n1 n2 n3 n4 n5 n6 _ _).mono ?_
 rintro e w4 ⟨rfl,b4⟩
 clear k0 k1 k2 k3 k4 k5 k6 k7 kf l0 l1 l2 l3 l4 l5 l6 l7 lf
 go_wp2
 go_ret
 exact ⟨rfl,w03.trans (b4.mono (by have:=b3.size;omega))⟩
theorem Qz (n0 n1 n2 n3 n4 n5 n6:Int) (x:Addr) (len cap:Nat) (ts:List (Int × Int)) (w:World) (h:tiersAt w (some x) len cap ts) (hb:len * 16<=140737488351232) :
 Ca 52 #[.agg #[iv n0,iv n1,iv n2,iv n3,iv n4,iv n5,iv n6,.slice (some x) len cap]] w fun e w'=>e=.returned (.bool true)/\Below w.heap.size w w':=by
 have HT:Hid (tiersAt w (some x) len cap ts):=h
 have hxw:ts≠[]->x.block<w.heap.size:=fun hn=>by
  obtain ⟨b,off,hx,hbw,_⟩:=h.2.2.2.2 hn
  have:=Option.some.inj hx
  subst this
  exact hbw
 have HX:Hid (ts≠[]->x.block<w.heap.size):=hxw
 have hl:Hid (ts.length=len):=h.1
 clear h hxw
 go_enter Tryz.func52,Tryz.ntmps52
 go_wp2_with fail
 refine (iW n0 n1 n2 n3 n4 n5 n6 x len cap ts _ (HT.out.below ((uM _ _).alloc (uA _) _) (uA _))).mono ?_
 rintro e w1 ⟨g,rfl,hg,hrow,b1⟩
 have hg':w.heap.size<g:=by simp at hg;omega
 have hbox:Hid (w1.heap[w.heap.size]?=some (.cells #[iv n0,iv n1,iv n2,iv n3,iv n4,iv n5,iv n6,.slice (some x) len cap] 24)):=(b1.block w.heap.size vS).trans (uF w _)
 have hg1:g<w1.heap.size:=(blt hrow)
 have s1:w.heap.size<w1.heap.size:=uO
 have w01:Below w.heap.size w w1:=((uM _ _).alloc (uA _) _).trans (b1.mono vS)
 have HROW:Hid (w1.heap[g]?=some (.cells (qV (yX ts)).toArray 107 (0,0))):=hrow
 clear hrow b1 hg
 go_wp2_with fail
 refine (rI n0 n1 n2 n3 n4 n5 n6 (some (aq g 0)) len (len+8) ts _ (bD ((uE _ _ _ hg1).trans HROW.out) hl.out hb)).mono ?_
 rintro e w2 ⟨rfl,b2⟩
 have hbox2:Hid (w2.heap[w.heap.size]?=some (.cells #[iv n0,iv n1,iv n2,iv n3,iv n4,iv n5,iv n6,.slice (some x) len cap] 24)):=(b2.block w.heap.size uT).trans ((uE _ _ _ s1).trans hbox.out)
 have hl2:Hid (w2.heap[w1.heap.size]?=some (.cells #[iv n0,iv n1,iv n2,iv n3,iv n4,iv n5,iv n6,.slice (some (aq g 0)) len (len+8)] 24)):=(b2.block w1.heap.size vS).trans (uF w1 _)
 have HROW2:Hid (w2.heap[g]?=some (.cells (qV (yX ts)).toArray 107 (0,0))):=(b2.block g uT).trans ((uE _ _ _ hg1).trans HROW.out)
 have s2:w1.heap.size<w2.heap.size:=by have:=b2.size;simp at this;omega
 have w02:Below w.heap.size w w2:=(w01.alloc (uY s1) _).trans (b2.mono uT)
 obtain ⟨k0,k1,k2,k3,k4,k5,k6,k7,kf⟩:=kS hbox2.out
 go_wp2_with fail
 refine (fS n0 n1 n2 n3 n4 n5 n6 (some x) len cap ts _ (HT.out.below w02 (uA _))).mono ?_
 rintro e w3 ⟨rfl,b3⟩
 clear k0 k1 k2 k3 k4 k5 k6 k7 kf
 obtain ⟨k0,k1,k2,k3,k4,k5,k6,k7,kf⟩:=kS ((b3.block w.heap.size uO).trans hbox2.out)
 obtain ⟨l0,l1,l2,l3,l4,l5,l6,l7,lf⟩:=kS ((b3.block w1.heap.size s2).trans hl2.out)
 have w03:Below w.heap.size w w3:=w02.trans (b3.mono uO)
 go_wp2_with fail
 refine (aW n0 n1 n2 n3 n4 n5 n6 n0 n1 n2 n3 n4 n5 n6 x g len cap ts _ (HT.out.below w03 (uA _)) (fun hn=>by have:=HX.out hn;omega) ((b3.block g uO).trans HROW2.out)).mono ?_
 rintro e w4 ⟨rfl,g4⟩
 clear k0 k1 k2 k3 k4 k5 k6 k7 kf l0 l1 l2 l3 l4 l5 l6 l7 lf
 go_wp2
 go_ret
 exact ⟨rfl,w03.grown g4 (by have:=b3.size;omega) (fun k hk=>by simp at hk;omega)⟩
theorem Ub (n0 n1 n2 n3 n4 n5 n6:Int) (a:Option Addr) (len cap:Nat) (ts:List (Int × Int)) (w:World) (h:tiersAt w a len cap ts) (hb:len * 16<=140737488351232) :
 Ca 52 #[.agg #[iv n0,iv n1,iv n2,iv n3,iv n4,iv n5,iv n6,.slice a len cap]] w fun e w'=>e=.returned (.bool true)/\Below w.heap.size w w':=by
 cases a with
 | none =>
   obtain ⟨rfl,rfl⟩:=h.2.2.2.1 rfl
   exact Ve n0 n1 n2 n3 n4 n5 n6 w
 | some x=>exact Qz n0 n1 n2 n3 n4 n5 n6 x len cap ts w h hb
theorem yD {w:World} {p:Nat} {c0 c1 c2 c3 c4:Value} {T:TypeId} (h:w.heap[p]?=some (.cells #[c0,c1,c2,c3,c4] T)) :
 w.cell? (aq p 0)=some c0/\w.cell? (aq p 1)=some c1/\w.cell? (aq p 2)=some c2/\w.cell? (aq p 3)=some c3/\w.cell? (aq p 4)=some c4:=by
 refine ⟨?_,?_,?_,?_,?_⟩
 all_goals (rw [uI h];rfl)
def cfgAt (w:World) (b i:Nat):Prop :=
 ∃ (n0 n1 n2 n3 n4 n5 n6:Int) (a:Option Addr) (len cap:Nat) (ts:List (Int × Int)),w.cell? (aq b i)=some (iv n0)/\w.cell? (aq b (i+1))=some (iv n1)/\w.cell? (aq b (i+2))=some (iv n2)/\w.cell? (aq b (i+3))=some (iv n3) ∧
  w.cell? (aq b (i+4))=some (iv n4)/\w.cell? (aq b (i+5))=some (iv n5)/\w.cell? (aq b (i+6))=some (iv n6)/\w.cell? (aq b (i+7))=some (.slice a len cap)/\tiersAt w a len cap ts/\len * 16<=140737488351232
def cfgsAt (w:World) (a:Option Addr) (len:Nat):Prop:=len * 80<=140737488351232/\(0<len->∃ b off,a=some (aq b off)/\b<w.heap.size/\∀ i,i<len->cfgAt w b (off+i * 8))
theorem cfgAt.below {w w':World} {b i B:Nat} (h:cfgAt w b i) (hb:Below B w w') (hB:w.heap.size<=B) (hbB:b<B):cfgAt w' b i:=by
 obtain ⟨n0,n1,n2,n3,n4,n5,n6,a,len,cap,ts,h0,h1,h2,h3,h4,h5,h6,h7,ht,hl⟩:=h
 exact ⟨n0,n1,n2,n3,n4,n5,n6,a,len,cap,ts,(hb.cell (p:=(aq b i)) hbB).trans h0,(hb.cell (p:=(aq b (i+1))) hbB).trans h1,(hb.cell (p:=(aq b (i+2))) hbB).trans h2,(hb.cell (p:=(aq b (i+3))) hbB).trans h3,(hb.cell (p:=(aq b (i+4))) hbB).trans h4,(hb.cell (p:=(aq b (i+5))) hbB).trans h5,(hb.cell (p:=(aq b (i+6))) hbB).trans h6,(hb.cell (p:=(aq b (i+7))) hbB).trans h7,ht.below hb hB,hl⟩
theorem Fa (p:Nat) (a:Option Addr) (len cap:Nat) (o:OpV) (w:World) (hk:o.k=1) (ho:-9223372036854775808<=o.a/\o.a<=9223372036854775807) (h0:w.cell? (aq p 0)=some (.slice a len cap)) (hc:cfgsAt w a len) :
 Ca 32 #[pt p 0,o.val] w fun e w'=>e=.returned (.bool true)/\Below w.heap.size w w':=by
 obtain ⟨k,oa,ob,oc,od,oe,os⟩:=o
 simp only at hk ho
 subst hk
 unfold OpV.val
 simp only
 have hpw:p<w.heap.size:=uC w _ h0
 by_cases hz:len=0
 ·subst hz
  go_enter Tryz.func32,Tryz.ntmps32
  go_wp2
  go_ret
  exact ⟨rfl,(uM _ _).alloc (uA _) _⟩
 ·have hz':((len:Int)==0)=false:=by simp;omega
  obtain ⟨hl80,hcs⟩:=hc
  obtain ⟨b,off,rfl,hbw,hcfg⟩:=hcs uO
  have HC:Hid (∀ i,i<len->cfgAt w b (off+i * 8)):=hcfg
  have HO:Hid (-9223372036854775808<=oa/\oa<=9223372036854775807):=ho
  clear hcs hcfg ho
  go_enter Tryz.func32,Tryz.ntmps32
  go_wp2
  have hr:zZ oa len<len:=vX oa uO
  have HPK:Hid (∀ w':World,Ca 51 #[iv oa,iv len] w' fun e w2=>e=.returned (iv (zZ oa len))/\w'=w2):=fun w'=>dS oa len w' HO.out uO uO
  generalize zZ oa len=r at hr HPK
  obtain ⟨n0,n1,n2,n3,n4,n5,n6,a',len',cap',ts,c0,c1,c2,c3,c4,c5,c6,c7,ht,hl⟩:=HC.out r hr
  have HT:Hid (tiersAt w a' len' cap' ts):=ht
  have hr':(r:Int)<(len:Int):=uO
  clear ht
  go_region_held3 (fun w'=>w'.cell? (aq p 0)=some (.slice (some (aq b off)) len cap)/\w'.cell? (aq w.heap.size 1)=some (iv oa)/\w'.cell? (aq b (off+r * 8))=some (iv n0)/\w'.cell? (aq b (off+r * 8+1))=some (iv n1)/\w'.cell? (aq b (off+r * 8+2))=some (iv n2)/\w'.cell? (aq b (off+r * 8+3))=some (iv n3)/\w'.cell? (aq b (off+r * 8+4))=some (iv n4)/\w'.cell? (aq b (off+r * 8+5))=some (iv n5)/\w'.cell? (aq b (off+r * 8+6))=some (iv n6)/\w'.cell? (aq b (off+r * 8+7))=some (.slice a' len' cap')) (simp [go_sem,World.cell?_alloc_past, *])
   (first
     | (go_at_call 51;refine (HPK.out _).mono ?_;rintro e w' ⟨rfl,rfl⟩))
  all_goals
   clear c0 c1 c2 c3 c4 c5 c6 c7
   go_wp2_with (go_at_call 52;refine (Ub n0 n1 n2 n3 n4 n5 n6 a' len' cap' ts _ (HT.out.below (B:=w.heap.size) bL (uA _)) hl).mono ?_;rintro e w2 ⟨rfl,b2⟩)
   go_ret
   exact ⟨rfl,uL bL (b2.mono uS)⟩
def ZZ (n:Nat):Int:=-1000 - (n:Int)
theorem iJ (n:Nat) (w:World) (hn:n<4611686018427387904) :
 Ca 56 #[iv n] w fun e w'=>e=.returned (.agg #[iv (ZZ n),iv (ZZ n)])/\Below w.heap.size w w':=by
 go_enter Tryz.func56,Tryz.ntmps56
 go_wp2
 exact uK (v:=.agg #[iv (ZZ n),iv (ZZ n)]) (by simp [results,Tryz.results56,go_sem,ZZ]) rfl ⟨rfl,(uM _ _).alloc (uA _) _⟩
def gI (w:World) (P i:Nat) (v:Value):Prop :=
 v=.slice none 0 0\/∃ g n,v=.slice (some (aq g 0)) n n/\n<=maxLen/\P<g/\w.heap[g]?=some (.cells (qV (List.replicate n (ZZ i,ZZ i))).toArray 123 (0,0))
theorem bN {w:World} {g n i q:Nat} (h:w.heap[g]?=some (.cells (qV (List.replicate n (ZZ i,ZZ i))).toArray 123 (0,0))) (hq:q<n) :
 w.cell? (aq g (q * 2))=some (iv (ZZ i))/\w.cell? (aq g (q * 2+1))=some (iv (ZZ i)):=by
 have hf:=dV (List.replicate n (ZZ i,ZZ i)) q (by simpa using hq)
 have hg:(List.replicate n (ZZ i,ZZ i)).getD q (0,0)=(ZZ i,ZZ i):=by simp [List.getD,hq]
 rw [hg] at hf
 exact ⟨by rw [uI h,List.getElem?_toArray];exact hf.1,by rw [uI h,List.getElem?_toArray];exact hf.2⟩
structure Both (PW:World->Nat->(Nat->Prop)->Int->List (Int × Int)->Prop) (w w2:World) (P B R x:Nat) (own:Nat->Prop) (c0 c1 c2 c3 vd v:Value) (Ld:List Value) (now:Int) (L o:List (Int × Int)) (out1 out2:Value) (own':Nat->Prop) (v':Value):Prop where
 world:w2.heap[P]?=some (.cells #[c0,c1,c2,c3,vd] 81)
 dues:w2.ownsRow (P+1) 121 1 vd Ld.length Ld
 pw:PW w2 x own' now L
 rw:fC w2 B R now v' L
 l1:w2.ownsRow (w.heap.size+1) 123 2 out1 o.length (qV o)
 l2:w2.ownsRow (w.heap.size+1) 123 2 out2 o.length (qV o)
 same:Same (fun b=>own b\/b=R) w w2
 fresh:∀ k,own' k->own k\/w.heap.size<k
 vfresh:∀ k,v'.ownBlock=some k->v.ownBlock=some k\/w.heap.size<k
 n1:∀ k,out1.ownBlock=some k->¬ own' k
 n2:∀ k,out1.ownBlock=some k->v'.ownBlock≠some k
 n3:∀ k,v'.ownBlock=some k->¬ own' k
theorem ZR {PW:World->Nat->(Nat->Prop)->Int->List (Int × Int)->Prop} (T:Timers PW) {P B R x:Nat} {own own1:Nat->Prop} {c0 c1 c2 c3 vd v:Value} {Ld:List Value} {now now':Int} {L L' o:List (Int × Int)} {w w1 w2:World} {O:Obj} {out1 out2:Value}
 (hw:w.heap[P]?=some (.cells #[c0,c1,c2,c3,vd] 81)) (hd:w.ownsRow (P+1) 121 1 vd Ld.length Ld) (hr:fC w B R now v L)
 (n1:¬ own P) (n2:∀ k,vd.ownBlock=some k->¬ own k) (n3:¬ own R) (n4:∀ k,v.ownBlock=some k->¬ own k)
 (ho1:w1.ownsRow (w.heap.size+1) 123 2 out1 o.length (qV o)) (hp1:PW w1 x own1 now' L') (hs1:Same own (w.alloc O) w1) (hf1:∀ k,own1 k->own k\/w.heap.size+1<=k) (hd1:∀ k,out1.ownBlock=some k->¬ own1 k)
 (hA:mR w1 w2 B R v now' out2 o L'):∃ v',Both PW w w2 P B R x own c0 c1 c2 c3 vd v Ld now' L' o out1 out2 own1 v':=by
 obtain ⟨ho2,v',hr2,hs2,hv2,hd2⟩:=hA
 have hP:P<w.heap.size:=(blt hw)
 have hR:R<w.heap.size:=(blt hr.1)
 have hPR:P≠R:=fun e=>by rw [e,hr.1] at hw;simp at hw
 have z1:w.heap.size+1<=w1.heap.size:=by have:=hs1.size;simpa using this
 have z2:=hs2.size
 have lt1:=T.lt hp1
 have k1:∀ k,k<w.heap.size->¬ own k->w1.heap[k]?=w.heap[k]?:=fun k hk hn=>(hs1.block k uT hn).trans (uE w O k hk)
 have k2:∀ k,k<w.heap.size->¬ own k->k≠R->w2.heap[k]?=w.heap[k]?:=fun k hk hn hne=>(hs2.block k uO hne).trans (k1 k hk hn)
 have hR1:¬ own1 R:=fun e=>by rcases hf1 R e with h|h
                              ·exact n3 h
                              ·omega
 have hvd:=uJ hd
 have hvv:=uJ hr.2
 have hr1:w1.heap[R]?=some (.cells #[iv now,v] 159):=(k1 R hR n3).trans hr.1
 refine ⟨v',⟨(k2 P hP n1 hPR).trans hw,qG hd (fun k hk=>k2 k (hvd k hk).2 (n2 k hk) (fun e=>qP hd hr.1 vO (e▸hk))),T.keep hp1 z2 (fun k hk=>hs2.block k (lt1 k hk) (fun e=>hR1 (e▸hk))),hr2,
  qG ho1 (fun k hk=>hs2.block k (uJ ho1 k hk).2 (fun e=>qP ho1 hr1 vO (e▸hk))),eK ho2 z1,⟨?_,?_,?_,uO,fun k hk hn=>k2 k hk (fun e=>hn (.inl e)) (fun e=>hn (.inr e))⟩,
  hf1,?_,hd1,?_,?_⟩⟩
 ·exact hs2.os.trans hs1.os
 ·exact hs2.tape.trans hs1.tape
 ·exact hs2.output.trans hs1.output
 ·intro k hk
  rcases hv2 k hk with h|h
  ·exact .inl h
  ·exact .inr uO
 ·intro k hk hk'
  have h1:=uJ ho1 k hk
  rcases hv2 k hk' with h|h
  ·have:=(hvv k h).2;omega
  ·omega
 ·intro k hk hk'
  rcases hv2 k hk with h|h
  ·rcases hf1 k hk' with h'|h'
   ·exact n4 k h h'
   ·have:=(hvv k h).2;omega
  ·have:=lt1 k hk';omega
def fI (PW:World->Nat->(Nat->Prop)->Int->List (Int × Int)->Prop) (w w':World) (P B R x:Nat) (own:Nat->Prop) (c0 c1 c2 c3 vd v:Value) (Ld:List Value) (now:Int) (L:List (Int × Int)):Prop :=
 ∃ m vd' v' own',w'.heap[P]?=some (.cells #[c0,c1,c2,c3,vd'] 81)/\w'.ownsRow (P+1) 121 1 vd' (Ld++[m]).length (Ld++[m])/\gI w' P Ld.length m/\PW w' x own' now L/\fC w' B R now v' L ∧
  Same (fun b=>own b\/b=R\/b=P\/vd.ownBlock=some b) w w'/\(∀ k,own' k->own k\/w.heap.size<=k)/\(∀ k,v'.ownBlock=some k->v.ownBlock=some k\/w.heap.size<=k)/\(∀ k,vd'.ownBlock=some k->vd.ownBlock=some k\/w.heap.size<=k) ∧
  (∀ k,m.ownBlock=some k->w.heap.size<=k/\¬ own' k/\v'.ownBlock≠some k)/\(∀ k,v'.ownBlock=some k->¬ own' k)/\(∀ k,vd'.ownBlock=some k->¬ own' k)
theorem Uu {PW:World->Nat->(Nat->Prop)->Int->List (Int × Int)->Prop} (T:Timers PW) {w w2 wr w3:World} {P B R x:Nat} {own own':Nat->Prop} {c0 c1 c2 c3 vd vd' v v' m out1 out2:Value} {Ld:List Value} {now:Int} {L o:List (Int × Int)} {O:Obj}
 (hb:Both PW w w2 P B R x own c0 c1 c2 c3 vd v Ld now L o out1 out2 own' v') (hP:P<w.heap.size) (n1:¬ own P) (n2:∀ k,vd.ownBlock=some k->k<w.heap.size/\¬ own k) (hg1:w2.grownBy wr out1.ownBlock) (hm:gI wr P Ld.length m) (hmo:m.ownBlock=out1.ownBlock)
 (hown3:w3.ownsRow (P+1) 121 1 vd' (Ld.length+1) (Ld++[m])) (hg:(wr.alloc O).grownBy w3 vd.ownBlock) (hat:vd'.ownBlock=vd.ownBlock\/vd'.ownBlock=some (wr.alloc O).heap.size) :
 fI PW w (w3.sc P 4 vd') P B R x own c0 c1 c2 c3 vd v Ld now L:=by
 have hlt:=T.lt hb.pw
 have z2:=hb.same.size
 have zr:=hg1.size
 have z3:wr.heap.size+1<=w3.heap.size:=by have:=hg.size;simpa using this
 have ho:=uJ hb.l1
 have hvd:=uJ hb.dues
 have hv:=uJ hb.rw.2
 have hR2:R<w2.heap.size:=(blt hb.rw.1)
 have hPR:P≠R:=fun e=>by have:=hb.world;rw [e,hb.rw.1] at this;simp at this
 have hPo:out1.ownBlock≠some P:=fun e=>by have:=(ho P e).1;omega
 have hPd:vd.ownBlock≠some P:=fun e=>by have:=(hvd P e).1;omega
 have kr:∀ k,k<wr.heap.size->vd.ownBlock≠some k->w3.heap[k]?=wr.heap[k]?:=fun k hk hn=>(hg.block k uT (fun e=>hn e.symm)).trans (uE wr O k hk)
 have k3:∀ k,k<w2.heap.size->out1.ownBlock≠some k->vd.ownBlock≠some k->w3.heap[k]?=w2.heap[k]?:=fun k hk h1 h2=>(kr k uO h2).trans (hg1.block k hk (fun e=>h1 e.symm))
 have ks:∀ k,k≠P->(w3.sc P 4 vd').heap[k]?=w3.heap[k]?:=fun k hk=>uG _ (aq P 4) _ _ hk
 have hP3:w3.heap[P]?=some (.cells #[c0,c1,c2,c3,vd] 81):=(k3 P uO hPo hPd).trans hb.world
 have hoP:¬ own' P:=fun e=>by rcases hb.fresh P e with h|h
                              ·exact n1 h
                              ·omega
 have hod:∀ k,vd.ownBlock=some k->¬ own' k:=fun k hk e=>by
  rcases hb.fresh k e with h|h
  ·exact (n2 k hk).2 h
  ·have:=(n2 k hk).1;omega
 have hvP:v'.ownBlock≠some P:=qP hb.rw.2 hb.world vO
 refine ⟨m,vd',v',own',?_,?_,?_,?_,⟨?_,?_⟩,?_,?_,?_,?_,?_,hb.n3,?_⟩
 ·rw [uH hP3];rfl
 ·rw [List.length_append,List.length_singleton]
  exact qG hown3 (fun k hk=>ks k (fun e=>by have:=(uJ hown3 k hk).1;omega))
 ·rcases hm with h|⟨g,n,h,hn,hPg,hh⟩
  ·exact .inl h
  ·refine .inr ⟨g,n,h,hn,hPg,?_⟩
   have hgw:g<wr.heap.size:=(blt hh)
   have hdr:wr.ownsRow (P+1) 121 1 vd Ld.length Ld:=qG hb.dues (fun k hk=>hg1.block k (hvd k hk).2 (fun e=>by
    have h1:=(ho k e.symm).1
    have h2:=(n2 k hk).1
    omega))
   rw [ks g uO,kr g hgw (qP hdr hh vO)]
   exact hh
 ·exact T.keep hb.pw (by simp [World.setCell];omega) (fun k hk=>(ks k (fun e=>hoP (e▸hk))).trans (k3 k (hlt k hk) (fun e=>hb.n1 k e hk) (fun e=>hod k e hk)))
 ·rw [ks R (fun e=>hPR e.symm),k3 R hR2 (qP hb.l1 hb.rw.1 vO) (qP hb.dues hb.rw.1 vO)]
  exact hb.rw.1
 ·refine qG hb.rw.2 (fun k hk=>(ks k (fun e=>hvP (e▸hk))).trans (k3 k (hv k hk).2 (fun e=>hb.n2 k e hk) (fun e=>?_)))
  rcases hb.rw.2.2 with ⟨hh,_⟩|⟨g,c,cur,hh,_,hg',_⟩
  ·rw [hh] at hk;simp [Value.ownBlock] at hk
  ·rw [hh] at hk
   simp [Value.ownBlock] at hk
   subst hk
   exact qP hb.dues hg' vO e
 ·refine ⟨hg.os.trans (hg1.os.trans hb.same.os),hg.tape.trans (hg1.tape.trans hb.same.tape),hg.output.trans (hg1.output.trans hb.same.output),by simp [World.setCell];omega,fun k hk hn=>?_⟩
  rw [ks k (fun e=>hn (.inr (.inr (.inl e)))),k3 k uO (fun e=>by have:=(ho k e).1;omega) (fun e=>hn (.inr (.inr (.inr e))))]
  exact hb.same.block k hk (fun e=>hn (e.elim .inl (fun e=>.inr (.inl e))))
 ·exact fun k hk=>(hb.fresh k hk).imp id uO
 ·exact fun k hk=>(hb.vfresh k hk).imp id uO
 ·intro k hk
  rcases hat with e|e
  ·exact .inl (e.symm.trans hk)
  ·rw [hk] at e;simp at e;exact .inr uO
 ·intro k hk
  rw [hmo] at hk
  exact ⟨by have:=(ho k hk).1;omega,hb.n1 k hk,hb.n2 k hk⟩
 ·intro k hk hk'
  rcases hat with e|e
  ·exact hod k (e.symm.trans hk) hk'
  ·rw [hk] at e;simp at e
   have:=hlt k hk'
   omega
