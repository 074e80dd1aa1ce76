import Derived.Test.YtfhncfghblkgeaaGreatL11
set_option maxRecDepth 100000
set_option maxHeartbeats 2000000
namespace Go.Proofs.YtfhncfghblkgeaaGreat
open Go.RowKit
theorem jir (a:Option Addr) (len cap:Nat) (ts:List (Int × Int)) (w:World) (h:tiersAt w a len cap ts) :
 Calls Tryz.prog 91 #[.slice a len cap] w fun e w'=>e=.returned (.bool (jbo ts))/\Below w.heap.size w w':=by
 obtain ⟨hl,hlc,hm,hn,hc⟩:=h
 by_cases h1:len<1
 ·have HN:Hid (jbo ts=false):=jet (by omega)
  have hd1:decide ((len:Int)<1)=true:=by simp;omega
  go_enter Tryz.func91,Tryz.ntmps91
  go_wp2
  go_ret
  exact ⟨by rw [HN.out];rfl,Below.refl _ _⟩
 by_cases h4:4<len
 ·have HN:Hid (jbo ts=false):=jet (by omega)
  have hd1:decide ((len:Int)<1)=false:=by simp;omega
  have hd4:decide (4<(len:Int))=true:=by simp;omega
  go_enter Tryz.func91,Tryz.ntmps91
  go_wp2
  go_ret
  exact ⟨by rw [HN.out];rfl,Below.refl _ _⟩
 ·obtain ⟨b,off,rfl,_,hcell⟩:=hc (fun e=>by rw [e] at hl;simp at hl;omega)
  exact jna b off len cap ts w hl (by omega) (by omega) hcell
theorem jgy (b:Nat) (n0 n1 n2 n3 n4 n5 n6:Int) (w:World) (h0:w.cell? (aq b 0)=some (iv n0)) (h1:w.cell? (aq b 1)=some (iv n1)) (h2:w.cell? (aq b 2)=some (iv n2)) (h3:w.cell? (aq b 3)=some (iv n3)) (h4:w.cell? (aq b 4)=some (iv n4)) (h5:w.cell? (aq b 5)=some (iv n5)) (h6:w.cell? (aq b 6)=some (iv n6)) :
 Calls Tryz.prog 90 #[.slice (some (aq b 0)) 7 7] w fun e w'=>e=.returned (.bool ([n0,n1,n2,n3,n4,n5,n6].all jbn))/\w=w' :=
 jfr b 0 7 [n0,n1,n2,n3,n4,n5,n6] w (by simp) (fun i hi=>by
  match i,hi with
  | 0,_=>simpa using h0
  | 1,_=>simpa using h1
  | 2,_=>simpa using h2
  | 3,_=>simpa using h3
  | 4,_=>simpa using h4
  | 5,_=>simpa using h5
  | 6,_=>simpa using h6)
def jh2 (ns:List Int) (ts:List (Int × Int)):Bool:=ns.all jbn && jbo ts
def jww (b:Bool):Int:=if b then 0 else 1
theorem jqt (n0 n1 n2 n3 n4 n5 n6:Int) (a:Option Addr) (len cap:Nat) (ts:List (Int × Int)) (w:World) (h:tiersAt w a len cap ts) :
 Calls Tryz.prog 54 #[.agg #[iv n0,iv n1,iv n2,iv n3,iv n4,iv n5,iv n6,.slice a len cap]] w fun e w'=>e=.returned (iv (jww (jh2 [n0,n1,n2,n3,n4,n5,n6] ts)))/\Below w.heap.size w w':=by
 have HT:Hid (tiersAt w a len cap ts):=h
 clear h
 by_cases hn:[n0,n1,n2,n3,n4,n5,n6].all jbn=true
 ·have HN:Hid ([n0,n1,n2,n3,n4,n5,n6].all jbn=true):=hn
  clear hn
  by_cases hp:jbo ts=true
  ·have HP:Hid (jbo ts=true):=hp
   have HE:Hid (jww (jh2 [n0,n1,n2,n3,n4,n5,n6] ts)=0):=by unfold Hid jh2;rw [HN.out,hp];rfl
   clear hp
   go_enter Tryz.func54,Tryz.ntmps54
   go_wp2_with (first
    | (go_at_call 90;refine (jgy _ n0 n1 n2 n3 n4 n5 n6 _ (by simp [go_sem]) (by simp [go_sem]) (by simp [go_sem]) (by simp [go_sem]) (by simp [go_sem]) (by simp [go_sem]) (by simp [go_sem])).mono ?_;rintro e w' ⟨rfl,rfl⟩;rw [HN.out])
    | (go_at_call 91;refine (jir a len cap ts _ (HT.out.below (B:=w.heap.size) bL (Nat.le_refl _))).mono ?_;rintro e w2 ⟨rfl,b2⟩;rw [HP.out]))
   go_ret
   exact ⟨by rw [HE.out];rfl,Below.trans bL (b2.mono (by simp<;>omega))⟩
  ·have HP:Hid (jbo ts=false):=by unfold Hid;simpa using hp
   have HE:Hid (jww (jh2 [n0,n1,n2,n3,n4,n5,n6] ts)=1):=by unfold Hid jh2;rw [HN.out,HP.out];rfl
   clear hp
   go_enter Tryz.func54,Tryz.ntmps54
   go_wp2_with (first
    | (go_at_call 90;refine (jgy _ n0 n1 n2 n3 n4 n5 n6 _ (by simp [go_sem]) (by simp [go_sem]) (by simp [go_sem]) (by simp [go_sem]) (by simp [go_sem]) (by simp [go_sem]) (by simp [go_sem])).mono ?_;rintro e w' ⟨rfl,rfl⟩;rw [HN.out])
    | (go_at_call 91;refine (jir a len cap ts _ (HT.out.below (B:=w.heap.size) bL (Nat.le_refl _))).mono ?_;rintro e w2 ⟨rfl,b2⟩;rw [HP.out]))
   go_ret
   exact ⟨by rw [HE.out];rfl,Below.trans bL (b2.mono (by simp<;>omega))⟩
 ·have HN:Hid ([n0,n1,n2,n3,n4,n5,n6].all jbn=false):=by unfold Hid;simpa using hn
  have HE:Hid (jww (jh2 [n0,n1,n2,n3,n4,n5,n6] ts)=1):=by unfold Hid jh2;rw [HN.out];rfl
  clear hn
  go_enter Tryz.func54,Tryz.ntmps54
  go_wp2_with (go_at_call 90;refine (jgy _ n0 n1 n2 n3 n4 n5 n6 _ (by simp [go_sem]) (by simp [go_sem]) (by simp [go_sem]) (by simp [go_sem]) (by simp [go_sem]) (by simp [go_sem]) (by simp [go_sem])).mono ?_;rintro e w' ⟨rfl,rfl⟩;rw [HN.out])
  go_ret
  exact ⟨by rw [HE.out];rfl,bL⟩
theorem jra (b off len cap k:Nat) (ts:List (Int × Int)) (w:World) (hlt:k<len) (h4:len<=4)
 (hcell:∀ i,i<len->w.cell? (aq b (off+i * 2))=some (iv (ts.getD i (0,0)).1)/\w.cell? (aq b (off+i * 2+1))=some (iv (ts.getD i (0,0)).2)) :
 Calls Tryz.prog 93 #[.slice (some (aq b off)) len cap,iv k] w fun e w'=>e=.returned (.bool (jea ts k))/\Below w.heap.size w w':=by
 have hcf:=(hcell k hlt).1
 have hcc:=(hcell k hlt).2
 have hbw:b<w.heap.size:=World.block_lt_of_cell? w _ hcf
 generalize hf:(ts.getD k (0,0)).1=f at hcf
 generalize hc:(ts.getD k (0,0)).2=c at hcc
 have HF:Hid ((ts.getD k (0,0)).1=f):=hf
 have HC:Hid ((ts.getD k (0,0)).2=c):=hc
 clear hf hc
 by_cases b1:1<=c
 ·have d1:decide (c<1)=false:=by simp;omega
  by_cases b2:c<=1073741824
  ·have d2:decide (1073741824<c)=false:=by simp;omega
   by_cases b3:f<=4294967296
   ·have d3:decide (4294967296<f)=false:=by simp;omega
    by_cases hk0:k=0
    ·subst hk0
     have HT:Hid (jea ts 0=(f==0)):=jkb HF.out HC.out b1 b2 b3
     simp only [Nat.zero_mul,Nat.add_zero] at hcf hcc
     have hpos:(0:Int)<(len:Int):=by omega
     clear hcell
     go_enter Tryz.func93,Tryz.ntmps93
     go_wp2
     go_ret
     exact ⟨by rw [HT.out];rfl,bL⟩
    ·obtain ⟨m,rfl⟩:∃ m,k=m+1:=⟨k - 1,by omega⟩
     have hcq:=(hcell m (by omega)).1
     generalize hq:(ts.getD m (0,0)).1=q at hcq
     have HT:Hid (jea ts (m+1)=decide (q<f)):=joi hk0 HF.out HC.out hq b1 b2 b3
     have hkp:(((m:Int)+1)==0)=false:=by simp;omega
     clear hq hcell
     go_enter Tryz.func93,Tryz.ntmps93
     go_wp2
     go_quiet (fail)
     go_wp2
     go_ret
     exact ⟨by rw [HT.out];rfl,jaf ((Below.refl _ _).alloc (Nat.le_refl _) _)⟩
   ·have d3:decide (4294967296<f)=true:=by simp;omega
    have HT:Hid (jea ts k=false):=jg2 HF.out HC.out (.inr (.inr (by omega)))
    clear hcell
    go_enter Tryz.func93,Tryz.ntmps93
    go_wp2
    go_ret
    exact ⟨by rw [HT.out];rfl,bL⟩
  ·have d2:decide (1073741824<c)=true:=by simp;omega
   have HT:Hid (jea ts k=false):=jg2 HF.out HC.out (.inr (.inl (by omega)))
   clear hcell
   go_enter Tryz.func93,Tryz.ntmps93
   go_wp2
   go_ret
   exact ⟨by rw [HT.out];rfl,bL⟩
 ·have d1:decide (c<1)=true:=by simp;omega
  have HT:Hid (jea ts k=false):=jg2 HF.out HC.out (.inl (by omega))
  clear hcell
  go_enter Tryz.func93,Tryz.ntmps93
  go_wp2
  go_ret
  exact ⟨by rw [HT.out];rfl,bL⟩
theorem jvu (n0 n1 n2 n3 n4 n5 n6:Int) (a:Option Addr) (len cap:Nat) (ts:List (Int × Int)) (w:World) (h:tiersAt w a len cap ts) :
 Calls Tryz.prog 57 #[.agg #[iv n0,iv n1,iv n2,iv n3,iv n4,iv n5,iv n6,.slice a len cap]] w fun e w'=>e=.returned (iv (jww (jh2 [n0,n1,n2,n3,n4,n5,n6] ts)))/\Below w.heap.size w w':=by
 have HT:Hid (tiersAt w a len cap ts):=h
 clear h
 go_enter Tryz.func57,Tryz.ntmps57
 go_wp2_with fail
 have hrow:∀ i,i<7->((w.alloc (.cells #[iv n0,iv n1,iv n2,iv n3,iv n4,iv n5,iv n6,.slice a len cap] 29)).alloc (.cells #[iv n0,iv n1,iv n2,iv n3,iv n4,iv n5,iv n6] 3)).cell? (aq (w.heap.size+1) i)=some (iv ([n0,n1,n2,n3,n4,n5,n6].getD i 0)):=by
  intro i hi
  match i,hi with
  | 0,_=>simp [go_sem]
  | 1,_=>simp [go_sem]
  | 2,_=>simp [go_sem]
  | 3,_=>simp [go_sem]
  | 4,_=>simp [go_sem]
  | 5,_=>simp [go_sem]
  | 6,_=>simp [go_sem]
 have hbox:((w.alloc (.cells #[iv n0,iv n1,iv n2,iv n3,iv n4,iv n5,iv n6,.slice a len cap] 29)).alloc (.cells #[iv n0,iv n1,iv n2,iv n3,iv n4,iv n5,iv n6] 3)).cell? (aq w.heap.size 7)=some (.slice a len cap):=by simp [go_sem]
 have hW:Below w.heap.size w ((w.alloc (.cells #[iv n0,iv n1,iv n2,iv n3,iv n4,iv n5,iv n6,.slice a len cap] 29)).alloc (.cells #[iv n0,iv n1,iv n2,iv n3,iv n4,iv n5,iv n6] 3)):=bL
 have hsz:((w.alloc (.cells #[iv n0,iv n1,iv n2,iv n3,iv n4,iv n5,iv n6,.slice a len cap] 29)).alloc (.cells #[iv n0,iv n1,iv n2,iv n3,iv n4,iv n5,iv n6] 3)).heap.size=w.heap.size+2:=by simp
 generalize ((w.alloc (.cells #[iv n0,iv n1,iv n2,iv n3,iv n4,iv n5,iv n6,.slice a len cap] 29)).alloc (.cells #[iv n0,iv n1,iv n2,iv n3,iv n4,iv n5,iv n6] 3))=W at *
 have HR:Hid (∀ i,i<7->W.cell? (aq (w.heap.size+1) i)=some (iv ([n0,n1,n2,n3,n4,n5,n6].getD i 0))):=hrow
 have HSZ:Hid (W.heap.size=w.heap.size+2):=hsz
 clear hrow hsz
 go_loop [4] (fun i=>∃ k:Nat,k<=7/\i=iv k/\Hid (([n0,n1,n2,n3,n4,n5,n6].take k).all jbn=true)) (fun i=>7 - (intOf i).toNat)
 case atStart=>exact ⟨0,Nat.zero_le _,rfl,by simp [Hid]⟩
 case round =>
  obtain ⟨k,hk,rfl,hall⟩:=hrel
  by_cases hlt:k<7
  ·have hc:=HR.out k hlt
   generalize hx:[n0,n1,n2,n3,n4,n5,n6].getD k 0=x at hc
   have HX:Hid ([n0,n1,n2,n3,n4,n5,n6].getD k 0=x):=hx
   clear hx
   by_cases hn:jbn x=true
   ·have HN:Hid (jbn x=true):=hn
    clear hn
    go_wp2_with (go_at_call 92;refine (jmz x _).mono ?_;rintro e w' ⟨rfl,rfl⟩;rw [HN.out])
    go_round
    case rel=>exact ⟨k+1,by omega,by go_num,by unfold Hid;rw [jtm [n0,n1,n2,n3,n4,n5,n6] k hlt HX.out,hall.out,HN.out];rfl⟩
    case measure=>simp [intOf];omega
   ·have HN:Hid (jbn x=false):=by unfold Hid;simpa using hn
    have HE:Hid (jww (jh2 [n0,n1,n2,n3,n4,n5,n6] ts)=1):=by unfold Hid jh2;rw [jse [n0,n1,n2,n3,n4,n5,n6] k hlt HX.out HN.out];rfl
    clear hn
    go_wp2_with (go_at_call 92;refine (jmz x _).mono ?_;rintro e w' ⟨rfl,rfl⟩;rw [HN.out])
    go_ret
    exact ⟨by rw [HE.out];rfl,hW⟩
  ·have hk7:k=7:=by omega
   subst hk7
   obtain ⟨hl,hlc,hm,hnil,hcs⟩:=HT.out
   by_cases h1:len<1
   ·have HE:Hid (jww (jh2 [n0,n1,n2,n3,n4,n5,n6] ts)=1):=by unfold Hid jh2;rw [jet (by omega),Bool.and_false];rfl
    have hd1:decide ((len:Int)<1)=true:=by simp;omega
    go_wp2
    go_ret
    exact ⟨by rw [HE.out];rfl,hW⟩
   by_cases h4:4<len
   ·have HE:Hid (jww (jh2 [n0,n1,n2,n3,n4,n5,n6] ts)=1):=by unfold Hid jh2;rw [jet (by omega),Bool.and_false];rfl
    have hd1:decide ((len:Int)<1)=false:=by simp;omega
    have hd4:decide (4<(len:Int))=true:=by simp;omega
    go_wp2
    go_ret
    exact ⟨by rw [HE.out];rfl,hW⟩
   obtain ⟨b,off,rfl,hbw,hcell⟩:=hcs (fun e=>by rw [e] at hl;simp at hl;omega)
   have hd1:decide ((len:Int)<1)=false:=by simp;omega
   have hd4:decide (4<(len:Int))=false:=by simp;omega
   clear hnil
   go_wp2_with fail
   go_loopw [6] (fun i wr=>∃ k:Nat,k<=len/\i=iv k/\Hid (∀ j,j<k->jea ts j=true)/\Below (w.heap.size+2) W wr) (fun i _=>len - (intOf i).toNat)
   case atStart=>exact ⟨0,Nat.zero_le _,rfl,fun _ h=>by omega,Below.refl _ _⟩
   case round =>
    obtain ⟨k,hk,rfl,hall2,hbel⟩:=hrel
    have hbox':wr.cell? (aq w.heap.size 7)=some (.slice (some (aq b off)) len cap):=(hbel.cell (p:=(aq w.heap.size 7)) (by show w.heap.size<w.heap.size+2;omega)).trans hbox
    by_cases hlt2:k<len
    ·have hcr:∀ i,i<len->wr.cell? (aq b (off+i * 2))=some (iv (ts.getD i (0,0)).1)/\wr.cell? (aq b (off+i * 2+1))=some (iv (ts.getD i (0,0)).2):=fun i hi =>
      ⟨((hbel.cell (p:=(aq b (off+i * 2))) (by show b<w.heap.size+2;omega)).trans (hW.cell (p:=(aq b (off+i * 2))) hbw)).trans (hcell i hi).1,((hbel.cell (p:=(aq b (off+i * 2+1))) (by show b<w.heap.size+2;omega)).trans (hW.cell (p:=(aq b (off+i * 2+1))) hbw)).trans (hcell i hi).2⟩
     have HCR:Hid (∀ i,i<len->wr.cell? (aq b (off+i * 2))=some (iv (ts.getD i (0,0)).1)/\wr.cell? (aq b (off+i * 2+1))=some (iv (ts.getD i (0,0)).2)):=hcr
     clear hcr hcell
     by_cases ht:jea ts k=true
     ·have HTT:Hid (jea ts k=true):=ht
      clear ht
      go_wp2_with (go_at_call 93;refine (jra b off len cap k ts _ hlt2 (by omega) HCR.out).mono ?_;rintro e w2 ⟨rfl,b2⟩;rw [HTT.out])
      go_roundw
      case rel=>exact ⟨k+1,by omega,by go_num,joz hall2.out HTT.out,hbel.trans (b2.mono (by rw [← HSZ.out];exact hbel.size))⟩
      case measure=>simp [intOf];omega
     ·have HTT:Hid (jea ts k=false):=by unfold Hid;simpa using ht
      have HE:Hid (jww (jh2 [n0,n1,n2,n3,n4,n5,n6] ts)=1):=by unfold Hid jh2;rw [jec (by omega) HTT.out,Bool.and_false];rfl
      clear ht
      go_wp2_with (go_at_call 93;refine (jra b off len cap k ts _ hlt2 (by omega) HCR.out).mono ?_;rintro e w2 ⟨rfl,b2⟩;rw [HTT.out])
      go_ret
      exact ⟨by rw [HE.out];rfl,(hW.trans (hbel.mono (by omega))).trans (b2.mono (by have:=hbel.size;rw [HSZ.out] at this;omega))⟩
    ·have HE:Hid (jww (jh2 [n0,n1,n2,n3,n4,n5,n6] ts)=0):=by unfold Hid jh2;rw [jmg (by omega) (by omega) (fun j hj=>hall2.out j (by omega)),Bool.and_true];have:=hall.out;rw [List.take_of_length_le (by simp)] at this;rw [this];rfl
     clear hcell
     go_wp2
     go_ret
     exact ⟨by rw [HE.out];rfl,hW.trans (hbel.mono (by omega))⟩
def cfgAt (w:World) (b i:Nat):Prop :=
 ∃ (n0 n1 n2 n3 n4 n5 n6:Int) (a:Option Addr) (len cap:Nat) (ts:List (Int × Int)),w.cell? (aq b i)=some (iv n0)/\w.cell? (aq b (i+1))=some (iv n1)/\w.cell? (aq b (i+2))=some (iv n2)/\w.cell? (aq b (i+3))=some (iv n3) ∧
  w.cell? (aq b (i+4))=some (iv n4)/\w.cell? (aq b (i+5))=some (iv n5)/\w.cell? (aq b (i+6))=some (iv n6)/\w.cell? (aq b (i+7))=some (.slice a len cap)/\tiersAt w a len cap ts/\len * 16<=140737488351232
theorem cfgAt.below {w w':World} {b i B:Nat} (h:cfgAt w b i) (hb:Below B w w') (hB:w.heap.size<=B) (hbB:b<B):cfgAt w' b i:=by
 obtain ⟨n0,n1,n2,n3,n4,n5,n6,a,len,cap,ts,h0,h1,h2,h3,h4,h5,h6,h7,ht,hl⟩:=h
 exact ⟨n0,n1,n2,n3,n4,n5,n6,a,len,cap,ts,(hb.cell (p:=(aq b i)) hbB).trans h0,(hb.cell (p:=(aq b (i+1))) hbB).trans h1,(hb.cell (p:=(aq b (i+2))) hbB).trans h2,(hb.cell (p:=(aq b (i+3))) hbB).trans h3,(hb.cell (p:=(aq b (i+4))) hbB).trans h4,(hb.cell (p:=(aq b (i+5))) hbB).trans h5,(hb.cell (p:=(aq b (i+6))) hbB).trans h6,(hb.cell (p:=(aq b (i+7))) hbB).trans h7,ht.below hb hB,hl⟩
end Go.Proofs.YtfhncfghblkgeaaGreat
