import Derived.Test.YtfhncfghblkgeaaGreatL06
import Derived.Test.YtfhncfghblkgeaaGreatL25
set_option maxRecDepth 100000
set_option maxHeartbeats 2000000
namespace Go.Proofs.YtfhncfghblkgeaaGreat
open Go.RowKit
theorem jkk (n0 n1 n2 n3 n4 n5 n6:Int) (a:Option Addr) (len cap:Nat) (ts:List (Int × Int)) (w:World) (h:tiersAt w a len cap ts) :
 Calls Tryz.prog 57 #[.agg #[iv n0,iv n1,iv n2,iv n3,iv n4,iv n5,iv n6,.slice a len cap]] w fun e w'=>e=.returned (iv (qaw (jhs [n0,n1,n2,n3,n4,n5,n6] ts)))/\Below w.heap.size w w':=by
 have HT:Hid (tiersAt w a len cap ts):=h
 clear h
 go_enter Tryz.func57,Tryz.ntmps57
 go_wp2_with fail
 have hrow:∀ i,i<7->((w.alloc (.cells #[iv n0,iv n1,iv n2,iv n3,iv n4,iv n5,iv n6,.slice a len cap] 29)).alloc (.cells #[iv n0,iv n1,iv n2,iv n3,iv n4,iv n5,iv n6] 3)).cell? (aq (w.heap.size+1) i)=some (iv ([n0,n1,n2,n3,n4,n5,n6].getD i 0)):=by
  intro i hi
  match i,hi with
  | 0,_=>simp [go_sem]
  | 1,_=>simp [go_sem]
  | 2,_=>simp [go_sem]
  | 3,_=>simp [go_sem]
  | 4,_=>simp [go_sem]
  | 5,_=>simp [go_sem]
  | 6,_=>simp [go_sem]
 have hbox:((w.alloc (.cells #[iv n0,iv n1,iv n2,iv n3,iv n4,iv n5,iv n6,.slice a len cap] 29)).alloc (.cells #[iv n0,iv n1,iv n2,iv n3,iv n4,iv n5,iv n6] 3)).cell? (aq w.heap.size 7)=some (.slice a len cap):=by simp [go_sem]
 have hW:Below w.heap.size w ((w.alloc (.cells #[iv n0,iv n1,iv n2,iv n3,iv n4,iv n5,iv n6,.slice a len cap] 29)).alloc (.cells #[iv n0,iv n1,iv n2,iv n3,iv n4,iv n5,iv n6] 3)):=bL
 have hsz:((w.alloc (.cells #[iv n0,iv n1,iv n2,iv n3,iv n4,iv n5,iv n6,.slice a len cap] 29)).alloc (.cells #[iv n0,iv n1,iv n2,iv n3,iv n4,iv n5,iv n6] 3)).heap.size=w.heap.size+2:=by simp
 generalize ((w.alloc (.cells #[iv n0,iv n1,iv n2,iv n3,iv n4,iv n5,iv n6,.slice a len cap] 29)).alloc (.cells #[iv n0,iv n1,iv n2,iv n3,iv n4,iv n5,iv n6] 3))=W at *
 have HR:Hid (∀ i,i<7->W.cell? (aq (w.heap.size+1) i)=some (iv ([n0,n1,n2,n3,n4,n5,n6].getD i 0))):=hrow
 have HSZ:Hid (W.heap.size=w.heap.size+2):=hsz
 clear hrow hsz
 go_loop [4] (fun i=>∃ k:Nat,k<=7/\i=iv k/\Hid (([n0,n1,n2,n3,n4,n5,n6].take k).all jc3=true)) (fun i=>7 - (intOf i).toNat)
 case atStart=>exact ⟨0,Nat.zero_le _,rfl,by simp [Hid]⟩
 case round =>
  obtain ⟨k,hk,rfl,hall⟩:=hrel
  by_cases hlt:k<7
  ·have hc:=HR.out k hlt
   generalize hx:[n0,n1,n2,n3,n4,n5,n6].getD k 0=x at hc
   have HX:Hid ([n0,n1,n2,n3,n4,n5,n6].getD k 0=x):=hx
   clear hx
   by_cases hn:jc3 x=true
   ·have HN:Hid (jc3 x=true):=hn
    clear hn
    go_wp2_with (go_at_call 92;refine (jf0 x _).mono ?_;rintro e w' ⟨rfl,rfl⟩;rw [HN.out])
    go_round
    case rel=>exact ⟨k+1,by omega,by go_num,by unfold Hid;rw [ju7 [n0,n1,n2,n3,n4,n5,n6] k hlt HX.out,hall.out,HN.out];rfl⟩
    case measure=>simp [intOf];omega
   ·have HN:Hid (jc3 x=false):=by unfold Hid;simpa using hn
    have HE:Hid (qaw (jhs [n0,n1,n2,n3,n4,n5,n6] ts)=1):=by unfold Hid jhs;rw [jt6 [n0,n1,n2,n3,n4,n5,n6] k hlt HX.out HN.out];rfl
    clear hn
    go_wp2_with (go_at_call 92;refine (jf0 x _).mono ?_;rintro e w' ⟨rfl,rfl⟩;rw [HN.out])
    go_ret
    exact ⟨by rw [HE.out];rfl,hW⟩
  ·have hk7:k=7:=by omega
   subst hk7
   obtain ⟨hl,hlc,hm,hnil,hcs⟩:=HT.out
   by_cases h1:len<1
   ·have HE:Hid (qaw (jhs [n0,n1,n2,n3,n4,n5,n6] ts)=1):=by unfold Hid jhs;rw [jek (by omega),Bool.and_false];rfl
    have hd1:decide ((len:Int)<1)=true:=by simp;omega
    go_wp2
    go_ret
    exact ⟨by rw [HE.out];rfl,hW⟩
   by_cases h4:4<len
   ·have HE:Hid (qaw (jhs [n0,n1,n2,n3,n4,n5,n6] ts)=1):=by unfold Hid jhs;rw [jek (by omega),Bool.and_false];rfl
    have hd1:decide ((len:Int)<1)=false:=by simp;omega
    have hd4:decide (4<(len:Int))=true:=by simp;omega
    go_wp2
    go_ret
    exact ⟨by rw [HE.out];rfl,hW⟩
   obtain ⟨b,off,rfl,hbw,hcell⟩:=hcs (fun e=>by rw [e] at hl;simp at hl;omega)
   have hd1:decide ((len:Int)<1)=false:=by simp;omega
   have hd4:decide (4<(len:Int))=false:=by simp;omega
   clear hnil
   go_wp2_with fail
   go_loopw [6] (fun i wr=>∃ k:Nat,k<=len/\i=iv k/\Hid (∀ j,j<k->jeg ts j=true)/\Below (w.heap.size+2) W wr) (fun i _=>len - (intOf i).toNat)
   case atStart=>exact ⟨0,Nat.zero_le _,rfl,fun _ h=>by omega,Below.refl _ _⟩
   case round =>
    obtain ⟨k,hk,rfl,hall2,hbel⟩:=hrel
    have hbox':wr.cell? (aq w.heap.size 7)=some (.slice (some (aq b off)) len cap):=(hbel.cell (p:=(aq w.heap.size 7)) (by show w.heap.size<w.heap.size+2;omega)).trans hbox
    by_cases hlt2:k<len
    ·have hcr:∀ i,i<len->wr.cell? (aq b (off+i * 2))=some (iv (ts.getD i (0,0)).1)/\wr.cell? (aq b (off+i * 2+1))=some (iv (ts.getD i (0,0)).2):=fun i hi =>
      ⟨((hbel.cell (p:=(aq b (off+i * 2))) (by show b<w.heap.size+2;omega)).trans (hW.cell (p:=(aq b (off+i * 2))) hbw)).trans (hcell i hi).1,((hbel.cell (p:=(aq b (off+i * 2+1))) (by show b<w.heap.size+2;omega)).trans (hW.cell (p:=(aq b (off+i * 2+1))) hbw)).trans (hcell i hi).2⟩
     have HCR:Hid (∀ i,i<len->wr.cell? (aq b (off+i * 2))=some (iv (ts.getD i (0,0)).1)/\wr.cell? (aq b (off+i * 2+1))=some (iv (ts.getD i (0,0)).2)):=hcr
     clear hcr hcell
     by_cases ht:jeg ts k=true
     ·have HTT:Hid (jeg ts k=true):=ht
      clear ht
      go_wp2_with (go_at_call 93;refine (jri b off len cap k ts _ hlt2 (by omega) HCR.out).mono ?_;rintro e w2 ⟨rfl,b2⟩;rw [HTT.out])
      go_roundw
      case rel=>exact ⟨k+1,by omega,by go_num,jox hall2.out HTT.out,hbel.trans (b2.mono (by rw [← HSZ.out];exact hbel.size))⟩
      case measure=>simp [intOf];omega
     ·have HTT:Hid (jeg ts k=false):=by unfold Hid;simpa using ht
      have HE:Hid (qaw (jhs [n0,n1,n2,n3,n4,n5,n6] ts)=1):=by unfold Hid jhs;rw [jdx (by omega) HTT.out,Bool.and_false];rfl
      clear ht
      go_wp2_with (go_at_call 93;refine (jri b off len cap k ts _ hlt2 (by omega) HCR.out).mono ?_;rintro e w2 ⟨rfl,b2⟩;rw [HTT.out])
      go_ret
      exact ⟨by rw [HE.out];rfl,(hW.trans (hbel.mono (by omega))).trans (b2.mono (by have:=hbel.size;rw [HSZ.out] at this;omega))⟩
    ·have HE:Hid (qaw (jhs [n0,n1,n2,n3,n4,n5,n6] ts)=0):=by unfold Hid jhs;rw [jly (by omega) (by omega) (fun j hj=>hall2.out j (by omega)),Bool.and_true];have:=hall.out;rw [List.take_of_length_le (by simp)] at this;rw [this];rfl
     clear hcell
     go_wp2
     go_ret
     exact ⟨by rw [HE.out];rfl,hW.trans (hbel.mono (by omega))⟩
theorem jon {w:World} {g len:Nat} {ts:List (Int × Int)} (h:w.heap[g]?=some (.cells (jas (jba ts)).toArray 137 (0,0))) (hl:ts.length=len) (hb:len * 16<=140737488351232) :
 tiersAt w (some (aq g 0)) len (len+8) ts:=by
 refine ⟨hl,by omega,by omega,fun e=>by simp at e,fun _=>⟨g,0,rfl,(blt h),fun i hi=>?_⟩⟩
 have hf:=jhg (jba ts) i (by rw [jlv];omega)
 rw [jno (by omega)] at hf
 constructor
 ·rw [Joins.cell_of_block h];simpa using hf.1
 ·rw [Joins.cell_of_block h];simpa using hf.2
theorem jd9 {w:World} {p:Nat} {c0 c1 c2 c3 c4:Value} {T:TypeId} (h:w.heap[p]?=some (.cells #[c0,c1,c2,c3,c4] T (0,0))) :
 w.cell? (aq p 0)=some c0/\w.cell? (aq p 1)=some c1/\w.cell? (aq p 2)=some c2/\w.cell? (aq p 3)=some c3/\w.cell? (aq p 4)=some c4:=by
 refine ⟨?_,?_,?_,?_,?_⟩
 all_goals (rw [Joins.cell_of_block h];rfl)
theorem jx4 (p:Nat) (w:World) (h3:w.cell? (aq p 3)=some (.slice none 0 0)) (h4:w.cell? (aq p 4)=some (.slice none 0 0)) :
 Calls Tryz.prog 25 #[pt p 0] w fun e w'=>e=.returned (.bool true)/\w=w':=by
 go_enter Tryz.func25,Tryz.ntmps25
 go_wp2_with fail
 go_loop [3] (fun i=>i=iv 0) (fun _=>0)
 case atStart=>rfl
 case round =>
  subst hrel
  go_wp2_with fail
  go_loop [5] (fun i=>i=iv 0) (fun _=>0)
  case atStart=>rfl
  case round =>
   subst hrel
   go_wp2
   go_ret
   exact ⟨rfl,rfl⟩
def cfgAt (w:World) (b i:Nat):Prop :=
 ∃ (n0 n1 n2 n3 n4 n5 n6:Int) (a:Option Addr) (len cap:Nat) (ts:List (Int × Int)),w.cell? (aq b i)=some (iv n0)/\w.cell? (aq b (i+1))=some (iv n1)/\w.cell? (aq b (i+2))=some (iv n2)/\w.cell? (aq b (i+3))=some (iv n3) ∧
  w.cell? (aq b (i+4))=some (iv n4)/\w.cell? (aq b (i+5))=some (iv n5)/\w.cell? (aq b (i+6))=some (iv n6)/\w.cell? (aq b (i+7))=some (.slice a len cap)/\tiersAt w a len cap ts/\len * 16<=140737488351232
def cfgsAt (w:World) (a:Option Addr) (len:Nat):Prop:=len * 80<=140737488351232/\(0<len->∃ b off,a=some (aq b off)/\b<w.heap.size/\∀ i,i<len->cfgAt w b (off+i * 8))
theorem cfgAt.below {w w':World} {b i B:Nat} (h:cfgAt w b i) (hb:Below B w w') (hB:w.heap.size<=B) (hbB:b<B):cfgAt w' b i:=by
 obtain ⟨n0,n1,n2,n3,n4,n5,n6,a,len,cap,ts,h0,h1,h2,h3,h4,h5,h6,h7,ht,hl⟩:=h
 exact ⟨n0,n1,n2,n3,n4,n5,n6,a,len,cap,ts,(hb.cell (p:=(aq b i)) hbB).trans h0,(hb.cell (p:=(aq b (i+1))) hbB).trans h1,(hb.cell (p:=(aq b (i+2))) hbB).trans h2,(hb.cell (p:=(aq b (i+3))) hbB).trans h3,(hb.cell (p:=(aq b (i+4))) hbB).trans h4,(hb.cell (p:=(aq b (i+5))) hbB).trans h5,(hb.cell (p:=(aq b (i+6))) hbB).trans h6,(hb.cell (p:=(aq b (i+7))) hbB).trans h7,ht.below hb hB,hl⟩
theorem jv8 {w:World} {s:ByteArray} (hs:s.size<=140737488351232) :
 ja6 (w.drew.alloc (.cells (bytesRow s (grownCap w s.size 0 5)) 5 ((bytesRow s (grownCap w s.size 0 5)).size,(bytesRow s (grownCap w s.size 0 5)).size+1))) (some (aq w.heap.size 0)) s.size (grownCap w s.size 0 5) (jcm s):=by
 refine ⟨jdz s,grownCap_ge w _ _ _,grownCap_le_maxLen w _ _ _ (by unfold maxLen;omega),jia s,fun _=>⟨w.heap.size,0,rfl,by simp,fun i hi=>?_⟩⟩
 have h1:=World.cell?_alloc_mark w.drew (bytesRow s (grownCap w s.size 0 5)) 5 ((bytesRow s (grownCap w s.size 0 5)).size,(bytesRow s (grownCap w s.size 0 5)).size+1) (0+i)
 refine h1.trans ?_
 have hi':i<s.data.size:=hi
 rw [Nat.zero_add,bytesRow_at s _ i hi']
 simp [jcm,List.getD,Array.getElem?_eq_getElem hi']
theorem jd1 {w:World} {R:Nat} {c0 c1:Value} {T:TypeId} (h:w.heap[R]?=some (.cells #[c0,c1] T (0,0))):w.cell? (aq R 0)=some c0/\w.cell? (aq R 1)=some c1 :=
 ⟨by rw [Joins.cell_of_block h];rfl,by rw [Joins.cell_of_block h];rfl⟩
theorem jys (x R:Nat) (s:ByteArray) (w:World) (hs:s.size<=140737488351232) (p0 p1 p2 p3:Int) (own ownR:Nat->Prop) (hown:∀ b,own b->b<w.heap.size) (hownR:∀ b,ownR b->b<w.heap.size) (Q1 Q2:World->World->Prop)
 (HPS:Hid (∀ W g,Below w.heap.size w W->w.heap.size<=g->W.heap[g]?=some (.cells ((jg5 s).map (Value.int .u8)).toArray 5 (0,0))->Calls Tryz.prog 33 #[pt x 0,.slice (some (aq g 0)) s.size (s.size+8)] W fun e w'=>e=.returned (.agg #[iv p0,iv p1,iv p2,iv p3])/\Q1 W w'/\Same own W w'))
 (HQ1:Hid (∀ Wc W W',Q1 Wc W->Below W.heap.size W W'->Q1 Wc W'))
 (HRS:Hid (∀ Wc W b cap,Below w.heap.size w Wc->Q1 Wc W->Wc.heap.size<=b->ja6 W (some (aq b 0)) s.size cap (jcm s)->Calls Tryz.prog 121 #[pt R 0,.slice (some (aq b 0)) s.size cap] W fun e w'=>e=.returned (.agg #[iv p0,iv p1,iv p2,iv p3])/\Q2 Wc w'/\Same ownR W w'))
 (HQ2:Hid (∀ Wc W W',Q2 Wc W->Below W.heap.size W W'->Q2 Wc W'))
 (HQ3:Hid (∀ Wc W W' b,Below w.heap.size w Wc->w.heap.size<=b->b<Wc.heap.size->Q2 Wc W->W.grownBy W' (some b)->Q2 Wc W')) :
 Calls Tryz.prog 85 #[.agg #[pt x 0,pt R 0],.string s] w fun e w'=>e=.returned (.bool true)/\∃ Wc,Below w.heap.size w Wc/\Q2 Wc w':=by
 have hcv:=fun w':World=>run_bytes_of_string (P:=Tryz.prog) w' 9 92 5 s Tryz.underlying9 Tryz.underlying92 Tryz.underlying5
 go_enter Tryz.func85,Tryz.ntmps85
 go_wp2_with fail
 refine (jpc s _ hs).mono ?_
 rintro e w1 ⟨g,rfl,hg,hrow,b1⟩
 have HROW:Hid (w1.heap[g]?=some (.cells ((jg5 s).map (Value.int .u8)).toArray 5 (0,0))):=hrow
 have hg1:g<w1.heap.size:=(blt hrow)
 have hgw:w.heap.size+1<=g:=by simpa using hg
 have w01:Below w.heap.size w w1:=Below.trans ((Below.refl _ _).alloc (Nat.le_refl _) _) (b1.mono (by simp))
 have pr:Hid (w1.heap[w.heap.size]?=some (.cells #[pt x 0,pt R 0] 127 (0,0))):=(b1.block _ (by simp)).trans (heap_alloc_new w _)
 obtain ⟨u0,u1⟩:=jd1 pr.out
 have hw1:w.heap.size<w1.heap.size:=by omega
 clear hrow hg b1
 go_wp2_with fail
 refine (HPS.out w1 g w01 (by omega) HROW.out).mono ?_
 rintro e w2 ⟨rfl,hq1,hs2⟩
 have hz2:=hs2.size
 have pr2:Hid (w2.heap[w.heap.size]?=some (.cells #[pt x 0,pt R 0] 127 (0,0))):=(hs2.block _ hw1 (fun e=>by have:=hown _ e;omega)).trans pr.out
 have HROW2:Hid (w2.heap[g]?=some (.cells ((jg5 s).map (Value.int .u8)).toArray 5 (0,0))):=(hs2.block g hg1 (fun e=>by have:=hown _ e;omega)).trans HROW.out
 obtain ⟨v0,v1⟩:=jd1 pr2.out
 have hw2:w.heap.size<w2.heap.size:=by omega
 clear u0 u1 hs2 HROW
 go_wp2_with fail
 have hsl:Hid (ja6 (((w2.alloc (.cells #[iv p0,iv p1,iv p2,iv p3] 42)).alloc (.cells (bytesRow s (grownCap (w2.alloc (.cells #[iv p0,iv p1,iv p2,iv p3] 42)) s.size 0 5)) 5 ((bytesRow s (grownCap (w2.alloc (.cells #[iv p0,iv p1,iv p2,iv p3] 42)) s.size 0 5)).size,(bytesRow s (grownCap (w2.alloc (.cells #[iv p0,iv p1,iv p2,iv p3] 42)) s.size 0 5)).size+1))).drew) (some (aq (w2.heap.size+1) 0)) s.size (grownCap (w2.alloc (.cells #[iv p0,iv p1,iv p2,iv p3] 42)) s.size 0 5) (jcm s)):=by
  have h:=jv8 (w:=(w2.alloc (.cells #[iv p0,iv p1,iv p2,iv p3] 42))) hs
  rw [show (w2.alloc (.cells #[iv p0,iv p1,iv p2,iv p3] 42)).heap.size=w2.heap.size+1 from by simp] at h
  exact h
 have hbl:Below w2.heap.size w2 (((w2.alloc (.cells #[iv p0,iv p1,iv p2,iv p3] 42)).alloc (.cells (bytesRow s (grownCap (w2.alloc (.cells #[iv p0,iv p1,iv p2,iv p3] 42)) s.size 0 5)) 5 ((bytesRow s (grownCap (w2.alloc (.cells #[iv p0,iv p1,iv p2,iv p3] 42)) s.size 0 5)).size,(bytesRow s (grownCap (w2.alloc (.cells #[iv p0,iv p1,iv p2,iv p3] 42)) s.size 0 5)).size+1))).drew):=Below.drew (((Below.refl _ _).alloc (Nat.le_refl _) _).alloc (by simp) _)
 have HROW3:Hid ((((w2.alloc (.cells #[iv p0,iv p1,iv p2,iv p3] 42)).alloc (.cells (bytesRow s (grownCap (w2.alloc (.cells #[iv p0,iv p1,iv p2,iv p3] 42)) s.size 0 5)) 5 ((bytesRow s (grownCap (w2.alloc (.cells #[iv p0,iv p1,iv p2,iv p3] 42)) s.size 0 5)).size,(bytesRow s (grownCap (w2.alloc (.cells #[iv p0,iv p1,iv p2,iv p3] 42)) s.size 0 5)).size+1))).drew).heap[g]?=some (.cells ((jg5 s).map (Value.int .u8)).toArray 5 (0,0))):=(hbl.block g (by omega)).trans HROW2.out
 have rp3:Hid ((((w2.alloc (.cells #[iv p0,iv p1,iv p2,iv p3] 42)).alloc (.cells (bytesRow s (grownCap (w2.alloc (.cells #[iv p0,iv p1,iv p2,iv p3] 42)) s.size 0 5)) 5 ((bytesRow s (grownCap (w2.alloc (.cells #[iv p0,iv p1,iv p2,iv p3] 42)) s.size 0 5)).size,(bytesRow s (grownCap (w2.alloc (.cells #[iv p0,iv p1,iv p2,iv p3] 42)) s.size 0 5)).size+1))).drew).heap[w2.heap.size]?=some (.cells #[iv p0,iv p1,iv p2,iv p3] 42 (0,0))):=(Below.heap_alloc (w2.alloc (.cells #[iv p0,iv p1,iv p2,iv p3] 42)) _ _ (by simp)).trans (heap_alloc_new w2 _)
 have hq1':=HQ1.out w1 w2 _ hq1 hbl
 have hz3:w2.heap.size+2<=(((w2.alloc (.cells #[iv p0,iv p1,iv p2,iv p3] 42)).alloc (.cells (bytesRow s (grownCap (w2.alloc (.cells #[iv p0,iv p1,iv p2,iv p3] 42)) s.size 0 5)) 5 ((bytesRow s (grownCap (w2.alloc (.cells #[iv p0,iv p1,iv p2,iv p3] 42)) s.size 0 5)).size,(bytesRow s (grownCap (w2.alloc (.cells #[iv p0,iv p1,iv p2,iv p3] 42)) s.size 0 5)).size+1))).drew).heap.size:=by show w2.heap.size+2<=((w2.alloc (.cells #[iv p0,iv p1,iv p2,iv p3] 42)).alloc (.cells (bytesRow s (grownCap (w2.alloc (.cells #[iv p0,iv p1,iv p2,iv p3] 42)) s.size 0 5)) 5 ((bytesRow s (grownCap (w2.alloc (.cells #[iv p0,iv p1,iv p2,iv p3] 42)) s.size 0 5)).size,(bytesRow s (grownCap (w2.alloc (.cells #[iv p0,iv p1,iv p2,iv p3] 42)) s.size 0 5)).size+1))).heap.size;simp
 clear hcv hq1 hbl HROW2 v0 v1
 generalize grownCap (w2.alloc (.cells #[iv p0,iv p1,iv p2,iv p3] 42)) s.size 0 5=gc at hsl HROW3 rp3 hq1' hz3 ⊢
 generalize ((w2.alloc (.cells #[iv p0,iv p1,iv p2,iv p3] 42)).alloc (.cells (bytesRow s gc) 5 ((bytesRow s gc).size,(bytesRow s gc).size+1))).drew=W3 at hsl HROW3 rp3 hq1' hz3 ⊢
 refine (HRS.out w1 W3 (w2.heap.size+1) gc w01 hq1' (by omega) hsl.out).mono ?_
 rintro e w3 ⟨rfl,hq2,hs3⟩
 have hz4:=hs3.size
 have rp4:Hid (w3.heap[w2.heap.size]?=some (.cells #[iv p0,iv p1,iv p2,iv p3] 42 (0,0))):=(hs3.block _ (by omega) (fun e=>by have:=hownR _ e;omega)).trans rp3.out
 have HROW4:Hid (w3.heap[g]?=some (.cells ((jg5 s).map (Value.int .u8)).toArray 5 (0,0))):=(hs3.block g (by omega) (fun e=>by have:=hownR _ e;omega)).trans HROW3.out
 have hg3:g<w3.heap.size:=by omega
 clear hsl HROW3 rp3 hs3 hq1'
 go_wp2_with fail
 refine (jnb g s _ hs ((Below.heap_alloc _ _ _ hg3).trans HROW4.out)).mono ?_
 rintro e w4 ⟨rfl,g4⟩
 have hqf:=HQ3.out w1 _ w4 g w01 (by omega) hg1 (HQ2.out w1 w3 _ hq2 ((Below.refl _ _).alloc (Nat.le_refl _) _)) g4
 obtain ⟨x0,x1,x2,x3⟩:=ja2 ((g4.block w2.heap.size (by simp;omega) (by simp;omega)).trans ((Below.heap_alloc _ _ _ (by omega)).trans rp4.out))
 obtain ⟨y0,y1,y2,y3⟩:=ja2 ((g4.block w3.heap.size (by simp) (by simp;omega)).trans (heap_alloc_new w3 _))
 clear g4 hq2
 go_wp2
 go_ret
 exact ⟨rfl,w1,w01,hqf⟩
end Go.Proofs.YtfhncfghblkgeaaGreat
