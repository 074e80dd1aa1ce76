import Derived.Test.YtfhncfghblkgeaaGreatL17
import Derived.Test.YtfhncfghblkgeaaGreatL19
set_option maxRecDepth 100000
set_option maxHeartbeats 2000000
namespace Go.Proofs.YtfhncfghblkgeaaGreat
open Go.RowKit
theorem jt1 (n0 n1 n2 n3 n4 n5 n6:Int) (a:Option Addr) (len cap:Nat) (ts:List (Int × Int)) (w:World) (h:tiersAt w a len cap ts) :
 Calls Tryz.prog 57 #[.agg #[iv n0,iv n1,iv n2,iv n3,iv n4,iv n5,iv n6,.slice a len cap]] w fun e w'=>e=.returned (iv (juu (jgk [n0,n1,n2,n3,n4,n5,n6] ts)))/\Below w.heap.size w w':=by
 have HT:Hid (tiersAt w a len cap ts):=h
 clear h
 go_enter Tryz.func57,Tryz.ntmps57
 go_wp2_with fail
 have hrow:∀ i,i<7->((w.alloc (.cells #[iv n0,iv n1,iv n2,iv n3,iv n4,iv n5,iv n6,.slice a len cap] 29)).alloc (.cells #[iv n0,iv n1,iv n2,iv n3,iv n4,iv n5,iv n6] 3)).cell? (aq (w.heap.size+1) i)=some (iv ([n0,n1,n2,n3,n4,n5,n6].getD i 0)):=by
  intro i hi
  match i,hi with
  | 0,_=>simp [go_sem]
  | 1,_=>simp [go_sem]
  | 2,_=>simp [go_sem]
  | 3,_=>simp [go_sem]
  | 4,_=>simp [go_sem]
  | 5,_=>simp [go_sem]
  | 6,_=>simp [go_sem]
 have hbox:((w.alloc (.cells #[iv n0,iv n1,iv n2,iv n3,iv n4,iv n5,iv n6,.slice a len cap] 29)).alloc (.cells #[iv n0,iv n1,iv n2,iv n3,iv n4,iv n5,iv n6] 3)).cell? (aq w.heap.size 7)=some (.slice a len cap):=by simp [go_sem]
 have hW:Below w.heap.size w ((w.alloc (.cells #[iv n0,iv n1,iv n2,iv n3,iv n4,iv n5,iv n6,.slice a len cap] 29)).alloc (.cells #[iv n0,iv n1,iv n2,iv n3,iv n4,iv n5,iv n6] 3)):=bL
 have hsz:((w.alloc (.cells #[iv n0,iv n1,iv n2,iv n3,iv n4,iv n5,iv n6,.slice a len cap] 29)).alloc (.cells #[iv n0,iv n1,iv n2,iv n3,iv n4,iv n5,iv n6] 3)).heap.size=w.heap.size+2:=by simp
 generalize ((w.alloc (.cells #[iv n0,iv n1,iv n2,iv n3,iv n4,iv n5,iv n6,.slice a len cap] 29)).alloc (.cells #[iv n0,iv n1,iv n2,iv n3,iv n4,iv n5,iv n6] 3))=W at *
 have HR:Hid (∀ i,i<7->W.cell? (aq (w.heap.size+1) i)=some (iv ([n0,n1,n2,n3,n4,n5,n6].getD i 0))):=hrow
 have HSZ:Hid (W.heap.size=w.heap.size+2):=hsz
 clear hrow hsz
 go_loop [4] (fun i=>∃ k:Nat,k<=7/\i=iv k/\Hid (([n0,n1,n2,n3,n4,n5,n6].take k).all jby=true)) (fun i=>7 - (intOf i).toNat)
 case atStart=>exact ⟨0,Nat.zero_le _,rfl,by simp [Hid]⟩
 case round =>
  obtain ⟨k,hk,rfl,hall⟩:=hrel
  by_cases hlt:k<7
  ·have hc:=HR.out k hlt
   generalize hx:[n0,n1,n2,n3,n4,n5,n6].getD k 0=x at hc
   have HX:Hid ([n0,n1,n2,n3,n4,n5,n6].getD k 0=x):=hx
   clear hx
   by_cases hn:jby x=true
   ·have HN:Hid (jby x=true):=hn
    clear hn
    go_wp2_with (go_at_call 92;refine (jky x _).mono ?_;rintro e w' ⟨rfl,rfl⟩;rw [HN.out])
    go_round
    case rel=>exact ⟨k+1,by omega,by go_num,by unfold Hid;rw [jrz [n0,n1,n2,n3,n4,n5,n6] k hlt HX.out,hall.out,HN.out];rfl⟩
    case measure=>simp [intOf];omega
   ·have HN:Hid (jby x=false):=by unfold Hid;simpa using hn
    have HE:Hid (juu (jgk [n0,n1,n2,n3,n4,n5,n6] ts)=1):=by unfold Hid jgk;rw [jrf [n0,n1,n2,n3,n4,n5,n6] k hlt HX.out HN.out];rfl
    clear hn
    go_wp2_with (go_at_call 92;refine (jky x _).mono ?_;rintro e w' ⟨rfl,rfl⟩;rw [HN.out])
    go_ret
    exact ⟨by rw [HE.out];rfl,hW⟩
  ·have hk7:k=7:=by omega
   subst hk7
   obtain ⟨hl,hlc,hm,hnil,hcs⟩:=HT.out
   by_cases h1:len<1
   ·have HE:Hid (juu (jgk [n0,n1,n2,n3,n4,n5,n6] ts)=1):=by unfold Hid jgk;rw [je9 (by omega),Bool.and_false];rfl
    have hd1:decide ((len:Int)<1)=true:=by simp;omega
    go_wp2
    go_ret
    exact ⟨by rw [HE.out];rfl,hW⟩
   by_cases h4:4<len
   ·have HE:Hid (juu (jgk [n0,n1,n2,n3,n4,n5,n6] ts)=1):=by unfold Hid jgk;rw [je9 (by omega),Bool.and_false];rfl
    have hd1:decide ((len:Int)<1)=false:=by simp;omega
    have hd4:decide (4<(len:Int))=true:=by simp;omega
    go_wp2
    go_ret
    exact ⟨by rw [HE.out];rfl,hW⟩
   obtain ⟨b,off,rfl,hbw,hcell⟩:=hcs (fun e=>by rw [e] at hl;simp at hl;omega)
   have hd1:decide ((len:Int)<1)=false:=by simp;omega
   have hd4:decide (4<(len:Int))=false:=by simp;omega
   clear hnil
   go_wp2_with fail
   go_loopw [6] (fun i wr=>∃ k:Nat,k<=len/\i=iv k/\Hid (∀ j,j<k->jdt ts j=true)/\Below (w.heap.size+2) W wr) (fun i _=>len - (intOf i).toNat)
   case atStart=>exact ⟨0,Nat.zero_le _,rfl,fun _ h=>by omega,Below.refl _ _⟩
   case round =>
    obtain ⟨k,hk,rfl,hall2,hbel⟩:=hrel
    have hbox':wr.cell? (aq w.heap.size 7)=some (.slice (some (aq b off)) len cap):=(hbel.cell (p:=(aq w.heap.size 7)) (by show w.heap.size<w.heap.size+2;omega)).trans hbox
    by_cases hlt2:k<len
    ·have hcr:∀ i,i<len->wr.cell? (aq b (off+i * 2))=some (iv (ts.getD i (0,0)).1)/\wr.cell? (aq b (off+i * 2+1))=some (iv (ts.getD i (0,0)).2):=fun i hi =>
      ⟨((hbel.cell (p:=(aq b (off+i * 2))) (by show b<w.heap.size+2;omega)).trans (hW.cell (p:=(aq b (off+i * 2))) hbw)).trans (hcell i hi).1,((hbel.cell (p:=(aq b (off+i * 2+1))) (by show b<w.heap.size+2;omega)).trans (hW.cell (p:=(aq b (off+i * 2+1))) hbw)).trans (hcell i hi).2⟩
     have HCR:Hid (∀ i,i<len->wr.cell? (aq b (off+i * 2))=some (iv (ts.getD i (0,0)).1)/\wr.cell? (aq b (off+i * 2+1))=some (iv (ts.getD i (0,0)).2)):=hcr
     clear hcr hcell
     by_cases ht:jdt ts k=true
     ·have HTT:Hid (jdt ts k=true):=ht
      clear ht
      go_wp2_with (go_at_call 93;refine (jq0 b off len cap k ts _ hlt2 (by omega) HCR.out).mono ?_;rintro e w2 ⟨rfl,b2⟩;rw [HTT.out])
      go_roundw
      case rel=>exact ⟨k+1,by omega,by go_num,jnt hall2.out HTT.out,hbel.trans (b2.mono (by rw [← HSZ.out];exact hbel.size))⟩
      case measure=>simp [intOf];omega
     ·have HTT:Hid (jdt ts k=false):=by unfold Hid;simpa using ht
      have HE:Hid (juu (jgk [n0,n1,n2,n3,n4,n5,n6] ts)=1):=by unfold Hid jgk;rw [jdq (by omega) HTT.out,Bool.and_false];rfl
      clear ht
      go_wp2_with (go_at_call 93;refine (jq0 b off len cap k ts _ hlt2 (by omega) HCR.out).mono ?_;rintro e w2 ⟨rfl,b2⟩;rw [HTT.out])
      go_ret
      exact ⟨by rw [HE.out];rfl,(hW.trans (hbel.mono (by omega))).trans (b2.mono (by have:=hbel.size;rw [HSZ.out] at this;omega))⟩
    ·have HE:Hid (juu (jgk [n0,n1,n2,n3,n4,n5,n6] ts)=0):=by unfold Hid jgk;rw [jlu (by omega) (by omega) (fun j hj=>hall2.out j (by omega)),Bool.and_true];have:=hall.out;rw [List.take_of_length_le (by simp)] at this;rw [this];rfl
     clear hcell
     go_wp2
     go_ret
     exact ⟨by rw [HE.out];rfl,hW.trans (hbel.mono (by omega))⟩
def cfgAt (w:World) (b i:Nat):Prop :=
 ∃ (n0 n1 n2 n3 n4 n5 n6:Int) (a:Option Addr) (len cap:Nat) (ts:List (Int × Int)),w.cell? (aq b i)=some (iv n0)/\w.cell? (aq b (i+1))=some (iv n1)/\w.cell? (aq b (i+2))=some (iv n2)/\w.cell? (aq b (i+3))=some (iv n3) ∧
  w.cell? (aq b (i+4))=some (iv n4)/\w.cell? (aq b (i+5))=some (iv n5)/\w.cell? (aq b (i+6))=some (iv n6)/\w.cell? (aq b (i+7))=some (.slice a len cap)/\tiersAt w a len cap ts/\len * 16<=140737488351232
theorem cfgAt.below {w w':World} {b i B:Nat} (h:cfgAt w b i) (hb:Below B w w') (hB:w.heap.size<=B) (hbB:b<B):cfgAt w' b i:=by
 obtain ⟨n0,n1,n2,n3,n4,n5,n6,a,len,cap,ts,h0,h1,h2,h3,h4,h5,h6,h7,ht,hl⟩:=h
 exact ⟨n0,n1,n2,n3,n4,n5,n6,a,len,cap,ts,(hb.cell (p:=(aq b i)) hbB).trans h0,(hb.cell (p:=(aq b (i+1))) hbB).trans h1,(hb.cell (p:=(aq b (i+2))) hbB).trans h2,(hb.cell (p:=(aq b (i+3))) hbB).trans h3,(hb.cell (p:=(aq b (i+4))) hbB).trans h4,(hb.cell (p:=(aq b (i+5))) hbB).trans h5,(hb.cell (p:=(aq b (i+6))) hbB).trans h6,(hb.cell (p:=(aq b (i+7))) hbB).trans h7,ht.below hb hB,hl⟩
section
structure salJ (S:Sal):Prop where
 I:salI S
 cap:S.C.cap<=4294967296
 queue:1<=S.C.queue
 len:S.os.length<=4294967296
 ats:∀ a∈S.ansL,0<=a.at'/\a.at'<=4611686018427387904
def jqv (PS:World->Nat->(Nat->Prop)->Sal->Prop) (w w':World) (x:Nat) (own:Nat->Prop) (S':Sal):Prop :=
 ∃ own',PS w' x own' S'/\Same own w w'/\∀ k,own' k->own k\/w.heap.size<=k
structure SendOK (PS:World->Nat->(Nat->Prop)->Sal->Prop):Prop where
 lt:∀ {w x own S},PS w x own S->∀ k,own k->k<w.heap.size
 keep:∀ {w w' x own S},PS w x own S->w.heap.size<=w'.heap.size->(∀ k,own k->w'.heap[k]?=w.heap[k]?)->PS w' x own S
 send:∀ {w x own S ba bl bc bs k t c u o err},PS w x own S->salJ S->jah w ba bl bc bs->UN bs k t c u o err->Calls Tryz.prog 33 #[pt x 0,.slice ba bl bc] w fun e w'=>e=.returned (S.send bs ⟨k,t,c,u,o⟩ err).1.val/\jqv PS w w' x own (S.send bs ⟨k,t,c,u,o⟩ err).2
theorem qav (S:Sal) (r:Req) (h:S.os.length<=4294967296):(S.ask r).2.os.length<=4294967296:=by
 unfold Sal.ask
 split
 ·exact h
 split
 ·exact h
 split
 ·exact h
 ·next g3 =>
  split
  ·show ((S.more ⟨r.cust,r.units,0,0,0,0⟩).holds S.os.length).os.length<=_
   rw [(jdu S r.cust r.units).1]
   simp [Sal.more];omega
  split
  ·exact h
  ·simp [Sal.more];omega
theorem jji:∀ (qs:List Nat) (S:Sal),(jcr S qs).os.length=S.os.length
 | [],_=>rfl
 | q :: qs,S=>by
   have e:jcr S (q :: qs)=jcr (if S.left<(S.os.getD q ja2).units then S.ends q 18 else S) qs:=rfl
   rw [e,jji]
   split
   ·exact jcx S q 18
   ·rfl
theorem qbu (S:Sal) (r:Req) (h:S.os.length<=4294967296):(S.doS r).2.os.length<=4294967296:=by
 unfold Sal.doS
 split
 ·exact qav S r h
 split
 ·unfold Sal.confirm
  split
  ·exact h
  ·split
   ·exact h
   ·show (Sal.promote _).os.length<=_
    rw [jdy,jji,jcx]
    exact h
 ·unfold Sal.cancel
  split
  ·exact h
  ·split
   ·exact h
   ·show (Sal.promote _).os.length<=_
    rw [jdy,jcx]
    exact h
theorem jl5 (S:Sal) (bs:List Int) (r:Req) (err:Int):(S.send bs r err).2.C=S.C/\(S.send bs r err).2.now=S.now/\(S.send bs r err).2.ansL.length<=S.ansL.length+1:=by
 unfold Sal.send
 split
 ·exact ⟨rfl,rfl,by simp⟩
 split
 ·exact ⟨rfl,rfl,by simp⟩
 split
 ·split<;>exact ⟨rfl,rfl,by simp⟩
 ·split
  ·exact ⟨rfl,rfl,by simp⟩
  ·obtain ⟨a,b,c⟩:=jfq S r
   exact ⟨a,b,by simp [c]⟩
theorem jwa {S:Sal} (h:salJ S) (bs:List Int) (r:Req) (err:Int) (hI:salI (S.send bs r err).2):salJ (S.send bs r err).2:=by
 obtain ⟨a,b,c⟩:=jl5 S bs r err
 refine ⟨hI,by rw [a];exact h.cap,by rw [a];exact h.queue,?_,?_⟩
 ·unfold Sal.send
  split
  ·exact h.len
  split
  ·exact h.len
  split
  ·split<;>exact h.len
  ·split
   ·exact h.len
   ·exact qbu S r h.len
 ·unfold Sal.send
  split
  ·exact h.ats
  split
  ·exact h.ats
  split
  ·split<;>exact h.ats
  ·split
   ·exact h.ats
   ·intro x hx
    have hx':x∈(S.doS r).2.ansL++[⟨strOfNums bs,r.token,(S.doS r).1,S.now⟩]:=hx
    rw [(jfq S r).2.2] at hx'
    rcases List.mem_append.1 hx' with hx'|hx'
    ·exact h.ats x hx'
    ·simp at hx';subst hx';exact h.I.now
structure SE where
 x:Nat
 R:Nat
 own:Nat->Prop
 ap:Option Addr
 lp:Nat
 cp:Nat
 vo:Value
 va:Value
 S:Sal
def SE.fp (e:SE) (b:Nat):Prop:=e.own b\/b=e.R\/e.vo.ownBlock=some b\/e.va.ownBlock=some b
def SE.then (e e2:SE) (w:World):Prop:=e2.x=e.x/\e2.R=e.R/\∀ k,e2.fp k->e.fp k\/w.heap.size<=k
section
variable {PS:World->Nat->(Nat->Prop)->Sal->Prop} {w w':World} {B j:Nat} {e:SE}
end
end
end Go.Proofs.YtfhncfghblkgeaaGreat
