import Derived.Test.YtfhncfghblkgeabGreatL02
import Derived.Test.YtfhncfghblkgeabGreatL03
set_option maxRecDepth 100000
set_option maxHeartbeats 2000000
namespace Go.Proofs.YtfhncfghblkgeabGreat
open Go.RowKit
theorem qY {B n:Nat} {w w1:World} (h:Below B w w1):Below B w (w1.drewN n):=h.trans ⟨rfl,rfl,rfl,uA _,fun _ _=>rfl⟩
def tiersAt (w:World) (a:Option Addr) (len cap:Nat) (ts:List (Int × Int)):Prop :=
 ts.length=len/\len<=cap/\cap * 16<=140737488355328/\(a=none->len=0/\cap=0) ∧
 (ts≠[]->∃ b off,a=some (aq b off)/\b<w.heap.size/\∀ i,i<len->w.cell? (aq b (off+i * 2))=some (iv (ts.getD i (0,0)).1)/\w.cell? (aq b (off+i * 2+1))=some (iv (ts.getD i (0,0)).2))
theorem tiersAt.below {w w':World} {a:Option Addr} {len cap B:Nat} {ts:List (Int × Int)} (h:tiersAt w a len cap ts) (hb:Below B w w') (hB:w.heap.size<=B):tiersAt w' a len cap ts:=by
 obtain ⟨h1,h2,h3,h4,h5⟩:=h
 refine ⟨h1,h2,h3,h4,fun hn=>?_⟩
 obtain ⟨b,off,ha,hbw,hc⟩:=h5 hn
 exact ⟨b,off,ha,uB hbw hb.size,fun i hi=>⟨(hb.cell (p:=(aq b (off+i * 2))) (uB hbw hB)).trans (hc i hi).1,(hb.cell (p:=(aq b (off+i * 2+1))) (uB hbw hB)).trans (hc i hi).2⟩⟩
def oG (ts:List (Int × Int)) (i:Nat):Bool :=
 decide (1<=(ts.getD i (0,0)).2) && decide ((ts.getD i (0,0)).2<=1073741824) && decide ((ts.getD i (0,0)).1<=4294967296) &&
  (if i=0 then (ts.getD i (0,0)).1==0 else decide ((ts.getD (i - 1) (0,0)).1<(ts.getD i (0,0)).1))
def jB (ts:List (Int × Int)):Bool:=decide (1<=ts.length) && decide (ts.length<=4) && (List.range ts.length).all (oG ts)
theorem oL {ts:List (Int × Int)} (h:¬ (1<=ts.length/\ts.length<=4)):jB ts=false:=by
 unfold jB
 by_cases h1:1<=ts.length
 ·have:¬ ts.length<=4:=fun h2=>h ⟨h1,h2⟩
  simp [this]
 ·simp [h1]
theorem vR {ts:List (Int × Int)} {k:Nat} (hk:k<ts.length) (h:oG ts k=false):jB ts=false:=by
 unfold jB
 have:(List.range ts.length).all (oG ts)=false:=by
  rw [List.all_eq_false]
  exact ⟨k,List.mem_range.2 hk,by simp [h]⟩
 simp [this]
theorem eN {ts:List (Int × Int)} (h1:1<=ts.length) (h4:ts.length<=4) (h:∀ j,j<ts.length->oG ts j=true):jB ts=true:=by
 unfold jB
 have:(List.range ts.length).all (oG ts)=true:=by
  rw [List.all_eq_true]
  exact fun j hj=>h j (List.mem_range.1 hj)
 simp [this,h1,h4]
theorem Yz {p:Nat->Bool} {k:Nat} (h:∀ j,j<k->p j=true) (hk:p k=true):∀ j,j<k+1->p j=true:=by
 intro j hj
 by_cases e:j=k
 ·rw [e];exact hk
 ·exact h j uO
theorem dL (n:Int) (w:World) :
 Ca 59 #[iv n] w fun e w'=>e=.returned (.bool (yU n))/\w=w':=by
 by_cases h:1<=n
 ·go_enter Tryz.func59,Tryz.ntmps59
  go_wp2
  go_ret
  exact ⟨by simp [yU,h],rfl⟩
 ·have hd:decide (1<=n)=false:=by simpa using h
  go_enter Tryz.func59,Tryz.ntmps59
  go_wp2
  go_ret
  exact ⟨by simp [yU,hd],rfl⟩
theorem fW {ts:List (Int × Int)} {k:Nat} {f c:Int} (hf:(ts.getD k (0,0)).1=f) (hc:(ts.getD k (0,0)).2=c) (h:c<1\/1073741824<c\/4294967296<f):oG ts k=false:=by
 unfold oG
 rw [hf,hc]
 rcases h with h|h|h
 ·have:decide (1<=c)=false:=by simp;omega
  simp [this]
 ·have:decide (c<=1073741824)=false:=by simp;omega
  simp [this]
 ·have:decide (f<=4294967296)=false:=by simp;omega
  simp [this]
theorem aV {ts:List (Int × Int)} {f c:Int} (hf:(ts.getD 0 (0,0)).1=f) (hc:(ts.getD 0 (0,0)).2=c) (h1:1<=c) (h2:c<=1073741824) (h3:f<=4294967296):oG ts 0=(f==0):=by
 unfold oG
 rw [hf,hc]
 simp [h1,h2,h3]
theorem sY {ts:List (Int × Int)} {k:Nat} {f c q:Int} (hk:¬ k=0) (hf:(ts.getD k (0,0)).1=f) (hc:(ts.getD k (0,0)).2=c) (hq:(ts.getD (k - 1) (0,0)).1=q) (h1:1<=c) (h2:c<=1073741824) (h3:f<=4294967296):oG ts k=decide (q<f):=by
 unfold oG
 rw [hf,hc,hq]
 simp [h1,h2,h3,hk]
theorem pK (b off len cap:Nat) (ts:List (Int × Int)) (w:World) (hl:ts.length=len) (h1:1<=len) (h4:len<=4)
 (hcell:∀ i,i<len->w.cell? (aq b (off+i * 2))=some (iv (ts.getD i (0,0)).1)/\w.cell? (aq b (off+i * 2+1))=some (iv (ts.getD i (0,0)).2)) :
 Ca 58 #[.slice (some (aq b off)) len cap] w fun e w'=>e=.returned (.bool (jB ts))/\Below w.heap.size w w':=by
 have h1':(0:Int)<(len:Int):=uO
 have hd1:decide ((len:Int)<1)=false:=by simp;omega
 have hd2:decide (4<(len:Int))=false:=by simp;omega
 have hc0:=(hcell 0 uO).1
 simp only [Nat.zero_mul,Nat.add_zero] at hc0
 have hbw:b<w.heap.size:=uC w _ hc0
 generalize hf0:(ts.getD 0 (0,0)).1=f0 at hc0
 have HF0:Hid ((ts.getD 0 (0,0)).1=f0):=hf0
 clear hf0
 by_cases hz:f0=0
 ·subst hz
  go_enter Tryz.func58,Tryz.ntmps58
  go_wp2
  clear hc0
  go_loopw [3] (fun i wr=>∃ k:Nat,k<=len/\i=iv k/\Hid (∀ j,j<k->oG ts j=true)/\Below w.heap.size w wr) (fun i _=>len - (intOf i).toNat)
  case atStart=>exact ⟨0,Nat.zero_le _,rfl,fun _ h=>uO,uM _ _⟩
  case round =>
   obtain ⟨k,hk,rfl,hall,hbel⟩:=hrel
   by_cases hlt:k<len
   ·have hkl:k<ts.length:=uO
    have hcf:=(hbel.cell (p:=(aq b (off+k * 2))) hbw).trans (hcell k hlt).1
    have hcc:=(hbel.cell (p:=(aq b (off+k * 2+1))) hbw).trans (hcell k hlt).2
    generalize hf:(ts.getD k (0,0)).1=f at hcf
    generalize hc:(ts.getD k (0,0)).2=c at hcc
    have HF:Hid ((ts.getD k (0,0)).1=f):=hf
    have HC:Hid ((ts.getD k (0,0)).2=c):=hc
    clear hf hc
    by_cases b1:1<=c
    ·by_cases b2:c<=1073741824
     ·by_cases b3:f<=4294967296
      ·by_cases hk0:k=0
       ·subst hk0
        have HT:Hid (oG ts 0=true):=by unfold Hid;rw [aV HF.out HC.out b1 b2 b3,← HF.out,HF0.out];rfl
        simp only [Nat.zero_mul,Nat.add_zero] at hcf hcc
        clear hcell
        go_wp2
        go_quiet (fail)
        go_wp2
        go_roundw
        case rel=>exact ⟨1,uO,rfl,Yz hall.out HT.out,uL hbel ⟨rfl,rfl,rfl,uA _,fun _ _=>rfl⟩⟩
        case measure=>simp [intOf];omega
       ·obtain ⟨m,rfl⟩:∃ m,k=m+1:=⟨k - 1,uO⟩
        have hcq:=(hbel.cell (p:=(aq b (off+m * 2))) hbw).trans (hcell m uO).1
        generalize hq:(ts.getD m (0,0)).1=q at hcq
        have HT:Hid (oG ts (m+1)=decide (q<f)):=sY hk0 HF.out HC.out hq b1 b2 b3
        have hkp:(0:Int)<(m:Int)+1:=uO
        clear hq hcell
        by_cases hqf:q<f
        ·have HT':Hid (oG ts (m+1)=true):=by unfold Hid;rw [HT.out];simpa using hqf
         go_wp2
         go_quiet (fail)
         go_wp2
         go_roundw
         case rel=>exact ⟨m+1+1,uO,vN,Yz hall.out HT'.out,uL hbel ⟨rfl,rfl,rfl,uA _,fun _ _=>rfl⟩⟩
         case measure=>simp [intOf];omega
        ·have HN:Hid (jB ts=false):=vR hkl (by rw [HT.out];simpa using hqf)
         go_wp2
         go_quiet (fail)
         go_wp2
         go_ret
         exact ⟨by rw [HN.out];rfl,uL hbel ⟨rfl,rfl,rfl,uA _,fun _ _=>rfl⟩⟩
      ·have HN:Hid (jB ts=false):=vR hkl (fW HF.out HC.out (.inr (.inr uO)))
       clear hcell
       go_wp2
       go_ret
       exact ⟨by rw [HN.out];rfl,hbel⟩
     ·have HN:Hid (jB ts=false):=vR hkl (fW HF.out HC.out (.inr (.inl uO)))
      clear hcell
      go_wp2
      go_ret
      exact ⟨by rw [HN.out];rfl,hbel⟩
    ·have HN:Hid (jB ts=false):=vR hkl (fW HF.out HC.out (.inl uO))
     clear hcell
     go_wp2
     go_ret
     exact ⟨by rw [HN.out];rfl,hbel⟩
   ·have HN:Hid (jB ts=true):=eN uO uO (fun j hj=>hall.out j uO)
    clear hcell
    go_wp2
    go_ret
    exact ⟨by rw [HN.out];rfl,hbel⟩
 ·have HN:Hid (jB ts=false):=vR (k:=0) uO (by
   by_cases hb:1<=(ts.getD 0 (0,0)).2/\(ts.getD 0 (0,0)).2<=1073741824/\f0<=4294967296
   ·rw [aV HF0.out rfl hb.1 hb.2.1 hb.2.2];simpa using hz
   ·exact fW HF0.out rfl uO)
  have hz':(f0==0)=false:=by simpa using hz
  clear hcell
  go_enter Tryz.func58,Tryz.ntmps58
  go_wp2
  go_ret
  exact ⟨by rw [HN.out];rfl,uM _ _⟩
end Go.Proofs.YtfhncfghblkgeabGreat
namespace Go
section
variable {P:Program}
theorem pN (w:World) (dT sT ty elem:TypeId) (s g dLen dCap:Nat) (a:Addr) (sLen sCap:Nat) (cur:Array Value) (t:TypeId) (cs:List Value)
 (hu:P.underlying dT=some (.slice elem)) (hs:(P.info? elem).map (·.size)=some s)
 (hg:w.heap[g]?=some (.cells cur t (0,0))) (hn:cs.length=Nat.min sLen dLen * s)
 (hsrc:∀ j v,cs[j]?=some v->w.cell? (a.add j)=some v) (hfit:cs.length<=cur.size) (h1:∀ v∈cs,v.oneCell'=true) :
 (Builtin.copy_ #[dT,sT] ty #[.slice (some ⟨g,0,none⟩) dLen dCap,.slice (some a) sLen sCap]).run P w =
   .ok (goInt (Nat.min sLen dLen)) (w.setRow g (cs++cur.toList.drop cs.length).toArray):=by
 have hl:=run_firstCells_some (P:=P) w s (Nat.min sLen dLen) a sLen sCap cs hn hsrc
 have hst:=run_storeCells_at P g 0 t cs 0 cur w hg (by simpa using hfit) h1
 cases hq:P.info? elem with
 | none=>simp [hq] at hs
 | some i =>
   have hi:i.size=s:=by simpa [hq] using hs
   simp [Builtin.copy_,run_underlying hu,Builtin.lenOf,sizeOf,typeInfo,hq,hi,hl,hst]
end
end Go
namespace Go.Proofs.YtfhncfghblkgeabGreat
open Go.RowKit
theorem Bw {Z:List Value} {j:Nat} (h:Z.length=(8 - j) * 2) (hj:j<8):∃ z0 z1 Z',Z=z0 :: z1 :: Z'/\Z'.length=(8 - (j+1)) * 2:=by
 match Z,h with
 | [],h=>simp at h;omega
 | [_],h=>simp at h;omega
 | z0 :: z1 :: Z',h=>exact ⟨z0,z1,Z',rfl,by simp at h;omega⟩
theorem Nr {w:World} {x:Addr} {len cap:Nat} {ts:List (Int × Int)} (h:tiersAt w (some x) len cap ts):∀ j v,(qV ts)[j]?=some v->w.cell? (x.add j)=some v:=by
 intro j v hv
 obtain ⟨hl,_,_,_,hc⟩:=h
 have hjl:j<(qV ts).length:=(List.getElem?_eq_some_iff.1 hv).1
 rw [kN] at hjl
 obtain ⟨b,off,hx,_,hcell⟩:=hc (fun e=>by rw [e] at hjl;simp at hjl)
 simp at hx
 subst hx
 have hi:j / 2<len:=uO
 have hf:=dV ts (j / 2) uO
 rw [Addr.add_lit]
 by_cases hp:j % 2=0
 ·have e:j=j / 2 * 2:=uO
  rw [e,hf.1] at hv
  rw [e]
  rw [(hcell (j / 2) hi).1];exact hv
 ·have e:j=j / 2 * 2+1:=uO
  rw [e,hf.2] at hv
  rw [e,← Nat.add_assoc]
  rw [(hcell (j / 2) hi).2];exact hv
theorem kS {w:World} {b:Nat} {T:TypeId} {c0 c1 c2 c3 c4 c5 c6 c7:Value} (h:w.heap[b]?=some (.cells #[c0,c1,c2,c3,c4,c5,c6,c7] T)) :
 w.cell? (aq b 0)=some c0/\w.cell? (aq b 1)=some c1/\w.cell? (aq b 2)=some c2/\w.cell? (aq b 3)=some c3/\w.cell? (aq b 4)=some c4/\w.cell? (aq b 5)=some c5/\w.cell? (aq b 6)=some c6/\w.cell? (aq b 7)=some c7/\(∀ i,w.frozen? (aq b i)=false):=by
 refine ⟨?_,?_,?_,?_,?_,?_,?_,?_,?_⟩
 all_goals first|exact fun i=>Joins.unfrozen_of_block h i|(rw [uI h];rfl)
theorem Gz {B b:Nat} {w w2:World} {v0 v1 v2 v3 v4 v5 v6 v7:Value} (h:Below B w w2) (hb:B<=b):Below B w ((((((((w2.sc b 0 v0).sc b 1 v1).sc b 2 v2).sc b 3 v3).sc b 4 v4).sc b 5 v5).sc b 6 v6).sc b 7 v7) :=
 ((((((((h.setCell (p:=(aq b 0)) hb v0).setCell (p:=(aq b 1)) hb v1).setCell (p:=(aq b 2)) hb v2).setCell (p:=(aq b 3)) hb v3).setCell (p:=(aq b 4)) hb v4).setCell (p:=(aq b 5)) hb v5).setCell (p:=(aq b 6)) hb v6).setCell (p:=(aq b 7)) hb v7)
theorem Hj {b g:Nat} {w2:World} {v0 v1 v2 v3 v4 v5 v6 v7:Value} (hg:g≠b):(((((((((w2.sc b 0 v0).sc b 1 v1).sc b 2 v2).sc b 3 v3).sc b 4 v4).sc b 5 v5).sc b 6 v6).sc b 7 v7)).heap[g]?=w2.heap[g]?:=by
 rw [uG _ (aq b 7) _ g hg,uG _ (aq b 6) _ g hg,uG _ (aq b 5) _ g hg,uG _ (aq b 4) _ g hg,uG _ (aq b 3) _ g hg,uG _ (aq b 2) _ g hg,uG _ (aq b 1) _ g hg,uG _ (aq b 0) _ g hg]
def zZ (c:Int) (n:Nat):Nat:=if c<0 then (-(c+1)).toNat % n else c.toNat % n
theorem vX (c:Int) {n:Nat} (h:0<n):zZ c n<n:=by
 unfold zZ
 split<;>exact Nat.mod_lt _ h
theorem dS (c:Int) (n:Nat) (w:World) (hb:-9223372036854775808<=c/\c<=9223372036854775807) (hn:0<n) (hn':n<4611686018427387904) :
 Ca 51 #[iv c,iv n] w fun e w'=>e=.returned (iv (zZ c n))/\w=w':=by
 obtain ⟨hb1,hb2⟩:=hb
 by_cases h0:c<0
 ·have hne:((n:Int)==0)=false:=by simp;omega
  go_enter Tryz.func51,Tryz.ntmps51
  go_wp2
  go_ret
  refine ⟨Aw ?_,rfl⟩
  unfold zZ
  rw [uQ h0]
  rw [← Int.neg_tmod]
  generalize hd:-(c+1)=d
  obtain ⟨m,rfl⟩:=Int.eq_ofNat_of_zero_le (show 0<=d by omega)
  rw [Int.toNat_natCast]
  exact Int.ofNat_tmod m n
 ·have hne:((n:Int)==0)=false:=by simp;omega
  obtain ⟨m,rfl⟩:=Int.eq_ofNat_of_zero_le (show 0<=c by omega)
  go_enter Tryz.func51,Tryz.ntmps51
  go_wp2
  go_ret
  refine ⟨Aw ?_,rfl⟩
  unfold zZ
  rw [uP uO,Int.toNat_natCast]
  first|exact Int.ofNat_tmod m n|exact (Int.natCast_emod m n).symm
theorem eV (b off cap:Nat) (ns:List Int) (k:Int) (w:World) (hl:ns.length<=100) (hcell:∀ i,i<ns.length->w.cell? (aq b (off+i))=some (iv (ns.getD i 0))) :
 Ca 31 #[.slice (some (aq b off)) ns.length cap,iv k] w fun e w'=>e=.returned (.bool (ns.any (·==k)))/\w=w':=by
 go_enter Tryz.func31,Tryz.ntmps31
 go_wp2
 go_loop [5] (fun i=>∃ j:Nat,j<=ns.length/\i=iv j/\Hid ((ns.take j).any (·==k)=false)) (fun i=>ns.length - (intOf i).toNat)
 case atStart=>exact ⟨0,Nat.zero_le _,rfl,by simp [Hid]⟩
 case round =>
  obtain ⟨j,hj,rfl,hall⟩:=hrel
  by_cases hlt:j<ns.length
  ·have hc:=hcell j hlt
   generalize hx:ns.getD j 0=x at hc
   have hxe:ns[j]=x:=by simpa [List.getD,uD hlt] using hx
   have HX:Hid (ns[j]=x):=hxe
   clear hx hcell hxe
   by_cases h1:x=k
   ·subst h1
    have HN:Hid (ns.any (·==x)=true):=by
     unfold Hid
     rw [List.any_eq_true]
     exact ⟨ns[j],List.getElem_mem hlt,by rw [HX.out];simp⟩
    go_wp2
    go_ret
    exact ⟨by rw [HN.out];rfl,rfl⟩
   ·have h1':(x==k)=false:=by simpa using h1
    go_wp2
    go_round
    case rel=>exact ⟨j+1,uO,vN,by unfold Hid;rw [List.take_succ_eq_append_getElem hlt,List.any_append,hall.out];simp [HX.out,h1]⟩
    case measure=>simp [intOf];omega
  ·have HN:Hid (ns.any (·==k)=false):=by have:=hall.out;rwa [List.take_of_length_le uO] at this
   go_wp2
   go_ret
   exact ⟨by rw [HN.out];rfl,rfl⟩
structure OpV where
 k:Int
 a:Int
 b:Int
 c:Int
 d:Int
 e:Int
 s:ByteArray
def OpV.val (o:OpV):Value:=.agg #[iv o.k,iv o.a,iv o.b,iv o.c,iv o.d,iv o.e,.string o.s]
def QC:OpV:=⟨0,0,0,0,0,0,ByteArray.empty⟩
def opAt (w:World) (b i:Nat) (o:OpV):Prop :=
 w.cell? (aq b i)=some (iv o.k)/\w.cell? (aq b (i+1))=some (iv o.a)/\w.cell? (aq b (i+2))=some (iv o.b)/\w.cell? (aq b (i+3))=some (iv o.c) ∧
 w.cell? (aq b (i+4))=some (iv o.d)/\w.cell? (aq b (i+5))=some (iv o.e)/\w.cell? (aq b (i+6))=some (.string o.s)
def scriptAt (w:World) (a:Option Addr) (len:Nat) (ops:List OpV):Prop :=
 ops.length=len/\(ops≠[]->∃ b off,a=some (aq b off)/\b<w.heap.size/\∀ i,i<len->opAt w b (off+i * 7) (ops.getD i QC))
def rowAt (w:World) (b:Nat) (ns:List Int):Prop:=ns.length<=100/\b<w.heap.size/\∀ i,i<ns.length->w.cell? (aq b (0+i))=some (iv (ns.getD i 0))
theorem rowAt.below {w w':World} {b B:Nat} {ns:List Int} (h:rowAt w b ns) (hb:Below B w w') (hB:w.heap.size<=B):rowAt w' b ns :=
 ⟨h.1,uB h.2.1 hb.size,fun i hi=>(hb.cell (p:=(aq b (0+i))) (uB h.2.1 hB)).trans (h.2.2 i hi)⟩
theorem opAt.below {w w':World} {b i B:Nat} {o:OpV} (h:opAt w b i o) (hb:Below B w w') (hB:b<B):opAt w' b i o:=by
 obtain ⟨h0,h1,h2,h3,h4,h5,h6⟩:=h
 exact ⟨(hb.cell (p:=(aq b i)) hB).trans h0,(hb.cell (p:=(aq b (i+1))) hB).trans h1,(hb.cell (p:=(aq b (i+2))) hB).trans h2,(hb.cell (p:=(aq b (i+3))) hB).trans h3,(hb.cell (p:=(aq b (i+4))) hB).trans h4,(hb.cell (p:=(aq b (i+5))) hB).trans h5,(hb.cell (p:=(aq b (i+6))) hB).trans h6⟩
def lW (w:World):Value:=pt w.heap.size 0
theorem Te {α:Type} (Inv:Nat->α->World->Prop) (own:α->Nat->Prop) (w:World) (ac:Option Addr) (lc cc:Nat) (a:Option Addr) (len cap:Nat) (ops:List OpV) (bp cp bh ch:Nat) (play hold:List Int)
 (hs:scriptAt w a len ops) (hlen:len * 64<=140737488351232) (hp:rowAt w bp play) (hh:rowAt w bh hold)
 (hown:∀ j σ w' b,Inv j σ w'->own σ b->b<w'.heap.size) (hinv:∀ j σ w1 w2,Inv j σ w1->Below w1.heap.size w1 w2->Inv j σ w2) (hskip:∀ j σ w1,Inv j σ w1->Inv (j+1) σ w1) (hbel:∀ j σ w',Inv j σ w'->Below w.heap.size w w')
 (h0:∃ σ,Inv 0 σ (w.alloc (.cells #[.slice ac lc cc,.slice none 0 0,.slice none 0 0,.slice none 0 0,.slice none 0 0] 81)))
 (hstep:∀ j σ w1 o,j<len->o∈ops->play.any (·==o.k)=true->Inv j σ w1->Ca 32 #[lW w,o.val] w1 fun e w2=>e=.returned (.bool true)/\(∃ σ',Inv (j+1) σ' w2)/\Same (own σ) w1 w2)
 (hlooks:∀ j σ w1,j<=len->Inv j σ w1->Ca 33 #[lW w] w1 fun e w2=>e=.returned (.bool true)/\Inv j σ w2) :
 Ca 17 #[.slice ac lc cc,.slice a len cap,.slice (some (aq bp 0)) play.length cp,.slice (some (aq bh 0)) hold.length ch] w fun e w'=>e=.returned (.bool true)/\Below w.heap.size w w':=by
 have HS:Hid (scriptAt w a len ops):=hs
 have HP:Hid (rowAt w bp play):=hp
 have HH:Hid (rowAt w bh hold):=hh
 have HOWN:Hid (∀ j σ w' b,Inv j σ w'->own σ b->b<w'.heap.size):=hown
 have HINV:Hid (∀ j σ w1 w2,Inv j σ w1->Below w1.heap.size w1 w2->Inv j σ w2):=hinv
 have HSK:Hid (∀ j σ w1,Inv j σ w1->Inv (j+1) σ w1):=hskip
 have HBEL:Hid (∀ j σ w',Inv j σ w'->Below w.heap.size w w'):=hbel
 have HST:Hid (∀ j σ w1 o,j<len->o∈ops->play.any (·==o.k)=true->Inv j σ w1->Ca 32 #[lW w,o.val] w1 fun e w2=>e=.returned (.bool true)/\(∃ σ',Inv (j+1) σ' w2)/\Same (own σ) w1 w2):=hstep
 have HLK:Hid (∀ j σ w1,j<=len->Inv j σ w1->Ca 33 #[lW w] w1 fun e w2=>e=.returned (.bool true)/\Inv j σ w2):=hlooks
 have H0:Hid (∃ σ,Inv 0 σ (w.alloc (.cells #[.slice ac lc cc,.slice none 0 0,.slice none 0 0,.slice none 0 0,.slice none 0 0] 81))):=h0
 clear hs hp hh hown hinv hskip hbel h0 hstep hlooks
 go_enter Tryz.func17,Tryz.ntmps17
 go_wp2_with fail
 go_loopw [10] (fun i wr=>∃ j:Nat,j<=len/\i=iv j/\Hid (∃ σ,Inv j σ wr)) (fun i _=>len - (intOf i).toNat)
 case atStart=>exact ⟨0,Nat.zero_le _,rfl,H0⟩
 case round =>
  obtain ⟨j,hj,rfl,σ,hI⟩:=hrel
  have HI:Hid (Inv j σ wr):=hI
  clear hI
  by_cases hlt:j<len
  ·obtain ⟨hl,hsc⟩:=HS.out
   obtain ⟨b,off,rfl,hbw,hop⟩:=hsc (fun e=>by rw [e] at hl;simp at hl;omega)
   have hmax:(j:Int)<288230376151711744:=uO
   have hb0:=HBEL.out j σ wr HI.out
   have hmem:Hid (ops.getD j QC∈ops):=by unfold Hid;simp [List.getD,uD (show j<ops.length by omega)]
   obtain ⟨e0,e1,e2,e3,e4,e5,e6⟩:=(hop j hlt).below hb0 hbw
   generalize ops.getD j QC=o at hmem e0 e1 e2 e3 e4 e5 e6
   have hI1:Hid (∀ O,Inv j σ (wr.alloc O)):=fun O=>HINV.out j σ wr _ HI.out ((uM _ _).alloc (uA _) O)
   have hwr:w.heap.size<=wr.heap.size:=hb0.size
   clear hop hsc
   by_cases hin:play.any (·==o.k)=true
   ·have HIN:Hid (play.any (·==o.k)=true):=hin
    clear hin
    have HPW:Hid (∀ O,rowAt (wr.alloc O) bp play):=fun O=>HP.out.below (hb0.alloc hwr O) (uA _)
    go_wp2_with fail
    refine (eV bp 0 cp play o.k _ HP.out.1 (HPW.out _).2.2).mono ?_
    rintro e w1 ⟨rfl,rfl⟩
    rw [HIN.out]
    go_wp2_with fail
    refine (HST.out j σ _ o hlt hmem.out HIN.out (hI1.out _)).mono ?_
    rintro e w2 ⟨rfl,⟨σ',hI2⟩,hsame⟩
    have HI2:Hid (Inv (j+1) σ' w2):=hI2
    have hb2:=HBEL.out (j+1) σ' w2 hI2
    have HH2:Hid (rowAt w2 bh hold):=HH.out.below hb2 (uA _)
    have q0:w2.cell? (aq wr.heap.size 0)=some (iv o.k):=(hsame.cell vS (fun h=>by have:=HOWN.out j σ wr _ HI.out h;omega)).trans uU
    clear hI2 hsame e0 e1 e2 e3 e4 e5 e6
    go_wp2_with fail
    refine (eV bh 0 ch hold o.k _ HH2.out.1 HH2.out.2.2).mono ?_
    rintro e w3 ⟨rfl,rfl⟩
    go_wp2_with fail
    refine (HLK.out (j+1) σ' _ hlt HI2.out).mono ?_
    rintro e w4 ⟨rfl,hI4⟩
    have HI4:Hid (Inv (j+1) σ' w4):=hI4
    clear hI4
    go_wp2
    go_roundw
    case rel=>exact ⟨j+1,uO,vN,⟨σ',HI4.out⟩⟩
    case measure=>simp [intOf];omega
   ·have HIN:Hid (play.any (·==o.k)=false):=Bool.eq_false_iff.2 hin
    clear hin
    have HPW:Hid (∀ O,rowAt (wr.alloc O) bp play):=fun O=>HP.out.below (hb0.alloc hwr O) (uA _)
    go_wp2_with fail
    refine (eV bp 0 cp play o.k _ HP.out.1 (HPW.out _).2.2).mono ?_
    rintro e w1 ⟨rfl,rfl⟩
    rw [HIN.out]
    go_wp2
    go_roundw
    case rel=>exact ⟨j+1,uO,vN,⟨σ,HSK.out j σ _ (hI1.out _)⟩⟩
    case measure=>simp [intOf];omega
  ·have hje:j=len:=uO
   subst hje
   have hbe:=HBEL.out j σ wr HI.out
   go_wp2
   go_ret
   exact ⟨rfl,hbe⟩
