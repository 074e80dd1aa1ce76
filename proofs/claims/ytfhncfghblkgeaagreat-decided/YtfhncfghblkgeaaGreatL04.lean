import Derived.Test.YtfhncfghblkgeaaGreatL03
set_option maxRecDepth 100000
set_option maxHeartbeats 2000000
namespace Go.Proofs.YtfhncfghblkgeaaGreat
open Go.RowKit
theorem jaf {B n:Nat} {w w1:World} (h:Below B w w1):Below B w (w1.drewN n):=h.trans ⟨rfl,rfl,rfl,Nat.le_refl _,fun _ _=>rfl⟩
def tiersAt (w:World) (a:Option Addr) (len cap:Nat) (ts:List (Int × Int)):Prop :=
 ts.length=len/\len<=cap/\cap * 16<=140737488355328/\(a=none->len=0/\cap=0) ∧
 (ts≠[]->∃ b off,a=some (aq b off)/\b<w.heap.size/\∀ i,i<len->w.cell? (aq b (off+i * 2))=some (iv (ts.getD i (0,0)).1)/\w.cell? (aq b (off+i * 2+1))=some (iv (ts.getD i (0,0)).2))
theorem tiersAt.below {w w':World} {a:Option Addr} {len cap B:Nat} {ts:List (Int × Int)} (h:tiersAt w a len cap ts) (hb:Below B w w') (hB:w.heap.size<=B):tiersAt w' a len cap ts:=by
 obtain ⟨h1,h2,h3,h4,h5⟩:=h
 refine ⟨h1,h2,h3,h4,fun hn=>?_⟩
 obtain ⟨b,off,ha,hbw,hc⟩:=h5 hn
 exact ⟨b,off,ha,Nat.lt_of_lt_of_le hbw hb.size,fun i hi=>⟨(hb.cell (p:=(aq b (off+i * 2))) (Nat.lt_of_lt_of_le hbw hB)).trans (hc i hi).1,(hb.cell (p:=(aq b (off+i * 2+1))) (Nat.lt_of_lt_of_le hbw hB)).trans (hc i hi).2⟩⟩
def jea (ts:List (Int × Int)) (i:Nat):Bool :=
 decide (1<=(ts.getD i (0,0)).2) && decide ((ts.getD i (0,0)).2<=1073741824) && decide ((ts.getD i (0,0)).1<=4294967296) &&
  (if i=0 then (ts.getD i (0,0)).1==0 else decide ((ts.getD (i - 1) (0,0)).1<(ts.getD i (0,0)).1))
def jbo (ts:List (Int × Int)):Bool:=decide (1<=ts.length) && decide (ts.length<=4) && (List.range ts.length).all (jea ts)
theorem jet {ts:List (Int × Int)} (h:¬ (1<=ts.length/\ts.length<=4)):jbo ts=false:=by
 unfold jbo
 by_cases h1:1<=ts.length
 ·have:¬ ts.length<=4:=fun h2=>h ⟨h1,h2⟩
  simp [this]
 ·simp [h1]
theorem jec {ts:List (Int × Int)} {k:Nat} (hk:k<ts.length) (h:jea ts k=false):jbo ts=false:=by
 unfold jbo
 have:(List.range ts.length).all (jea ts)=false:=by
  rw [List.all_eq_false]
  exact ⟨k,List.mem_range.2 hk,by simp [h]⟩
 simp [this]
theorem jmg {ts:List (Int × Int)} (h1:1<=ts.length) (h4:ts.length<=4) (h:∀ j,j<ts.length->jea ts j=true):jbo ts=true:=by
 unfold jbo
 have:(List.range ts.length).all (jea ts)=true:=by
  rw [List.all_eq_true]
  exact fun j hj=>h j (List.mem_range.1 hj)
 simp [this,h1,h4]
theorem joz {p:Nat->Bool} {k:Nat} (h:∀ j,j<k->p j=true) (hk:p k=true):∀ j,j<k+1->p j=true:=by
 intro j hj
 by_cases e:j=k
 ·rw [e];exact hk
 ·exact h j (by omega)
theorem jmz (n:Int) (w:World) :
 Calls Tryz.prog 92 #[iv n] w fun e w'=>e=.returned (.bool (jbn n))/\w=w':=by
 by_cases h:1<=n
 ·go_enter Tryz.func92,Tryz.ntmps92
  go_wp2
  go_ret
  exact ⟨by simp [jbn,h],rfl⟩
 ·have hd:decide (1<=n)=false:=by simpa using h
  go_enter Tryz.func92,Tryz.ntmps92
  go_wp2
  go_ret
  exact ⟨by simp [jbn,hd],rfl⟩
theorem jg2 {ts:List (Int × Int)} {k:Nat} {f c:Int} (hf:(ts.getD k (0,0)).1=f) (hc:(ts.getD k (0,0)).2=c) (h:c<1\/1073741824<c\/4294967296<f):jea ts k=false:=by
 unfold jea
 rw [hf,hc]
 rcases h with h|h|h
 ·have:decide (1<=c)=false:=by simp;omega
  simp [this]
 ·have:decide (c<=1073741824)=false:=by simp;omega
  simp [this]
 ·have:decide (f<=4294967296)=false:=by simp;omega
  simp [this]
theorem jkb {ts:List (Int × Int)} {f c:Int} (hf:(ts.getD 0 (0,0)).1=f) (hc:(ts.getD 0 (0,0)).2=c) (h1:1<=c) (h2:c<=1073741824) (h3:f<=4294967296):jea ts 0=(f==0):=by
 unfold jea
 rw [hf,hc]
 simp [h1,h2,h3]
theorem joi {ts:List (Int × Int)} {k:Nat} {f c q:Int} (hk:¬ k=0) (hf:(ts.getD k (0,0)).1=f) (hc:(ts.getD k (0,0)).2=c) (hq:(ts.getD (k - 1) (0,0)).1=q) (h1:1<=c) (h2:c<=1073741824) (h3:f<=4294967296):jea ts k=decide (q<f):=by
 unfold jea
 rw [hf,hc,hq]
 simp [h1,h2,h3,hk]
theorem jna (b off len cap:Nat) (ts:List (Int × Int)) (w:World) (hl:ts.length=len) (h1:1<=len) (h4:len<=4)
 (hcell:∀ i,i<len->w.cell? (aq b (off+i * 2))=some (iv (ts.getD i (0,0)).1)/\w.cell? (aq b (off+i * 2+1))=some (iv (ts.getD i (0,0)).2)) :
 Calls Tryz.prog 91 #[.slice (some (aq b off)) len cap] w fun e w'=>e=.returned (.bool (jbo ts))/\Below w.heap.size w w':=by
 have h1':(0:Int)<(len:Int):=by omega
 have hd1:decide ((len:Int)<1)=false:=by simp;omega
 have hd2:decide (4<(len:Int))=false:=by simp;omega
 have hc0:=(hcell 0 (by omega)).1
 simp only [Nat.zero_mul,Nat.add_zero] at hc0
 have hbw:b<w.heap.size:=World.block_lt_of_cell? w _ hc0
 generalize hf0:(ts.getD 0 (0,0)).1=f0 at hc0
 have HF0:Hid ((ts.getD 0 (0,0)).1=f0):=hf0
 clear hf0
 by_cases hz:f0=0
 ·subst hz
  go_enter Tryz.func91,Tryz.ntmps91
  go_wp2
  clear hc0
  go_loopw [3] (fun i wr=>∃ k:Nat,k<=len/\i=iv k/\Hid (∀ j,j<k->jea ts j=true)/\Below w.heap.size w wr) (fun i _=>len - (intOf i).toNat)
  case atStart=>exact ⟨0,Nat.zero_le _,rfl,fun _ h=>by omega,Below.refl _ _⟩
  case round =>
   obtain ⟨k,hk,rfl,hall,hbel⟩:=hrel
   by_cases hlt:k<len
   ·have hkl:k<ts.length:=by omega
    have hcf:=(hbel.cell (p:=(aq b (off+k * 2))) hbw).trans (hcell k hlt).1
    have hcc:=(hbel.cell (p:=(aq b (off+k * 2+1))) hbw).trans (hcell k hlt).2
    generalize hf:(ts.getD k (0,0)).1=f at hcf
    generalize hc:(ts.getD k (0,0)).2=c at hcc
    have HF:Hid ((ts.getD k (0,0)).1=f):=hf
    have HC:Hid ((ts.getD k (0,0)).2=c):=hc
    clear hf hc
    by_cases b1:1<=c
    ·by_cases b2:c<=1073741824
     ·by_cases b3:f<=4294967296
      ·by_cases hk0:k=0
       ·subst hk0
        have HT:Hid (jea ts 0=true):=by unfold Hid;rw [jkb HF.out HC.out b1 b2 b3,← HF.out,HF0.out];rfl
        simp only [Nat.zero_mul,Nat.add_zero] at hcf hcc
        clear hcell
        go_wp2
        go_quiet (fail)
        go_wp2
        go_roundw
        case rel=>exact ⟨1,by omega,rfl,joz hall.out HT.out,Below.trans hbel ⟨rfl,rfl,rfl,Nat.le_refl _,fun _ _=>rfl⟩⟩
        case measure=>simp [intOf];omega
       ·obtain ⟨m,rfl⟩:∃ m,k=m+1:=⟨k - 1,by omega⟩
        have hcq:=(hbel.cell (p:=(aq b (off+m * 2))) hbw).trans (hcell m (by omega)).1
        generalize hq:(ts.getD m (0,0)).1=q at hcq
        have HT:Hid (jea ts (m+1)=decide (q<f)):=joi hk0 HF.out HC.out hq b1 b2 b3
        have hkp:(0:Int)<(m:Int)+1:=by omega
        clear hq hcell
        by_cases hqf:q<f
        ·have HT':Hid (jea ts (m+1)=true):=by unfold Hid;rw [HT.out];simpa using hqf
         go_wp2
         go_quiet (fail)
         go_wp2
         go_roundw
         case rel=>exact ⟨m+1+1,by omega,by go_num,joz hall.out HT'.out,Below.trans hbel ⟨rfl,rfl,rfl,Nat.le_refl _,fun _ _=>rfl⟩⟩
         case measure=>simp [intOf];omega
        ·have HN:Hid (jbo ts=false):=jec hkl (by rw [HT.out];simpa using hqf)
         go_wp2
         go_quiet (fail)
         go_wp2
         go_ret
         exact ⟨by rw [HN.out];rfl,Below.trans hbel ⟨rfl,rfl,rfl,Nat.le_refl _,fun _ _=>rfl⟩⟩
      ·have HN:Hid (jbo ts=false):=jec hkl (jg2 HF.out HC.out (.inr (.inr (by omega))))
       clear hcell
       go_wp2
       go_ret
       exact ⟨by rw [HN.out];rfl,hbel⟩
     ·have HN:Hid (jbo ts=false):=jec hkl (jg2 HF.out HC.out (.inr (.inl (by omega))))
      clear hcell
      go_wp2
      go_ret
      exact ⟨by rw [HN.out];rfl,hbel⟩
    ·have HN:Hid (jbo ts=false):=jec hkl (jg2 HF.out HC.out (.inl (by omega)))
     clear hcell
     go_wp2
     go_ret
     exact ⟨by rw [HN.out];rfl,hbel⟩
   ·have HN:Hid (jbo ts=true):=jmg (by omega) (by omega) (fun j hj=>hall.out j (by omega))
    clear hcell
    go_wp2
    go_ret
    exact ⟨by rw [HN.out];rfl,hbel⟩
 ·have HN:Hid (jbo ts=false):=jec (k:=0) (by omega) (by
   by_cases hb:1<=(ts.getD 0 (0,0)).2/\(ts.getD 0 (0,0)).2<=1073741824/\f0<=4294967296
   ·rw [jkb HF0.out rfl hb.1 hb.2.1 hb.2.2];simpa using hz
   ·exact jg2 HF0.out rfl (by omega))
  have hz':(f0==0)=false:=by simpa using hz
  clear hcell
  go_enter Tryz.func91,Tryz.ntmps91
  go_wp2
  go_ret
  exact ⟨by rw [HN.out];rfl,Below.refl _ _⟩
def jhn:List Int->Nat
 | []=>0
 | x :: r=>(x % 128).toNat+128 * jhn r
theorem jis:∀ (g:List Int) (x:Int),jhn (g++[x])=jhn g+(x % 128).toNat * 128 ^ g.length
 | [],x=>by simp [jhn]
 | y :: g,x=>by
   have h:=jis g x
   simp only [List.cons_append,jhn,List.length_cons,Nat.pow_succ]
   rw [h]
   have:(x % 128).toNat * (128 ^ g.length * 128)=128 * ((x % 128).toNat * 128 ^ g.length):=by
    rw [Nat.mul_comm (128 ^ g.length) 128,Nat.mul_left_comm]
   omega
theorem jt5:∀ (g:List Int),jhn g<128 ^ g.length
 | []=>by simp [jhn]
 | y :: g=>by
   have h:=jt5 g
   simp only [jhn,List.length_cons,Nat.pow_succ]
   omega
def jx8 (g:List Int):Prop:=∀ y∈g,128<=y/\y<256
theorem qc0 {g:List Int} {x:Int} (h0:0<x) (h1:x<128):1<=jhn (g++[x]):=by
 rw [jis]
 have:1<=(x % 128).toNat:=by omega
 have hp:1<=128 ^ g.length:=Nat.one_le_pow _ _ (by omega)
 have:=Nat.mul_le_mul this hp
 omega
theorem jqe:∀ (g:List Int) (x:Int),jx8 g->0<=x->x<128->(g=[]\/x≠0)->jcy (jhn (g++[x]))=g++[x]
 | [],x,_,h0,h1,_=>by
   have e:(x % 128).toNat=x.toNat:=by omega
   simp only [List.nil_append,jhn,Nat.mul_zero,Nat.add_zero,e]
   rw [jc9 (by omega)]
   simp;omega
 | y :: g,x,hg,h0,h1,hx=>by
   have hx0:x≠0:=by simpa using hx
   have hv:=qc0 (g:=g) (x:=x) (by omega) h1
   have hy:=hg y (by simp)
   have ih:=jqe g x (fun z hz=>hg z (by simp [hz])) h0 h1 (.inr hx0)
   have e:jhn (y :: g++[x])=(y % 128).toNat+128 * jhn (g++[x]):=rfl
   rw [e,jda (by omega)]
   have e1:((y % 128).toNat+128 * jhn (g++[x])) % 128=(y % 128).toNat:=by omega
   have e2:((y % 128).toNat+128 * jhn (g++[x])) / 128=jhn (g++[x]):=by omega
   rw [e1,e2,ih]
   have e3:(((y % 128).toNat+128:Nat):Int)=y:=by omega
   rw [e3];rfl
theorem jfv:∀ (n k:Nat),n<=k->∃ (g:List Int) (x:Int),jcy n=g++[x]/\jx8 g/\0<=x/\x<128/\(g=[]\/x≠0)/\(n=0\/x≠0)
 | n,0,h=>⟨[],(n:Int),by rw [jc9 (by omega)];rfl,fun _ h=>by simp at h,by omega,by omega,.inl rfl,.inl (by omega)⟩
 | n,k+1,h=>by
   by_cases hn:n<128
   ·refine ⟨[],(n:Int),by rw [jc9 hn];rfl,fun _ h=>by simp at h,by omega,by omega,.inl rfl,?_⟩
    by_cases h0:n=0
    ·exact .inl h0
    ·exact .inr (by omega)
   ·obtain ⟨g,x,e,hg,h0,h1,hx,hz⟩:=jfv (n / 128) k (by omega)
    have hx0:x≠0:=by rcases hz with hz|hz;· omega
                     ·exact hz
    refine ⟨((n % 128+128:Nat):Int) :: g,x,by rw [jda (by omega),e];rfl,?_,h0,h1,.inr hx0,.inr hx0⟩
    intro y hy
    rcases List.mem_cons.1 hy with rfl|hy
    ·omega
    ·exact hg y hy
theorem jmw:∀ (g1 g2:List Int) (x1 x2:Int) (r1 r2:List Int),jx8 g1->jx8 g2->x1<128->x2<128->g1++x1 :: r1=g2++x2 :: r2->g1=g2/\x1=x2/\r1=r2
 | [],[],_,_,_,_,_,_,_,_,h=>by simpa using h
 | [],y :: g2,x1,_,_,_,_,h2,hx,_,h=>by
   simp at h
   have:=h2 y (by simp)
   omega
 | y :: g1,[],_,x2,_,_,h1,_,_,hx,h=>by
   simp at h
   have:=h1 y (by simp)
   omega
 | y :: g1,z :: g2,x1,x2,r1,r2,h1,h2,hx1,hx2,h=>by
   simp at h
   obtain ⟨rfl,h⟩:=h
   obtain ⟨rfl,rfl,rfl⟩:=jmw g1 g2 x1 x2 r1 r2 (fun a ha=>h1 a (by simp [ha])) (fun a ha=>h2 a (by simp [ha])) hx1 hx2 h
   exact ⟨rfl,rfl,rfl⟩
theorem jqd (n:Nat):jhn (jcy n)=n:=by
 suffices H:∀ (k n:Nat),n<=k->jhn (jcy n)=n from H n n (Nat.le_refl _)
 intro k
 induction k with
 | zero=>intro n h;rw [jc9 (by omega)];simp [jhn];omega
 | succ k ih =>
   intro n h
   by_cases hn:n<128
   ·rw [jc9 hn];simp [jhn];omega
   ·rw [jda (by omega)]
    simp only [jhn]
    rw [ih (n / 128) (by omega)]
    omega
theorem qc9 {m n:Nat} {r s:List Int} (h:jcy m++r=jcy n++s):m=n/\r=s:=by
 obtain ⟨g1,x1,e1,h1,_,l1,_⟩:=jfv m m (Nat.le_refl _)
 obtain ⟨g2,x2,e2,h2,_,l2,_⟩:=jfv n n (Nat.le_refl _)
 have h':=h
 rw [e1,e2] at h'
 simp only [List.append_assoc,List.singleton_append] at h'
 obtain ⟨rfl,rfl,rfl⟩:=jmw g1 g2 x1 x2 r s h1 h2 l1 l2 h'
 refine ⟨?_,rfl⟩
 rw [← jqd m,← jqd n,e1,e2]
def RN (l:List Int) (n len:Nat):Prop :=
 (len=0/\n=0/\∀ (m:Nat) (r:List Int),m<34359738368->l≠jcy m++r)\/(∃ r,n<34359738368/\len=(jcy n).length/\l=jcy n++r)
theorem jxs {n:Nat} (h:n<34359738368):(jcy n).length<=5:=ji1 4 n (Nat.lt_of_lt_of_le h (by decide))
theorem jtf {l:List Int} {k:Nat} (hg:jx8 (l.take k)) (hk:k=l.length\/k=5):RN l 0 0:=by
 refine .inl ⟨rfl,rfl,fun m r hm e=>?_⟩
 have h5:=jxs hm
 obtain ⟨g,x,ec,hgo,h0,h1,_⟩:=jfv m m (Nat.le_refl _)
 rw [ec] at e h5
 simp at h5
 have hlen:g.length<l.length:=by rw [e];simp
 have hx:l[g.length]?=some x:=by rw [e];simp
 have hmem:x∈l.take k:=by
  apply List.mem_of_getElem? (i:=g.length)
  rw [List.getElem?_take,if_pos (by omega)]
  exact hx
 have:=hg x hmem
 omega
theorem qe4 {l:List Int} {k:Nat} (hg:jx8 (l.take k)) (hk:k<l.length) (h0:0<k) (hz:l.getD k 0=0):RN l 0 0:=by
 refine .inl ⟨rfl,rfl,fun m r _ e=>?_⟩
 obtain ⟨g,x,ec,hgo,_,h1,hx,_⟩:=jfv m m (Nat.le_refl _)
 rw [ec] at e
 simp only [List.append_assoc,List.singleton_append] at e
 have el:l=l.take k++0 :: l.drop (k+1):=by
  conv=>lhs;rw [← List.take_append_drop k l]
  congr 1
  rw [List.drop_eq_getElem_cons hk]
  simp [List.getD,List.getElem?_eq_getElem hk] at hz
  rw [hz]
 rw [el] at e
 obtain ⟨e1,e2,_⟩:=jmw _ _ _ _ _ _ hg hgo (by omega) h1 e
 rcases hx with hx|hx
 ·rw [hx] at e1
  have:=congrArg List.length e1
  simp only [List.length_take,List.length_nil] at this
  omega
 ·exact hx e2.symm
theorem qg0 {l:List Int} {k:Nat} {x:Int} (hg:jx8 (l.take k)) (hk:k<l.length) (h5:k<5) (hx:l.getD k 0=x) (h0:0<=x) (h1:x<128) (hz:k=0\/x≠0) :
 RN l (jhn (l.take k)+(x % 128).toNat * 128 ^ k) (k+1):=by
 have hl:(l.take k).length=k:=by simp;omega
 have ev:jhn (l.take k)+(x % 128).toNat * 128 ^ k=jhn (l.take k++[x]):=by rw [jis,hl]
 have ec:jcy (jhn (l.take k++[x]))=l.take k++[x]:=jqe _ _ hg h0 h1 (by
  rcases hz with rfl|hz
  ·exact .inl (by simp)
  ·exact .inr hz)
 rw [ev]
 refine .inr ⟨l.drop (k+1),?_,by rw [ec];simp;omega,?_⟩
 ·refine Nat.lt_of_lt_of_le (jt5 _) ?_
  simp only [List.length_append,hl,List.length_singleton]
  exact Nat.le_trans (Nat.pow_le_pow_right (by omega) (show k+1<=5 by omega)) (by decide)
 ·rw [ec]
  conv=>lhs;rw [← List.take_append_drop k l]
  rw [List.append_assoc]
  congr 1
  rw [List.drop_eq_getElem_cons hk]
  simp [List.getD,List.getElem?_eq_getElem hk] at hx
  simp [hx]
theorem jzk {l:List Int} {k:Nat} {x:Int} (hg:jx8 (l.take k)) (hk:k<l.length) (hx:l.getD k 0=x) (h0:128<=x) (h1:x<256):jx8 (l.take (k+1)):=by
 intro y hy
 rw [List.take_succ_eq_append_getElem hk] at hy
 simp [List.getD,List.getElem?_eq_getElem hk] at hx
 rcases List.mem_append.1 hy with hy|hy
 ·exact hg y hy
 ·simp [hx] at hy
  omega
theorem jyh {l:List Int} {k:Nat} {x:Int} (hk:k<l.length) (hx:l.getD k 0=x):jhn (l.take (k+1))=jhn (l.take k)+(x % 128).toNat * 128 ^ k:=by
 rw [List.take_succ_eq_append_getElem hk,jis]
 simp [List.getD,List.getElem?_eq_getElem hk] at hx
 rw [hx]
 simp [Nat.min_eq_left (Nat.le_of_lt hk)]
theorem jyp {l:List Int} {k v W X:Nat} (hv:v=jhn (l.take k)) (hW:W=128 ^ k) (hg:jx8 (l.take k)) (hk:k<l.length) (h5:k<5) (hx:l.getD k 0=(X:Int)) (h1:X<128) (hz:k=0\/X≠0):RN l (v+X % 128 * W) (k+1):=by
 have:=qg0 hg hk h5 hx (by omega) (by omega) (by rcases hz with h|h;· exact .inl h
                                                 ·exact .inr (by omega))
 have e:((X:Int) % 128).toNat=X % 128:=by omega
 rw [e,← hv,← hW] at this
 exact this
theorem jnr {l:List Int} {k v W X:Nat} (hv:v=jhn (l.take k)) (hW:W=128 ^ k) (hk:k<l.length) (hx:l.getD k 0=(X:Int)):v+X % 128 * W=jhn (l.take (k+1))/\W * 128=128 ^ (k+1):=by
 have e:((X:Int) % 128).toNat=X % 128:=by omega
 rw [jyh hk hx,e,← hv,← hW,Nat.pow_succ,← hW]
 exact ⟨rfl,rfl⟩
theorem Tryz.infoTier:(Tryz.prog.info? 137).map (fun i=>(i.zero,i.size,i.bytes))=some (some (.agg #[iv 0,iv 0]),2,16):=by kernel_rfl
end Go.Proofs.YtfhncfghblkgeaaGreat
