import Derived.Test.YtfhncfghblkgeaaGreatL03
set_option maxRecDepth 100000
set_option maxHeartbeats 2000000
namespace Go.Proofs.YtfhncfghblkgeaaGreat
open Go.RowKit
theorem jao {B n:Nat} {w w1:World} (h:Below B w w1):Below B w (w1.drewN n):=h.trans ⟨rfl,rfl,rfl,Nat.le_refl _,fun _ _=>rfl⟩
def tiersAt (w:World) (a:Option Addr) (len cap:Nat) (ts:List (Int × Int)):Prop :=
 ts.length=len/\len<=cap/\cap * 16<=140737488355328/\(a=none->len=0/\cap=0) ∧
 (ts≠[]->∃ b off,a=some (aq b off)/\b<w.heap.size/\∀ i,i<len->w.cell? (aq b (off+i * 2))=some (iv (ts.getD i (0,0)).1)/\w.cell? (aq b (off+i * 2+1))=some (iv (ts.getD i (0,0)).2))
theorem tiersAt.below {w w':World} {a:Option Addr} {len cap B:Nat} {ts:List (Int × Int)} (h:tiersAt w a len cap ts) (hb:Below B w w') (hB:w.heap.size<=B):tiersAt w' a len cap ts:=by
 obtain ⟨h1,h2,h3,h4,h5⟩:=h
 refine ⟨h1,h2,h3,h4,fun hn=>?_⟩
 obtain ⟨b,off,ha,hbw,hc⟩:=h5 hn
 exact ⟨b,off,ha,Nat.lt_of_lt_of_le hbw hb.size,fun i hi=>⟨(hb.cell (p:=(aq b (off+i * 2))) (Nat.lt_of_lt_of_le hbw hB)).trans (hc i hi).1,(hb.cell (p:=(aq b (off+i * 2+1))) (Nat.lt_of_lt_of_le hbw hB)).trans (hc i hi).2⟩⟩
def jeg (ts:List (Int × Int)) (i:Nat):Bool :=
 decide (1<=(ts.getD i (0,0)).2) && decide ((ts.getD i (0,0)).2<=1073741824) && decide ((ts.getD i (0,0)).1<=4294967296) &&
  (if i=0 then (ts.getD i (0,0)).1==0 else decide ((ts.getD (i - 1) (0,0)).1<(ts.getD i (0,0)).1))
def jbx (ts:List (Int × Int)):Bool:=decide (1<=ts.length) && decide (ts.length<=4) && (List.range ts.length).all (jeg ts)
theorem jek {ts:List (Int × Int)} (h:¬ (1<=ts.length/\ts.length<=4)):jbx ts=false:=by
 unfold jbx
 by_cases h1:1<=ts.length
 ·have:¬ ts.length<=4:=fun h2=>h ⟨h1,h2⟩
  simp [this]
 ·simp [h1]
theorem jdx {ts:List (Int × Int)} {k:Nat} (hk:k<ts.length) (h:jeg ts k=false):jbx ts=false:=by
 unfold jbx
 have:(List.range ts.length).all (jeg ts)=false:=by
  rw [List.all_eq_false]
  exact ⟨k,List.mem_range.2 hk,by simp [h]⟩
 simp [this]
theorem jly {ts:List (Int × Int)} (h1:1<=ts.length) (h4:ts.length<=4) (h:∀ j,j<ts.length->jeg ts j=true):jbx ts=true:=by
 unfold jbx
 have:(List.range ts.length).all (jeg ts)=true:=by
  rw [List.all_eq_true]
  exact fun j hj=>h j (List.mem_range.1 hj)
 simp [this,h1,h4]
theorem jox {p:Nat->Bool} {k:Nat} (h:∀ j,j<k->p j=true) (hk:p k=true):∀ j,j<k+1->p j=true:=by
 intro j hj
 by_cases e:j=k
 ·rw [e];exact hk
 ·exact h j (by omega)
theorem jf0 (n:Int) (w:World) :
 Calls Tryz.prog 92 #[iv n] w fun e w'=>e=.returned (.bool (jc3 n))/\w=w':=by
 by_cases h:1<=n
 ·go_enter Tryz.func92,Tryz.ntmps92
  go_wp2
  go_ret
  exact ⟨by simp [jc3,h],rfl⟩
 ·have hd:decide (1<=n)=false:=by simpa using h
  go_enter Tryz.func92,Tryz.ntmps92
  go_wp2
  go_ret
  exact ⟨by simp [jc3,hd],rfl⟩
theorem jfu {ts:List (Int × Int)} {k:Nat} {f c:Int} (hf:(ts.getD k (0,0)).1=f) (hc:(ts.getD k (0,0)).2=c) (h:c<1\/1073741824<c\/4294967296<f):jeg ts k=false:=by
 unfold jeg
 rw [hf,hc]
 rcases h with h|h|h
 ·have:decide (1<=c)=false:=by simp;omega
  simp [this]
 ·have:decide (c<=1073741824)=false:=by simp;omega
  simp [this]
 ·have:decide (f<=4294967296)=false:=by simp;omega
  simp [this]
theorem jk5 {ts:List (Int × Int)} {f c:Int} (hf:(ts.getD 0 (0,0)).1=f) (hc:(ts.getD 0 (0,0)).2=c) (h1:1<=c) (h2:c<=1073741824) (h3:f<=4294967296):jeg ts 0=(f==0):=by
 unfold jeg
 rw [hf,hc]
 simp [h1,h2,h3]
theorem jnl {ts:List (Int × Int)} {k:Nat} {f c q:Int} (hk:¬ k=0) (hf:(ts.getD k (0,0)).1=f) (hc:(ts.getD k (0,0)).2=c) (hq:(ts.getD (k - 1) (0,0)).1=q) (h1:1<=c) (h2:c<=1073741824) (h3:f<=4294967296):jeg ts k=decide (q<f):=by
 unfold jeg
 rw [hf,hc,hq]
 simp [h1,h2,h3,hk]
theorem jmz (b off len cap:Nat) (ts:List (Int × Int)) (w:World) (hl:ts.length=len) (h1:1<=len) (h4:len<=4)
 (hcell:∀ i,i<len->w.cell? (aq b (off+i * 2))=some (iv (ts.getD i (0,0)).1)/\w.cell? (aq b (off+i * 2+1))=some (iv (ts.getD i (0,0)).2)) :
 Calls Tryz.prog 91 #[.slice (some (aq b off)) len cap] w fun e w'=>e=.returned (.bool (jbx ts))/\Below w.heap.size w w':=by
 have h1':(0:Int)<(len:Int):=by omega
 have hd1:decide ((len:Int)<1)=false:=by simp;omega
 have hd2:decide (4<(len:Int))=false:=by simp;omega
 have hc0:=(hcell 0 (by omega)).1
 simp only [Nat.zero_mul,Nat.add_zero] at hc0
 have hbw:b<w.heap.size:=World.block_lt_of_cell? w _ hc0
 generalize hf0:(ts.getD 0 (0,0)).1=f0 at hc0
 have HF0:Hid ((ts.getD 0 (0,0)).1=f0):=hf0
 clear hf0
 by_cases hz:f0=0
 ·subst hz
  go_enter Tryz.func91,Tryz.ntmps91
  go_wp2
  clear hc0
  go_loopw [3] (fun i wr=>∃ k:Nat,k<=len/\i=iv k/\Hid (∀ j,j<k->jeg ts j=true)/\Below w.heap.size w wr) (fun i _=>len - (intOf i).toNat)
  case atStart=>exact ⟨0,Nat.zero_le _,rfl,fun _ h=>by omega,Below.refl _ _⟩
  case round =>
   obtain ⟨k,hk,rfl,hall,hbel⟩:=hrel
   by_cases hlt:k<len
   ·have hkl:k<ts.length:=by omega
    have hcf:=(hbel.cell (p:=(aq b (off+k * 2))) hbw).trans (hcell k hlt).1
    have hcc:=(hbel.cell (p:=(aq b (off+k * 2+1))) hbw).trans (hcell k hlt).2
    generalize hf:(ts.getD k (0,0)).1=f at hcf
    generalize hc:(ts.getD k (0,0)).2=c at hcc
    have HF:Hid ((ts.getD k (0,0)).1=f):=hf
    have HC:Hid ((ts.getD k (0,0)).2=c):=hc
    clear hf hc
    by_cases b1:1<=c
    ·by_cases b2:c<=1073741824
     ·by_cases b3:f<=4294967296
      ·by_cases hk0:k=0
       ·subst hk0
        have HT:Hid (jeg ts 0=true):=by unfold Hid;rw [jk5 HF.out HC.out b1 b2 b3,← HF.out,HF0.out];rfl
        simp only [Nat.zero_mul,Nat.add_zero] at hcf hcc
        clear hcell
        go_wp2
        go_quiet (fail)
        go_wp2
        go_roundw
        case rel=>exact ⟨1,by omega,rfl,jox hall.out HT.out,Below.trans hbel ⟨rfl,rfl,rfl,Nat.le_refl _,fun _ _=>rfl⟩⟩
        case measure=>simp [intOf];omega
       ·obtain ⟨m,rfl⟩:∃ m,k=m+1:=⟨k - 1,by omega⟩
        have hcq:=(hbel.cell (p:=(aq b (off+m * 2))) hbw).trans (hcell m (by omega)).1
        generalize hq:(ts.getD m (0,0)).1=q at hcq
        have HT:Hid (jeg ts (m+1)=decide (q<f)):=jnl hk0 HF.out HC.out hq b1 b2 b3
        have hkp:(0:Int)<(m:Int)+1:=by omega
        clear hq hcell
        by_cases hqf:q<f
        ·have HT':Hid (jeg ts (m+1)=true):=by unfold Hid;rw [HT.out];simpa using hqf
         go_wp2
         go_quiet (fail)
         go_wp2
         go_roundw
         case rel=>exact ⟨m+1+1,by omega,by go_num,jox hall.out HT'.out,Below.trans hbel ⟨rfl,rfl,rfl,Nat.le_refl _,fun _ _=>rfl⟩⟩
         case measure=>simp [intOf];omega
        ·have HN:Hid (jbx ts=false):=jdx hkl (by rw [HT.out];simpa using hqf)
         go_wp2
         go_quiet (fail)
         go_wp2
         go_ret
         exact ⟨by rw [HN.out];rfl,Below.trans hbel ⟨rfl,rfl,rfl,Nat.le_refl _,fun _ _=>rfl⟩⟩
      ·have HN:Hid (jbx ts=false):=jdx hkl (jfu HF.out HC.out (.inr (.inr (by omega))))
       clear hcell
       go_wp2
       go_ret
       exact ⟨by rw [HN.out];rfl,hbel⟩
     ·have HN:Hid (jbx ts=false):=jdx hkl (jfu HF.out HC.out (.inr (.inl (by omega))))
      clear hcell
      go_wp2
      go_ret
      exact ⟨by rw [HN.out];rfl,hbel⟩
    ·have HN:Hid (jbx ts=false):=jdx hkl (jfu HF.out HC.out (.inl (by omega)))
     clear hcell
     go_wp2
     go_ret
     exact ⟨by rw [HN.out];rfl,hbel⟩
   ·have HN:Hid (jbx ts=true):=jly (by omega) (by omega) (fun j hj=>hall.out j (by omega))
    clear hcell
    go_wp2
    go_ret
    exact ⟨by rw [HN.out];rfl,hbel⟩
 ·have HN:Hid (jbx ts=false):=jdx (k:=0) (by omega) (by
   by_cases hb:1<=(ts.getD 0 (0,0)).2/\(ts.getD 0 (0,0)).2<=1073741824/\f0<=4294967296
   ·rw [jk5 HF0.out rfl hb.1 hb.2.1 hb.2.2];simpa using hz
   ·exact jfu HF0.out rfl (by omega))
  have hz':(f0==0)=false:=by simpa using hz
  clear hcell
  go_enter Tryz.func91,Tryz.ntmps91
  go_wp2
  go_ret
  exact ⟨by rw [HN.out];rfl,Below.refl _ _⟩
def jgi:List Int->Nat
 | []=>0
 | x :: r=>(x % 128).toNat+128 * jgi r
theorem jgw:∀ (g:List Int) (x:Int),jgi (g++[x])=jgi g+(x % 128).toNat * 128 ^ g.length
 | [],x=>by simp [jgi]
 | y :: g,x=>by
   have h:=jgw g x
   simp only [List.cons_append,jgi,List.length_cons,Nat.pow_succ]
   rw [h]
   have:(x % 128).toNat * (128 ^ g.length * 128)=128 * ((x % 128).toNat * 128 ^ g.length):=by
    rw [Nat.mul_comm (128 ^ g.length) 128,Nat.mul_left_comm]
   omega
theorem jp2:∀ (g:List Int),jgi g<128 ^ g.length
 | []=>by simp [jgi]
 | y :: g=>by
   have h:=jp2 g
   simp only [jgi,List.length_cons,Nat.pow_succ]
   omega
def jw7 (g:List Int):Prop:=∀ y∈g,128<=y/\y<256
theorem qd0 {g:List Int} {x:Int} (h0:0<x) (h1:x<128):1<=jgi (g++[x]):=by
 rw [jgw]
 have:1<=(x % 128).toNat:=by omega
 have hp:1<=128 ^ g.length:=Nat.one_le_pow _ _ (by omega)
 have:=Nat.mul_le_mul this hp
 omega
theorem jq7:∀ (g:List Int) (x:Int),jw7 g->0<=x->x<128->(g=[]\/x≠0)->jds (jgi (g++[x]))=g++[x]
 | [],x,_,h0,h1,_=>by
   have e:(x % 128).toNat=x.toNat:=by omega
   simp only [List.nil_append,jgi,Nat.mul_zero,Nat.add_zero,e]
   rw [jcc (by omega)]
   simp;omega
 | y :: g,x,hg,h0,h1,hx=>by
   have hx0:x≠0:=by simpa using hx
   have hv:=qd0 (g:=g) (x:=x) (by omega) h1
   have hy:=hg y (by simp)
   have ih:=jq7 g x (fun z hz=>hg z (by simp [hz])) h0 h1 (.inr hx0)
   have e:jgi (y :: g++[x])=(y % 128).toNat+128 * jgi (g++[x]):=rfl
   rw [e,je1 (by omega)]
   have e1:((y % 128).toNat+128 * jgi (g++[x])) % 128=(y % 128).toNat:=by omega
   have e2:((y % 128).toNat+128 * jgi (g++[x])) / 128=jgi (g++[x]):=by omega
   rw [e1,e2,ih]
   have e3:(((y % 128).toNat+128:Nat):Int)=y:=by omega
   rw [e3];rfl
theorem jdy:∀ (n k:Nat),n<=k->∃ (g:List Int) (x:Int),jds n=g++[x]/\jw7 g/\0<=x/\x<128/\(g=[]\/x≠0)/\(n=0\/x≠0)
 | n,0,h=>⟨[],(n:Int),by rw [jcc (by omega)];rfl,fun _ h=>by simp at h,by omega,by omega,.inl rfl,.inl (by omega)⟩
 | n,k+1,h=>by
   by_cases hn:n<128
   ·refine ⟨[],(n:Int),by rw [jcc hn];rfl,fun _ h=>by simp at h,by omega,by omega,.inl rfl,?_⟩
    by_cases h0:n=0
    ·exact .inl h0
    ·exact .inr (by omega)
   ·obtain ⟨g,x,e,hg,h0,h1,hx,hz⟩:=jdy (n / 128) k (by omega)
    have hx0:x≠0:=by rcases hz with hz|hz;· omega
                     ·exact hz
    refine ⟨((n % 128+128:Nat):Int) :: g,x,by rw [je1 (by omega),e];rfl,?_,h0,h1,.inr hx0,.inr hx0⟩
    intro y hy
    rcases List.mem_cons.1 hy with rfl|hy
    ·omega
    ·exact hg y hy
theorem jij:∀ (g1 g2:List Int) (x1 x2:Int) (r1 r2:List Int),jw7 g1->jw7 g2->x1<128->x2<128->g1++x1 :: r1=g2++x2 :: r2->g1=g2/\x1=x2/\r1=r2
 | [],[],_,_,_,_,_,_,_,_,h=>by simpa using h
 | [],y :: g2,x1,_,_,_,_,h2,hx,_,h=>by
   simp at h
   have:=h2 y (by simp)
   omega
 | y :: g1,[],_,x2,_,_,h1,_,_,hx,h=>by
   simp at h
   have:=h1 y (by simp)
   omega
 | y :: g1,z :: g2,x1,x2,r1,r2,h1,h2,hx1,hx2,h=>by
   simp at h
   obtain ⟨rfl,h⟩:=h
   obtain ⟨rfl,rfl,rfl⟩:=jij g1 g2 x1 x2 r1 r2 (fun a ha=>h1 a (by simp [ha])) (fun a ha=>h2 a (by simp [ha])) hx1 hx2 h
   exact ⟨rfl,rfl,rfl⟩
theorem jm8 (n:Nat):jgi (jds n)=n:=by
 suffices H:∀ (k n:Nat),n<=k->jgi (jds n)=n from H n n (Nat.le_refl _)
 intro k
 induction k with
 | zero=>intro n h;rw [jcc (by omega)];simp [jgi];omega
 | succ k ih =>
   intro n h
   by_cases hn:n<128
   ·rw [jcc hn];simp [jgi];omega
   ·rw [je1 (by omega)]
    simp only [jgi]
    rw [ih (n / 128) (by omega)]
    omega
theorem qca {m n:Nat} {r s:List Int} (h:jds m++r=jds n++s):m=n/\r=s:=by
 obtain ⟨g1,x1,e1,h1,_,l1,_⟩:=jdy m m (Nat.le_refl _)
 obtain ⟨g2,x2,e2,h2,_,l2,_⟩:=jdy n n (Nat.le_refl _)
 have h':=h
 rw [e1,e2] at h'
 simp only [List.append_assoc,List.singleton_append] at h'
 obtain ⟨rfl,rfl,rfl⟩:=jij g1 g2 x1 x2 r s h1 h2 l1 l2 h'
 refine ⟨?_,rfl⟩
 rw [← jm8 m,← jm8 n,e1,e2]
def RN (l:List Int) (n len:Nat):Prop :=
 (len=0/\n=0/\∀ (m:Nat) (r:List Int),m<34359738368->l≠jds m++r)\/(∃ r,n<34359738368/\len=(jds n).length/\l=jds n++r)
theorem jmf {n:Nat} (h:n<34359738368):(jds n).length<=5:=ji1 4 n (Nat.lt_of_lt_of_le h (by decide))
theorem jts {l:List Int} {k:Nat} (hg:jw7 (l.take k)) (hk:k=l.length\/k=5):RN l 0 0:=by
 refine .inl ⟨rfl,rfl,fun m r hm e=>?_⟩
 have h5:=jmf hm
 obtain ⟨g,x,ec,hgo,h0,h1,_⟩:=jdy m m (Nat.le_refl _)
 rw [ec] at e h5
 simp at h5
 have hlen:g.length<l.length:=by rw [e];simp
 have hx:l[g.length]?=some x:=by rw [e];simp
 have hmem:x∈l.take k:=by
  apply List.mem_of_getElem? (i:=g.length)
  rw [List.getElem?_take,if_pos (by omega)]
  exact hx
 have:=hg x hmem
 omega
theorem qe7 {l:List Int} {k:Nat} (hg:jw7 (l.take k)) (hk:k<l.length) (h0:0<k) (hz:l.getD k 0=0):RN l 0 0:=by
 refine .inl ⟨rfl,rfl,fun m r _ e=>?_⟩
 obtain ⟨g,x,ec,hgo,_,h1,hx,_⟩:=jdy m m (Nat.le_refl _)
 rw [ec] at e
 simp only [List.append_assoc,List.singleton_append] at e
 have el:l=l.take k++0 :: l.drop (k+1):=by
  conv=>lhs;rw [← List.take_append_drop k l]
  congr 1
  rw [List.drop_eq_getElem_cons hk]
  simp [List.getD,List.getElem?_eq_getElem hk] at hz
  rw [hz]
 rw [el] at e
 obtain ⟨e1,e2,_⟩:=jij _ _ _ _ _ _ hg hgo (by omega) h1 e
 rcases hx with hx|hx
 ·rw [hx] at e1
  have:=congrArg List.length e1
  simp only [List.length_take,List.length_nil] at this
  omega
 ·exact hx e2.symm
theorem qfz {l:List Int} {k:Nat} {x:Int} (hg:jw7 (l.take k)) (hk:k<l.length) (h5:k<5) (hx:l.getD k 0=x) (h0:0<=x) (h1:x<128) (hz:k=0\/x≠0) :
 RN l (jgi (l.take k)+(x % 128).toNat * 128 ^ k) (k+1):=by
 have hl:(l.take k).length=k:=by simp;omega
 have ev:jgi (l.take k)+(x % 128).toNat * 128 ^ k=jgi (l.take k++[x]):=by rw [jgw,hl]
 have ec:jds (jgi (l.take k++[x]))=l.take k++[x]:=jq7 _ _ hg h0 h1 (by
  rcases hz with rfl|hz
  ·exact .inl (by simp)
  ·exact .inr hz)
 rw [ev]
 refine .inr ⟨l.drop (k+1),?_,by rw [ec];simp;omega,?_⟩
 ·refine Nat.lt_of_lt_of_le (jp2 _) ?_
  simp only [List.length_append,hl,List.length_singleton]
  exact Nat.le_trans (Nat.pow_le_pow_right (by omega) (show k+1<=5 by omega)) (by decide)
 ·rw [ec]
  conv=>lhs;rw [← List.take_append_drop k l]
  rw [List.append_assoc]
  congr 1
  rw [List.drop_eq_getElem_cons hk]
  simp [List.getD,List.getElem?_eq_getElem hk] at hx
  simp [hx]
theorem jyv {l:List Int} {k:Nat} {x:Int} (hg:jw7 (l.take k)) (hk:k<l.length) (hx:l.getD k 0=x) (h0:128<=x) (h1:x<256):jw7 (l.take (k+1)):=by
 intro y hy
 rw [List.take_succ_eq_append_getElem hk] at hy
 simp [List.getD,List.getElem?_eq_getElem hk] at hx
 rcases List.mem_append.1 hy with hy|hy
 ·exact hg y hy
 ·simp [hx] at hy
  omega
theorem jxl {l:List Int} {k:Nat} {x:Int} (hk:k<l.length) (hx:l.getD k 0=x):jgi (l.take (k+1))=jgi (l.take k)+(x % 128).toNat * 128 ^ k:=by
 rw [List.take_succ_eq_append_getElem hk,jgw]
 simp [List.getD,List.getElem?_eq_getElem hk] at hx
 rw [hx]
 simp [Nat.min_eq_left (Nat.le_of_lt hk)]
theorem jzx {l:List Int} {k v W X:Nat} (hv:v=jgi (l.take k)) (hW:W=128 ^ k) (hg:jw7 (l.take k)) (hk:k<l.length) (h5:k<5) (hx:l.getD k 0=(X:Int)) (h1:X<128) (hz:k=0\/X≠0):RN l (v+X % 128 * W) (k+1):=by
 have:=qfz hg hk h5 hx (by omega) (by omega) (by rcases hz with h|h;· exact .inl h
                                                 ·exact .inr (by omega))
 have e:((X:Int) % 128).toNat=X % 128:=by omega
 rw [e,← hv,← hW] at this
 exact this
theorem jom {l:List Int} {k v W X:Nat} (hv:v=jgi (l.take k)) (hW:W=128 ^ k) (hk:k<l.length) (hx:l.getD k 0=(X:Int)):v+X % 128 * W=jgi (l.take (k+1))/\W * 128=128 ^ (k+1):=by
 have e:((X:Int) % 128).toNat=X % 128:=by omega
 rw [jxl hk hx,e,← hv,← hW,Nat.pow_succ,← hW]
 exact ⟨rfl,rfl⟩
end Go.Proofs.YtfhncfghblkgeaaGreat
namespace Go
section
variable {P:Program}
theorem jn9 (w:World) (dT sT ty elem:TypeId) (s g dLen dCap:Nat) (a:Addr) (sLen sCap:Nat) (cur:Array Value) (t:TypeId) (cs:List Value)
 (hu:P.underlying dT=some (.slice elem)) (hs:(P.info? elem).map (·.size)=some s)
 (hg:w.heap[g]?=some (.cells cur t (0,0))) (hn:cs.length=Nat.min sLen dLen * s)
 (hsrc:∀ j v,cs[j]?=some v->w.cell? (a.add j)=some v) (hfit:cs.length<=cur.size) (h1:∀ v∈cs,v.oneCell'=true) :
 (Builtin.copy_ #[dT,sT] ty #[.slice (some ⟨g,0,none⟩) dLen dCap,.slice (some a) sLen sCap]).run P w =
   .ok (goInt (Nat.min sLen dLen)) (w.setRow g (cs++cur.toList.drop cs.length).toArray):=by
 have hl:=run_firstCells_some (P:=P) w s (Nat.min sLen dLen) a sLen sCap cs hn hsrc
 have hst:=run_storeCells_at P g 0 t cs 0 cur w hg (by simpa using hfit) h1
 cases hq:P.info? elem with
 | none=>simp [hq] at hs
 | some i =>
   have hi:i.size=s:=by simpa [hq] using hs
   simp [Builtin.copy_,run_underlying hu,Builtin.lenOf,sizeOf,typeInfo,hq,hi,hl,hst]
end
end Go
namespace Go.Proofs.YtfhncfghblkgeaaGreat
open Go.RowKit
theorem qc5 {Z:List Value} {j:Nat} (h:Z.length=(8 - j) * 2) (hj:j<8):∃ z0 z1 Z',Z=z0 :: z1 :: Z'/\Z'.length=(8 - (j+1)) * 2:=by
 match Z,h with
 | [],h=>simp at h;omega
 | [_],h=>simp at h;omega
 | z0 :: z1 :: Z',h=>exact ⟨z0,z1,Z',rfl,by simp at h;omega⟩
theorem jyi {w:World} {x:Addr} {len cap:Nat} {ts:List (Int × Int)} (h:tiersAt w (some x) len cap ts):∀ j v,(jas ts)[j]?=some v->w.cell? (x.add j)=some v:=by
 intro j v hv
 obtain ⟨hl,_,_,_,hc⟩:=h
 have hjl:j<(jas ts).length:=(List.getElem?_eq_some_iff.1 hv).1
 rw [jef] at hjl
 obtain ⟨b,off,hx,_,hcell⟩:=hc (fun e=>by rw [e] at hjl;simp at hjl)
 simp at hx
 subst hx
 have hi:j / 2<len:=by omega
 have hf:=jhg ts (j / 2) (by omega)
 rw [Addr.add_lit]
 by_cases hp:j % 2=0
 ·have e:j=j / 2 * 2:=by omega
  rw [e,hf.1] at hv
  rw [e]
  rw [(hcell (j / 2) hi).1];exact hv
 ·have e:j=j / 2 * 2+1:=by omega
  rw [e,hf.2] at hv
  rw [e,← Nat.add_assoc]
  rw [(hcell (j / 2) hi).2];exact hv
theorem jfr {w:World} {b:Nat} {T:TypeId} {c0 c1 c2 c3 c4 c5 c6 c7:Value} (h:w.heap[b]?=some (.cells #[c0,c1,c2,c3,c4,c5,c6,c7] T (0,0))) :
 w.cell? (aq b 0)=some c0/\w.cell? (aq b 1)=some c1/\w.cell? (aq b 2)=some c2/\w.cell? (aq b 3)=some c3/\w.cell? (aq b 4)=some c4/\w.cell? (aq b 5)=some c5/\w.cell? (aq b 6)=some c6/\w.cell? (aq b 7)=some c7/\(∀ i,w.frozen? (aq b i)=false):=by
 refine ⟨?_,?_,?_,?_,?_,?_,?_,?_,?_⟩
 all_goals first|exact fun i=>Joins.unfrozen_of_block h i|(rw [Joins.cell_of_block h];rfl)
theorem jw5 {B b:Nat} {w w2:World} {v0 v1 v2 v3 v4 v5 v6 v7:Value} (h:Below B w w2) (hb:B<=b):Below B w ((((((((w2.setCell (aq b 0) v0).setCell (aq b 1) v1).setCell (aq b 2) v2).setCell (aq b 3) v3).setCell (aq b 4) v4).setCell (aq b 5) v5).setCell (aq b 6) v6).setCell (aq b 7) v7) :=
 ((((((((h.setCell (p:=(aq b 0)) hb v0).setCell (p:=(aq b 1)) hb v1).setCell (p:=(aq b 2)) hb v2).setCell (p:=(aq b 3)) hb v3).setCell (p:=(aq b 4)) hb v4).setCell (p:=(aq b 5)) hb v5).setCell (p:=(aq b 6)) hb v6).setCell (p:=(aq b 7)) hb v7)
theorem jvx {b g:Nat} {w2:World} {v0 v1 v2 v3 v4 v5 v6 v7:Value} (hg:g≠b):(((((((((w2.setCell (aq b 0) v0).setCell (aq b 1) v1).setCell (aq b 2) v2).setCell (aq b 3) v3).setCell (aq b 4) v4).setCell (aq b 5) v5).setCell (aq b 6) v6).setCell (aq b 7) v7)).heap[g]?=w2.heap[g]?:=by
 rw [Below.heap_setCell _ (aq b 7) _ g hg,Below.heap_setCell _ (aq b 6) _ g hg,Below.heap_setCell _ (aq b 5) _ g hg,Below.heap_setCell _ (aq b 4) _ g hg,Below.heap_setCell _ (aq b 3) _ g hg,Below.heap_setCell _ (aq b 2) _ g hg,Below.heap_setCell _ (aq b 1) _ g hg,Below.heap_setCell _ (aq b 0) _ g hg]
theorem Tryz.infoTier:(Tryz.prog.info? 137).map (fun i=>(i.zero,i.size,i.bytes))=some (some (.agg #[iv 0,iv 0]),2,16):=by kernel_rfl
theorem Tryz.sizeTier:(Tryz.prog.info? 137).map (·.size)=some 2:=by kernel_rfl
theorem qbz (n0 n1 n2 n3 n4 n5 n6:Int) (w:World) :
 Calls Tryz.prog 83 #[.agg #[iv n0,iv n1,iv n2,iv n3,iv n4,iv n5,iv n6,.slice none 0 0]] w fun e w'=>e=.returned (.agg #[iv n0,iv n1,iv n2,iv n3,iv n4,iv n5,iv n6,.slice none 0 0])/\Below w.heap.size w w':=by
 have hq:∀ w',(binOp .eql 27 (.slice none 0 0) (.slice none 0 0)).run Tryz.prog w'=.ok (.bool true) w':=fun w'=>Lib.run_eql_slice_nil w' 27 137 none 0 0 0 0 Tryz.underlying27
 go_enter Tryz.func83,Tryz.ntmps83
 go_wp2
 exact bodyPost_ret (v:=.agg #[iv n0,iv n1,iv n2,iv n3,iv n4,iv n5,iv n6,.slice none 0 0]) (by simp [results,Tryz.results83,go_sem]) rfl ⟨rfl,bL⟩
def jba (ts:List (Int × Int)):List (Int × Int):=ts++List.replicate 8 (77,77)
theorem jrk (n0 n1 n2 n3 n4 n5 n6:Int) (x:Addr) (len cap:Nat) (ts:List (Int × Int)) (w:World) (h:tiersAt w (some x) len cap ts) :
 Calls Tryz.prog 83 #[.agg #[iv n0,iv n1,iv n2,iv n3,iv n4,iv n5,iv n6,.slice (some x) len cap]] w fun e w'=>∃ g,e=.returned (.agg #[iv n0,iv n1,iv n2,iv n3,iv n4,iv n5,iv n6,.slice (some (aq g 0)) len (len+8)])/\w.heap.size<=g/\w'.heap[g]?=some (.cells (jas (jba ts)).toArray 137 (0,0))/\Below w.heap.size w w':=by
 have hq:∀ w',(binOp .eql 27 (.slice (some x) len cap) (.slice none 0 0)).run Tryz.prog w'=.ok (.bool false) w':=fun w'=>Lib.run_eql_slice_nil w' 27 137 (some x) len cap 0 0 Tryz.underlying27
 obtain ⟨i0,hi,hz0,hz1,hz2⟩:=info_parts Tryz.infoTier
 have HT:Hid (tiersAt w (some x) len cap ts):=h
 have hlen:len * 16<=140737488355328:=by have:=h.2.1;have:=h.2.2.1;omega
 have hts:Hid (ts.length=len):=h.1
 clear h
 go_enter Tryz.func83,Tryz.ntmps83
 go_wp2_with (at_make;refine wpList_make_full _ rfl _ _ 27 rfl w.heap.size 137 i0 (.agg #[iv 0,iv 0]) 2 Tryz.underlying27 hi hz0 hz1 .i64 .i64 _ _ (len+8) rfl rfl (by simp) (by simp) (by rw [hz2];omega) (by unfold maxLen;omega) (by simp<;>omega) ?_)
 intro w1 hown hgrow
 have hW:Hid (w1.heap[w.heap.size]?=some (.cells #[iv n0,iv n1,iv n2,iv n3,iv n4,iv n5,iv n6,.slice (some x) len cap] 29 (0,0))/\w1.heap[w.heap.size+1]?=some (.cells #[iv 0,iv 0,iv 0,iv 0,iv 0,iv 0,iv 0,.slice none 0 0] 29 (0,0))):=by
  constructor
  ·rw [hgrow.block w.heap.size (by simp<;>omega) (by simp),Below.heap_alloc _ _ _ (by simp)]
   exact heap_alloc_new w _
  ·rw [hgrow.block (w.heap.size+1) (by simp) (by simp)]
   have:=heap_alloc_new (w.alloc (.cells #[iv n0,iv n1,iv n2,iv n3,iv n4,iv n5,iv n6,.slice (some x) len cap] 29)) (.cells #[iv 0,iv 0,iv 0,iv 0,iv 0,iv 0,iv 0,.slice none 0 0] 29)
   simpa using this
 have w01:Below w.heap.size w w1:=Below.grown bL hgrow (by simp<;>omega) (fun k hk=>by simp at hk)
 obtain ⟨cur,hcur,hcs⟩:∃ cur:Array Value,w1.heap[w.heap.size+1+1]?=some (.cells cur 137 (0,0))/\cur.size=(len+8) * 2:=by
  rcases hown.2 with ⟨h0,_⟩|⟨g,c,cur,hv,_,hh,_,_,hs,_⟩
  ·simp at h0
  ·simp at hv
   obtain ⟨rfl,rfl⟩:=hv
   exact ⟨cur,hh,hs⟩
 have HC:Hid (w1.heap[w.heap.size+1+1]?=some (.cells cur 137 (0,0))):=hcur
 obtain ⟨k0,k1,k2,k3,k4,k5,k6,k7,kf⟩:=jfr hW.out.1
 clear hcur hown hgrow
 have HT1:Hid (tiersAt w1 (some x) len cap ts):=HT.out.below w01 (Nat.le_refl _)
 obtain ⟨w2,hcopy,hrow2,hg2⟩:∃ w2,(Builtin.copy_ #[27,27] 3 #[.slice (some (aq (w.heap.size+1+1) 0)) (len+8) (len+8),.slice (some x) len cap]).run Tryz.prog w1=.ok (goInt len) w2/\w2.heap[w.heap.size+1+1]?=some (.cells (jas ts++cur.toList.drop (jas ts).length).toArray 137 (0,0))/\w1.grownBy w2 (some (w.heap.size+1+1)):=by
  have hmin:Nat.min len (len+8)=len:=Nat.min_eq_left (by omega)
  have hr:=jn9 (P:=Tryz.prog) w1 27 27 3 137 2 (w.heap.size+1+1) (len+8) (len+8) x len cap cur 137 (jas ts) Tryz.underlying27 Tryz.sizeTier HC.out (by rw [jef,hts.out,hmin]) (jyi HT1.out) (by rw [jef,hts.out,hcs];omega) (jr9 ts)
  rw [hmin] at hr
  exact ⟨_,hr,setRow_heap w1 _ cur _ _ _ HC.out,⟨rfl,rfl,rfl,by simp [World.setRow],fun k _ hk=>setRow_other w1 _ k _ (fun e=>hk (by simp [e]))⟩⟩
 have HR2:Hid (w2.heap[w.heap.size+1+1]?=some (.cells (jas (ts++List.replicate 0 (77,77))++cur.toList.drop (jas ts).length).toArray 137 (0,0))):=by simpa [Hid] using hrow2
 have HZ:Hid ((cur.toList.drop (jas ts).length).length=(8 - 0) * 2):=by unfold Hid;rw [List.length_drop,Array.length_toList,hcs,jef,hts.out];omega
 generalize cur.toList.drop (jas ts).length=Z0 at HR2 HZ
 have w12:Below (w.heap.size+1+1) w1 w2:=(Below.refl _ _).grown hg2 (by have:=(blt HC.out);omega) (fun k hk=>by simp at hk;omega)
 clear hrow2 hg2
 go_wp2_with fail
 go_loopw [5] (fun i wr=>∃ (j:Nat) (Z:List Value),j<=8/\i=iv ((len:Int)+j)/\Hid (Z.length=(8 - j) * 2)/\Hid (wr.heap[w.heap.size+1+1]?=some (.cells (jas (ts++List.replicate j (77,77))++Z).toArray 137 (0,0)))/\Below (w.heap.size+1+1) w1 wr) (fun i _=>len+8 - (intOf i).toNat)
 case atStart=>exact ⟨0,Z0,by omega,by simp,HZ,HR2,w12⟩
 case round =>
  obtain ⟨j,Z,hj,rfl,hZ,hrow,hbel⟩:=hrel
  by_cases hlt:j<8
  ·obtain ⟨z0,z1,Z',rfl,hZ'⟩:=qc5 hZ.out hlt
   have hA:(jas (ts++List.replicate j (77,77))).length=(len+j) * 2:=by rw [jef];simp [hts.out]
   have d0:=jhm hrow.out hA
   have d1:wr.cell? (aq (w.heap.size+1+1) ((len+j) * 2+1))=some z1:=jhm (A:=jas (ts++List.replicate j (77,77))++[z0]) (by rw [hrow.out,List.append_assoc];rfl) (by simp [hA])
   have df:=ja0 hrow.out
   have HR:Hid (∀ v0 v1:Value,((wr.setCell (aq (w.heap.size+1+1) ((len+j) * 2)) v0).setCell (aq (w.heap.size+1+1) ((len+j) * 2+1)) v1).heap[w.heap.size+1+1]?=some (.cells (jas (ts++List.replicate j (77,77))++v0 :: v1 :: Z').toArray 137 (0,0))):=fun v0 v1=>jka hrow.out hA v0 v1
   clear hrow hZ hA
   go_wp2
   go_roundw
   case rel =>
    refine ⟨j+1,Z',by omega,by go_num,hZ',?_,(hbel.setCell (p:=(aq (w.heap.size+1+1) ((len+j) * 2))) (Nat.le_refl _) _).setCell (p:=(aq (w.heap.size+1+1) ((len+j) * 2+1))) (Nat.le_refl _) _⟩
    have e:jas (ts++List.replicate (j+1) (77,77))++Z'=jas (ts++List.replicate j (77,77))++iv 77 :: iv 77 :: Z':=by
     rw [List.replicate_succ',← List.append_assoc,jiv (ts++_) [(77,77)],List.append_assoc];rfl
    unfold Hid
    rw [e]
    exact HR.out _ _
   case measure=>simp [intOf];omega
  ·have hj8:j=8:=by omega
   subst hj8
   have hZ0:Z=[]:=List.eq_nil_of_length_eq_zero hZ.out
   subst hZ0
   have HROW:Hid (wr.heap[w.heap.size+1+1]?=some (.cells (jas (jba ts)).toArray 137 (0,0))):=by have:=hrow.out;rw [List.append_nil] at this;exact this
   obtain ⟨q0,q1,q2,q3,q4,q5,q6,q7,qf⟩:=jfr ((hbel.block w.heap.size (by omega)).trans hW.out.1)
   obtain ⟨r0,r1,r2,r3,r4,r5,r6,r7,rf⟩:=jfr ((hbel.block (w.heap.size+1) (by omega)).trans hW.out.2)
   have hb0:Below w.heap.size w wr:=w01.trans (hbel.mono (by omega))
   clear k0 k1 k2 k3 k4 k5 k6 k7 kf hrow hZ
   go_wp2
   refine bodyPost_ret (v:=.agg #[iv n0,iv n1,iv n2,iv n3,iv n4,iv n5,iv n6,.slice (some (aq (w.heap.size+1+1) 0)) len (len+8)]) (by simp [results,Tryz.results83,go_sem,r0,r1,r2,r3,r4,r5,r6,r7]) rfl ⟨w.heap.size+1+1,rfl,by omega,?_,?_⟩
   ·rw [jvx (by omega),Below.heap_setCell _ (aq w.heap.size 7) _ _ (by show w.heap.size+1+1≠w.heap.size;omega)]
    exact HROW.out
   ·exact jw5 (hb0.setCell (p:=(aq w.heap.size 7)) (Nat.le_refl _) _) (by omega)
end Go.Proofs.YtfhncfghblkgeaaGreat
