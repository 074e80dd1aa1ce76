import Derived.Test.YtfhncfghblkgeabGreatL00
set_option maxRecDepth 100000
set_option maxHeartbeats 2000000
namespace Go.Proofs.YtfhncfghblkgeabGreat
open Go.RowKit
def qV (ts:List (Int × Int)):List Value:=ts.flatMap fun p=>[iv p.1,iv p.2]
theorem lV (p:Int × Int) (ts:List (Int × Int)):qV (p :: ts)=iv p.1 :: iv p.2 :: qV ts:=rfl
theorem tC (a b:List (Int × Int)):qV (a++b)=qV a++qV b:=by simp [qV]
theorem kN (ts:List (Int × Int)):(qV ts).length=ts.length * 2:=by
 induction ts with
 | nil=>rfl
 | cons p ts ih=>rw [lV];simp [ih];omega
theorem Ka (ts:List (Int × Int)):∀ v∈qV ts,v.oneCell'=true:=by
 intro v hv
 obtain ⟨p,_,hv⟩:=List.mem_flatMap.1 hv
 simp at hv
 rcases hv with rfl|rfl<;>rfl
theorem dV:∀ (ts:List (Int × Int)) (i:Nat),i<ts.length->(qV ts)[i * 2]?=some (iv (ts.getD i (0,0)).1)/\(qV ts)[i * 2+1]?=some (iv (ts.getD i (0,0)).2)
 | [],i,h=>by simp at h
 | p :: ts,0,_=>by simp [lV]
 | p :: ts,i+1,h=>by
   have ih:=dV ts i (by simpa using h)
   rw [lV]
   have e1:(i+1) * 2=i * 2+2:=uO
   rw [e1]
   simpa using ih
theorem oP {w:World} {g:Nat} {A Z:List Value} {z:Value} {T:TypeId} (h:w.heap[g]?=some (.cells (A++z :: Z).toArray T (0,0))) {i:Nat} (hi:A.length=i):w.cell? (aq g i)=some z:=by
 rw [uI h]
 subst hi
 simp
theorem qA {w:World} {g:Nat} {C:Array Value} {T:TypeId} (h:w.heap[g]?=some (.cells C T)) (i:Nat):w.frozen? (aq g i)=false:=Joins.unfrozen_of_block h i
theorem xV {w:World} {g:Nat} {A Z:List Value} {z:Value} {T:TypeId} (h:w.heap[g]?=some (.cells (A++z :: Z).toArray T (0,0))) {i:Nat} (hi:A.length=i) (v:Value) :
 (w.sc g i v).heap[g]?=some (.cells (A++v :: Z).toArray T (0,0)):=by
 rw [uH h v]
 subst hi
 simp
theorem mD {w:World} {g:Nat} {A Z:List Value} {z0 z1:Value} {T:TypeId} (h:w.heap[g]?=some (.cells (A++z0 :: z1 :: Z).toArray T (0,0))) {i:Nat} (hi:A.length=i) (v0 v1:Value) :
 ((w.sc g i v0).sc g (i+1) v1).heap[g]?=some (.cells (A++v0 :: v1 :: Z).toArray T (0,0)):=by
 have h1:=xV h hi v0
 have h2:(w.setCell (aq g i) v0).heap[g]?=some (.cells ((A++[v0])++z1 :: Z).toArray T (0,0)):=by rw [h1];simp
 have h3:=xV h2 (i:=i+1) (by simp [hi]) v1
 rw [h3];simp
theorem qH {w w':World} {base B:Nat} {e:TypeId} {size:Nat} {v:Value} {n:Nat} {xs:List Value} (h:w.ownsRow base e size v n xs) (hb:Below B w w') (hB:w.heap.size<=B):w'.ownsRow base e size v n xs:=by
 refine ⟨h.1,?_⟩
 rcases h.2 with h|⟨g,cap,cur,h1,h2,h3,h4⟩
 ·exact .inl h
 ·exact .inr ⟨g,cap,cur,h1,h2,(hb.block g (by have:=(blt h3);omega)).trans h3,h4⟩
structure Same (own:Nat->Prop) (w w':World):Prop where
 os:w'.os=w.os
 tape:w'.tape=w.tape
 output:w'.output=w.output
 size:w.heap.size<=w'.heap.size
 block:∀ k,k<w.heap.size->¬ own k->w'.heap[k]?=w.heap[k]?
theorem Same.of_below {own:Nat->Prop} {w w':World} (h:Bl w w'):Same own w w':=⟨h.os,h.tape,h.output,h.size,fun k hk _=>h.block k hk⟩
theorem Same.cell {own:Nat->Prop} {w w':World} (h:Same own w w') {b o:Nat} (hb:b<w.heap.size) (hn:¬ own b):w'.cell? (aq b o)=w.cell? (aq b o):=uV (a:=(aq b o)) (h.block b hb hn)
theorem Tryz.infoDue:(Tryz.prog.info? 123).map (fun i=>(i.zero,i.size,i.bytes))=some (some (.agg #[iv 0,iv 0]),2,16):=by kernel_rfl
def Uv (w:World) (v:Value) (L:List (Int × Int)):Prop :=
 ∃ a c,v=.slice a L.length c/\(0<L.length->∃ g,a=some (aq g 0)/\g<w.heap.size/\∀ i,i<L.length->w.cell? (aq g (i * 2))=some (iv (L.getD i (0,0)).1)/\w.cell? (aq g (i * 2+1))=some (iv (L.getD i (0,0)).2))
theorem xX {w:World} {B:Nat} {v:Value} {L:List (Int × Int)} {T:TypeId} (h:w.ownsRow B T 2 v L.length (qV L)):Uv w v L:=by
 rcases h.2 with ⟨rfl,h0⟩|⟨g,cap,cur,rfl,hg,hh,_⟩
 ·exact ⟨none,0,by rw [h0],fun hp=>uO⟩
 ·refine ⟨_,_,rfl,fun _=>⟨g,rfl,(blt hh),fun i hi=>?_⟩⟩
  have hf:=dV L i hi
  have c0:=h.cells (g:=g) rfl _ _ hf.1
  have c1:=h.cells (g:=g) rfl _ _ hf.2
  rw [Addr.add_lit,Nat.zero_add] at c0 c1
  exact ⟨c0,c1⟩
def qR (a b:Int × Int):Bool:=decide (a.1<b.1) || (a.1==b.1 && decide (a.2<b.2))
theorem Ml {p:Nat->Prop} {k:Nat} (h:∀ i,i<k->p i) (hk:p k):∀ i,i<k+1->p i:=by
 intro i hi
 by_cases e:i=k
 ·rw [e];exact hk
 ·exact h i uO
def gY (L:List (Int × Int)) (id:Int):Int:=match L.findIdx? (fun p=>p.2==id) with|some i=>(i:Int)|none=>-1
theorem Td {L:List (Int × Int)} {id:Int} (h:∀ i,i<L.length->(L.getD i (0,0)).2≠id):gY L id=-1:=by
 unfold gY
 have:L.findIdx? (fun p=>p.2==id)=none:=by
  rw [List.findIdx?_eq_none_iff]
  intro p hp
  obtain ⟨i,hi,rfl⟩:=List.getElem_of_mem hp
  have:=h i hi
  simp [List.getD,uD hi] at this
  simpa using this
 rw [this]
theorem Rh {L:List (Int × Int)} {id:Int} {k:Nat} (hk:k<L.length) (h:∀ i,i<k->(L.getD i (0,0)).2≠id) (he:(L.getD k (0,0)).2=id):gY L id=k:=by
 unfold gY
 have:L.findIdx? (fun p=>p.2==id)=some k:=by
  rw [List.findIdx?_eq_some_iff_getElem]
  refine ⟨hk,?_,fun j hj=>?_⟩
  ·simp [List.getD,uD hk] at he
   simpa using he
  ·have:=h j hj
   simp [List.getD,uD (show j<L.length by omega)] at this
   simpa using this
 rw [this]
theorem Yl (L:List (Int × Int)) {j:Nat} (h:j<L.length):L.take (j+1)=L.take j++[L.getD j (0,0)]:=by
 rw [List.take_succ_eq_append_getElem h]
 simp [List.getD,uD h]
theorem fM (l:List (Int × Int)) (p:Int × Int):qV (l++[p])=qV l++[iv p.1,iv p.2]:=by rw [tC];rfl
theorem wY {w:World} {T:TypeId} {x y:Value}:∀ j u,([x,y]:List Value)[j]?=some u->(w.alloc (.cells #[x,y] T)).cell? (((aq w.heap.size 0):Addr).add j)=some u:=by
 intro j u hu
 rw [Addr.add_lit,Nat.zero_add,uI (uF w _)]
 simpa using hu
def qW (L:List (Int × Int)):Nat->Int
 | 0=>-1
 | j+1=>if qW L j<0 then (j:Int) else if qR (L.getD j (0,0)) (L.getD (qW L j).toNat (0,0)) then (j:Int) else qW L j
theorem vJ (L:List (Int × Int)):∀ j,qW L j<(j:Int)/\-1<=qW L j
 | 0=>by simp [qW]
 | j+1=>by
   have:=vJ L j
   unfold qW
   split
   ·omega
   ·split<;>omega
theorem jH {w:World} {R:Nat} {c0 c1:Value} {T:TypeId} (h:w.heap[R]?=some (.cells #[c0,c1] T)):w.cell? (aq R 0)=some c0/\w.cell? (aq R 1)=some c1 :=
 ⟨cB h,cB h⟩
theorem yE {w:World} {B n size:Nat} {T:TypeId} {v:Value} {xs:List Value} (h:w.ownsRow B T size v n xs):∃ a c,v=.slice a n c:=by
 rcases h.2 with ⟨rfl,h0⟩|⟨g,cap,cur,rfl,_⟩
 ·exact ⟨none,0,by rw [h0]⟩
 ·exact ⟨_,_,rfl⟩
def Xk (now:Int) (L:List (Int × Int)) (id at':Int):Int:=if at'<=now then 3 else if 0<=gY L id then 4 else 0
def vI (now:Int) (L:List (Int × Int)) (id at':Int):List (Int × Int):=if at'<=now then L else if 0<=gY L id then L else L++[(at',id)]
def gT (L:List (Int × Int)) (id:Int):Int:=if gY L id<0 then 5 else 0
def yL (L:List (Int × Int)) (id:Int):List (Int × Int):=if gY L id<0 then L else L.eraseIdx (gY L id).toNat
def qN (L:List (Int × Int)):Int × Int:=if qW L L.length<0 then (0,0) else L.getD (qW L L.length).toNat (0,0)
def zB (L:List (Int × Int)):Bool:=decide (0<=qW L L.length)
def Wy (to:Int):Nat->List (Int × Int)->List (Int × Int) × List (Int × Int)
 | 0,L=>([],L)
 | n+1,L=>if qW L L.length<0\/to<(L.getD (qW L L.length).toNat (0,0)).1 then ([],L)
   else (L.getD (qW L L.length).toNat (0,0) :: (Wy to n (L.eraseIdx (qW L L.length).toNat)).1,(Wy to n (L.eraseIdx (qW L L.length).toNat)).2)
def ZV (to:Int) (L:List (Int × Int)):List (Int × Int) × List (Int × Int):=Wy to L.length L
theorem cU {to:Int} {L:List (Int × Int)} (h:qW L L.length<0\/to<(L.getD (qW L L.length).toNat (0,0)).1):ZV to L=([],L):=by
 unfold ZV
 cases hn:L.length with
 | zero=>rfl
 | succ n=>rw [Wy,uQ h]
theorem Ta {to:Int} {L:List (Int × Int)} {q:Nat} (hq:qW L L.length=q) (hl:q<L.length) (h:(L.getD q (0,0)).1<=to):ZV to L=(L.getD q (0,0) :: (ZV to (L.eraseIdx q)).1,(ZV to (L.eraseIdx q)).2):=by
 unfold ZV
 have he:(L.eraseIdx q).length=L.length - 1:=List.length_eraseIdx_of_lt hl
 obtain ⟨n,hn⟩:∃ n,L.length=n+1:=⟨L.length - 1,uO⟩
 have hf:¬ (qW L L.length<0\/to<(L.getD (qW L L.length).toNat (0,0)).1):=by rw [hq,Int.toNat_natCast];omega
 rw [he,hn,Nat.add_sub_cancel,Wy,uP hf,hq,Int.toNat_natCast]
def lenOf:Value->Nat
 | .slice _ n _=>n
 | _=>0
def Zw (now to:Int):Int:=if to<now then 3 else 0
def fE (now to:Int) (L:List (Int × Int)):List (Int × Int):=if to<now then [] else (ZV to L).1
def mU (now to:Int) (L:List (Int × Int)):List (Int × Int):=if to<now then L else (ZV to L).2
def aT (now to:Int):Int:=if to<now then now else to
theorem aY {a b:Int × Int}:qR a b=true↔a.1<b.1\/(a.1=b.1/\a.2<b.2):=by
 simp [qR]
theorem fU {a b:Int × Int}:¬ qR a b=true↔b.1<a.1\/(b.1=a.1/\b.2<=a.2):=by
 rw [aY];omega
theorem fG {a b:Int × Int} (h1:¬ qR a b=true) (h2:¬ qR b a=true):a=b:=by
 rw [fU] at h1 h2
 obtain ⟨a1,a2⟩:=a
 obtain ⟨b1,b2⟩:=b
 simp only at h1 h2
 have e1:a1=b1:=uO
 have e2:a2=b2:=uO
 rw [e1,e2]
def Wp (L:List (Int × Int)):Prop:=L.Pairwise fun a b=>¬ qR b a=true
theorem fX (L:List (Int × Int)):∀ j,∀ i,i<j->0<=qW L j/\¬ qR (L.getD i (0,0)) (L.getD (qW L j).toNat (0,0))=true
 | 0,i,h=>by omega
 | j+1,i,h=>by
   have hb:=vJ L j
   unfold qW
   by_cases h0:qW L j<0
   ·rw [uQ h0]
    have hi:i=j:=by
     by_cases hi:i<j
     ·have:=(fX L j i hi).1;omega
     ·omega
    subst hi
    refine ⟨uO,?_⟩
    rw [Int.toNat_natCast,fU]
    omega
   ·rw [uP h0]
    by_cases ha:qR (L.getD j (0,0)) (L.getD (qW L j).toNat (0,0))=true
    ·rw [uQ ha]
     refine ⟨uO,?_⟩
     rw [Int.toNat_natCast]
     by_cases hi:i<j
     ·have h1:=(fX L j i hi).2
      rw [aY] at ha
      rw [fU] at h1 ⊢
      omega
     ·have:i=j:=uO
      subst this
      rw [fU];omega
    ·rw [uP ha]
     refine ⟨uO,?_⟩
     by_cases hi:i<j
     ·exact (fX L j i hi).2
     ·have:i=j:=uO
      subst this
      exact ha
theorem gL {L:List (Int × Int)} {q:Nat} (h:q<L.length):L.getD q (0,0)∈L:=by
 simp [List.getD,uD h]
theorem tH {L:List (Int × Int)} {p:Int × Int} (hp:p∈L):0<=qW L L.length/\(qW L L.length).toNat<L.length/\¬ qR p (L.getD (qW L L.length).toNat (0,0))=true:=by
 obtain ⟨i,hi,rfl⟩:=List.getElem_of_mem hp
 have h:=fX L L.length i hi
 have hb:=vJ L L.length
 refine ⟨h.1,uO,?_⟩
 have:=h.2
 rwa [show L.getD i (0,0)=L[i] by simp [List.getD,uD hi]] at this
theorem eQ:qN []=(0,0)/\zB []=false:=by simp [qN,zB,qW]
theorem oY {L:List (Int × Int)} (h:L≠[]):zB L=true/\qN L∈L/\∀ p∈L,¬ qR p (qN L)=true:=by
 obtain ⟨p,hp⟩:=List.exists_mem_of_ne_nil L h
 have h0:=tH hp
 have he:qN L=L.getD (qW L L.length).toNat (0,0):=by unfold qN;rw [uP uO]
 refine ⟨by simp [zB];exact h0.1,by rw [he];exact gL h0.2.1,fun p hp=>?_⟩
 rw [he]
 exact (tH hp).2.2
theorem Jo {L L':List (Int × Int)} (hp:L.Perm L') {p:Int × Int} (hm:p∈L') (hf:∀ r∈L',¬ qR r p=true):zB L=true/\qN L=p:=by
 have hL:p∈L:=hp.mem_iff.2 hm
 have h:=oY (L:=L) (fun e=>by rw [e] at hL;simp at hL)
 exact ⟨h.1,fG (hf _ (hp.mem_iff.1 h.2.1)) (h.2.2 p hL)⟩
theorem tV {L:List (Int × Int)} {q:Nat} (h:q<L.length):L.Perm (L.getD q (0,0) :: L.eraseIdx q):=by
 have e:L.getD q (0,0)=L[q]:=by simp [List.getD,uD h]
 rw [e]
 induction L generalizing q with
 | nil=>simp at h
 | cons a L ih =>
   cases q with
   | zero=>simp
   | succ q =>
     have hq:q<L.length:=by simpa using h
     simp only [List.getElem_cons_succ,List.eraseIdx_cons_succ]
     exact ((ih hq (by simp [List.getD,uD hq])).cons a).trans (List.Perm.swap _ _ _)
theorem lT {L:List (Int × Int)} {q:Nat} (h:q<L.length) {f:Int × Int->Bool} (hf:f (L.getD q (0,0))=false):(L.eraseIdx q).filter f=L.filter f:=by
 induction L generalizing q with
 | nil=>simp at h
 | cons a L ih =>
   cases q with
   | zero=>simp at hf;simp [hf]
   | succ q =>
     have hq:q<L.length:=by simpa using h
     have:f (L.getD q (0,0))=false:=by simpa using hf
     simp only [List.eraseIdx_cons_succ,List.filter_cons,ih hq this]
theorem fZ (to:Int):∀ n (L:List (Int × Int)),L.length=n->(ZV to L).2=L.filter (fun p=>decide (to<p.1))/\(ZV to L).1.Perm (L.filter (fun p=>decide (p.1<=to)))/\Wp (ZV to L).1
 | 0,L,hn=>by
   have:L=[]:=List.length_eq_zero_iff.1 hn
   subst this
   exact ⟨rfl,.refl _,.nil⟩
 | n+1,L,hn=>by
   obtain ⟨p,hp⟩:=List.exists_mem_of_ne_nil L (fun e=>by rw [e] at hn;simp at hn)
   have h0:=tH hp
   obtain ⟨q,hq⟩:=Int.eq_ofNat_of_zero_le h0.1
   have hql:q<L.length:=by have:=h0.2.1;rw [hq,Int.toNat_natCast] at this;exact this
   have hmin:∀ r∈L,¬ qR r (L.getD q (0,0))=true:=fun r hr=>by have:=(tH hr).2.2;rwa [hq,Int.toNat_natCast] at this
   by_cases ht:to<(L.getD q (0,0)).1
   ·rw [cU (.inr (by rw [hq,Int.toNat_natCast];exact ht))]
    have hall:∀ r∈L,to<r.1:=fun r hr=>by have:=hmin r hr;rw [fU] at this;omega
    refine ⟨?_,?_,.nil⟩
    ·exact (List.filter_eq_self.2 (fun r hr=>by simpa using hall r hr)).symm
    ·rw [List.filter_eq_nil_iff.2 (fun r hr=>by have:=hall r hr;simp;omega)]
   ·rw [Ta hq hql uO]
    have hle:(L.eraseIdx q).length=n:=by rw [List.length_eraseIdx_of_lt hql];omega
    obtain ⟨i1,i2,i3⟩:=fZ to n (L.eraseIdx q) hle
    have hpe:=tV hql
    refine ⟨?_,?_,?_⟩
    ·simp only
     rw [i1,lT hql (by simpa using ht)]
    ·refine (i2.cons _).trans ?_
     refine List.Perm.trans ?_ (hpe.filter _).symm
     rw [List.filter_cons,uQ (decide_eq_true uO)]
    ·refine List.pairwise_cons.2 ⟨fun r hr=>?_,i3⟩
     have:r∈L.eraseIdx q:=(List.mem_filter.1 (i2.mem_iff.1 hr)).1
     exact hmin r (List.mem_of_mem_eraseIdx this)
theorem Yv {to:Int} {L:List (Int × Int)}:(ZV to L).2=L.filter (fun p=>decide (to<p.1)):=(fZ to _ L rfl).1
def xB (L:List (Int × Int)):Prop:=(L.map (·.2)).Nodup
theorem mA {L:List (Int × Int)} {id:Int}:0<=gY L id↔∃ p∈L,p.2=id:=by
 unfold gY
 cases h:L.findIdx? (fun p=>p.2==id) with
 | none =>
   rw [List.findIdx?_eq_none_iff] at h
   refine ⟨fun h'=>by simp at h',?_⟩
   rintro ⟨p,hp,rfl⟩
   have:=h p hp
   simp at this
 | some i =>
   rw [List.findIdx?_eq_some_iff_getElem] at h
   obtain ⟨hi,hp,_⟩:=h
   exact ⟨fun _=>⟨L[i],List.getElem_mem hi,by simpa using hp⟩,fun _=>by simp⟩
theorem Wd {L:List (Int × Int)} {id:Int} (h:0<=gY L id):(gY L id).toNat<L.length/\(L.getD (gY L id).toNat (0,0)).2=id:=by
 unfold gY at h ⊢
 cases hf:L.findIdx? (fun p=>p.2==id) with
 | none=>rw [hf] at h;simp at h
 | some i =>
   rw [List.findIdx?_eq_some_iff_getElem] at hf
   obtain ⟨hi,hp,_⟩:=hf
   refine ⟨by simpa using hi,?_⟩
   simp [List.getD,uD hi]
   simpa using hp
theorem aL {L L':List (Int × Int)} (hp:L.Perm L') (h:xB L):xB L':=(hp.map _).nodup_iff.1 h
theorem vZ {L:List (Int × Int)} (f:Int × Int->Bool) (h:xB L):xB (L.filter f):=List.Nodup.sublist (List.Sublist.map _ List.filter_sublist) h
theorem iE {L:List (Int × Int)} {id:Int} (h:xB L):yL L id=L.filter (fun p=>p.2 != id):=by
 unfold yL
 by_cases hx:gY L id<0
 ·rw [uQ hx]
  refine (List.filter_eq_self.2 fun p hp=>?_).symm
  have:p.2≠id:=fun e=>by have:=mA.2 ⟨p,hp,e⟩;omega
  simpa using this
 ·rw [uP hx]
  obtain ⟨h1,h2⟩:=Wd (show 0<=gY L id by omega)
  have hpe:=tV h1
  rw [← lT h1 (f:=fun p=>p.2 != id) (by rw [h2];simp)]
  refine (List.filter_eq_self.2 fun p hp=>?_).symm
  have hn:=aL hpe h
  unfold xB at hn
  rw [List.map_cons,List.nodup_cons,h2] at hn
  have:p.2≠id:=fun e=>hn.1 (List.mem_map.2 ⟨p,hp,e⟩)
  simpa using this
theorem rH {now:Int} {L:List (Int × Int)} {id at':Int} (h:xB L):xB (vI now L id at'):=by
 unfold vI
 split
 ·exact h
 ·split
  ·exact h
  ·rename_i hx
   have hn:id ∉ L.map (·.2):=fun hm=>by
    obtain ⟨p,hp,e⟩:=List.mem_map.1 hm
    exact hx (mA.2 ⟨p,hp,e⟩)
   have:xB ((at',id) :: L):=by unfold xB;rw [List.map_cons,List.nodup_cons];exact ⟨hn,h⟩
   exact aL (by have:=List.perm_append_comm (l₁:=[(at',id)]) (l₂:=L);simpa using this) this
theorem iY {L:List (Int × Int)} {id:Int} (h:xB L):xB (yL L id):=by rw [iE h];exact vZ _ h
theorem Eu (now:Int) (L:List (Int × Int)) (id at':Int):(vI now L id at').length<=L.length+1:=by
 unfold vI
 split
 ·omega
 ·split
  ·omega
  ·simp
theorem aD (L:List (Int × Int)) (id:Int):(yL L id).length<=L.length:=by
 unfold yL
 split
 ·omega
 ·exact List.length_eraseIdx_le _ _
theorem It (now to:Int) (L:List (Int × Int)):(mU now to L).length<=L.length:=by
 unfold mU
 split
 ·omega
 ·rw [Yv];exact List.length_filter_le _ _
structure Timers (PW:World->Nat->(Nat->Prop)->Int->List (Int × Int)->Prop):Prop where
 lt:∀ {w x own now L},PW w x own now L->∀ k,own k->k<w.heap.size
 keep:∀ {w w' x own now L},PW w x own now L->w.heap.size<=w'.heap.size->(∀ k,own k->w'.heap[k]?=w.heap[k]?)->PW w' x own now L
 advance:∀ {w x own now L} (to:Int),PW w x own now L->L.length * 16+16<=140737488351232 →
  Ca 101 #[pt x 0,iv to] w fun e w'=>∃ out own',e=.returned (.tuple #[out,iv (Zw now to)])/\w'.ownsRow w.heap.size 123 2 out (fE now to L).length (qV (fE now to L)) ∧
   (Zw now to≠0->out=.slice none 0 0)/\PW w' x own' (aT now to) (mU now to L)/\Same own w w'/\(∀ k,own' k->own k\/w.heap.size<=k)/\(∀ k,out.ownBlock=some k->¬ own' k)
theorem qP {w:World} {B n size R:Nat} {T U:TypeId} {v:Value} {xs:List Value} {C:Array Value} (h:w.ownsRow B T size v n xs) (hR:w.heap[R]?=some (.cells C U)) (hT:T≠U):v.ownBlock≠some R:=by
 intro e
 rcases h.2 with ⟨rfl,_⟩|⟨g,c,cur,rfl,_,hh,_⟩
 ·simp [Value.ownBlock] at e
 ·simp [Value.ownBlock] at e
  subst e
  rw [hR] at hh
  simp at hh
  exact hT hh.2.symm
theorem qG {w w':World} {B n size:Nat} {T:TypeId} {v:Value} {xs:List Value} (h:w.ownsRow B T size v n xs) (hk:∀ k,v.ownBlock=some k->w'.heap[k]?=w.heap[k]?):w'.ownsRow B T size v n xs:=by
 refine ⟨h.1,h.2.imp id ?_⟩
 rintro ⟨g,cap,cur,hv,hg,hh,hr⟩
 exact ⟨g,cap,cur,hv,hg,(hk g (by rw [hv];rfl)).trans hh,hr⟩
theorem eK {w:World} {B B' n size:Nat} {T:TypeId} {v:Value} {xs:List Value} (h:w.ownsRow B T size v n xs) (hB:B'<=B):w.ownsRow B' T size v n xs:=by
 refine ⟨h.1,h.2.imp id ?_⟩
 rintro ⟨g,cap,cur,hv,hg,hr⟩
 exact ⟨g,cap,cur,hv,uO,hr⟩
def oK (PW:World->Nat->(Nat->Prop)->Int->List (Int × Int)->Prop) (w w':World) (x:Nat) (own:Nat->Prop) (now:Int) (L:List (Int × Int)):Prop :=
 ∃ own',PW w' x own' now L/\Same own w w'/\∀ k,own' k->own k\/w.heap.size<=k
structure TimersAll (PW:World->Nat->(Nat->Prop)->Int->List (Int × Int)->Prop):Prop extends Timers PW where
 new:∀ (w:World) (now:Int),Ca 35 #[iv now] w fun e w'=>∃ x own,e=.returned (pt x 0)/\PW w' x own now []/\(∀ k,own k->w.heap.size<=k)/\Below w.heap.size w w'
 set:∀ {w x own now L} (id at':Int),PW w x own now L->L.length * 16+16<=140737488351232 →
  Ca 79 #[pt x 0,iv id,iv at'] w fun e w'=>e=.returned (iv (Xk now L id at'))/\oK PW w w' x own now (vI now L id at')
 unset:∀ {w x own now L} (id:Int),PW w x own now L->L.length * 16+16<=140737488351232 →
  Ca 81 #[pt x 0,iv id] w fun e w'=>e=.returned (iv (gT L id))/\oK PW w w' x own now (yL L id)
 first:∀ {w x own now L},PW w x own now L->L.length * 16+16<=140737488351232 →
  Ca 71 #[pt x 0] w fun e w'=>e=.returned (.tuple #[.agg #[iv (qN L).1,iv (qN L).2],.bool (zB L)])/\oK PW w w' x own now L
 size:∀ {w x own now L},PW w x own now L->L.length * 16+16<=140737488351232 →
  Ca 84 #[pt x 0] w fun e w'=>e=.returned (iv L.length)/\oK PW w w' x own now L
theorem Same.trans {o1 o2 o:Nat->Prop} {w w1 w2:World} (h1:Same o1 w w1) (h2:Same o2 w1 w2) (h:∀ k,k<w.heap.size->o1 k\/o2 k->o k):Same o w w2 :=
 ⟨h2.os.trans h1.os,h2.tape.trans h1.tape,h2.output.trans h1.output,uX h1.size h2.size,fun k hk hn=>(h2.block k (uB hk h1.size) (fun e=>hn (h k hk (.inr e)))).trans (h1.block k hk (fun e=>hn (h k hk (.inl e))))⟩
theorem Hg (a b:Int × Int) (w:World) :
 Ca 142 #[.agg #[iv a.1,iv a.2],.agg #[iv b.1,iv b.2]] w fun e w'=>e=.returned (.bool (qR a b))/\Below w.heap.size w w':=by
 obtain ⟨a1,a2⟩:=a
 obtain ⟨b1,b2⟩:=b
 simp only
 by_cases h1:a1<b1
 ·go_enter Tryz.func142,Tryz.ntmps142
  go_wp2
  go_ret
  exact ⟨by simp [qR,h1],bL⟩
 ·have d1:decide (a1<b1)=false:=by simpa using h1
  by_cases h2:a1=b1
  ·subst h2
   go_enter Tryz.func142,Tryz.ntmps142
   go_wp2
   go_ret
   exact ⟨by simp [qR],bL⟩
  ·have d2:(a1==b1)=false:=by simpa using h2
   go_enter Tryz.func142,Tryz.ntmps142
   go_wp2
   go_ret
   exact ⟨by simp [qR,d1,d2],bL⟩
theorem pZ (R:Nat) (v:Value) (L:List (Int × Int)) (id:Int) (w:World) (h1:w.cell? (aq R 1)=some v) (hd:Uv w v L) (hl:L.length * 16<=140737488355328) :
 Ca 113 #[pt R 0,iv id] w fun e w'=>e=.returned (iv (gY L id))/\w=w':=by
 obtain ⟨a,c,rfl,hc⟩:=hd
 have HC:Hid (0<L.length->∃ g,a=some (aq g 0)/\g<w.heap.size/\∀ i,i<L.length->w.cell? (aq g (i * 2))=some (iv (L.getD i (0,0)).1)/\w.cell? (aq g (i * 2+1))=some (iv (L.getD i (0,0)).2)):=hc
 clear hc
 go_enter Tryz.func113,Tryz.ntmps113
 go_wp2
 go_loop [5] (fun i=>∃ k:Nat,k<=L.length/\i=iv k/\Hid (∀ i,i<k->(L.getD i (0,0)).2≠id)) (fun i=>L.length - (intOf i).toNat)
 case atStart=>exact ⟨0,Nat.zero_le _,rfl,fun _ h=>uO⟩
 case round =>
  obtain ⟨k,hk,rfl,hall⟩:=hrel
  by_cases hlt:k<L.length
  ·obtain ⟨g,rfl,_,hcell⟩:=HC.out uO
   have hcx:=(hcell k hlt).2
   generalize hx:(L.getD k (0,0)).2=x at hcx
   have HX:Hid ((L.getD k (0,0)).2=x):=hx
   clear hx hcell
   by_cases he:x=id
   ·have HI:Hid (gY L id=k):=Rh hlt hall.out (HX.out.trans he)
    subst he
    go_wp2
    go_ret
    exact ⟨by rw [HI.out];rfl,rfl⟩
   ·have he':(x==id)=false:=by simpa using he
    go_wp2
    go_round
    case rel=>exact ⟨k+1,uO,vN,Ml hall.out (by rw [HX.out];exact he)⟩
    case measure=>simp [intOf];omega
  ·have HI:Hid (gY L id=-1):=Td (fun i hi=>hall.out i uO)
   go_wp2
   go_ret
   exact ⟨by rw [HI.out];rfl,rfl⟩
def Xb (L:List (Int × Int)) (k j:Nat):List (Int × Int):=(L.take j).eraseIdx k
theorem Rn {L:List (Int × Int)} {k j:Nat} (h:j<L.length) (e:j=k):Xb L k (j+1)=Xb L k j:=by
 subst e
 unfold Xb
 have hl:(L.take j).length=j:=by simp;omega
 rw [Yl L h,List.eraseIdx_append_of_length_le uO,hl,Nat.sub_self]
 simp [List.eraseIdx_of_length_le (show (L.take j).length<=j by omega)]
theorem Ar {L:List (Int × Int)} {k j:Nat} (h:j<L.length) (e:j≠k):Xb L k (j+1)=Xb L k j++[L.getD j (0,0)]:=by
 unfold Xb
 have hl:(L.take j).length=j:=by simp;omega
 rw [Yl L h]
 by_cases hk:k<j
 ·rw [List.eraseIdx_append_of_lt_length uO]
 ·rw [List.eraseIdx_of_length_le uT,List.eraseIdx_of_length_le uO]
theorem Eb (L:List (Int × Int)) (k j:Nat):(Xb L k j).length<=L.length:=by
 unfold Xb
 have:=List.length_eraseIdx_le (L.take j) k
 simp at this
 omega
theorem bS (R:Nat) (v:Value) (L:List (Int × Int)) (k:Nat) (w:World) (h1:w.cell? (aq R 1)=some v) (hd:Uv w v L) (hl:L.length * 16<=140737488351232) :
 Ca 115 #[pt R 0,iv k] w fun e w'=>∃ v',e=.returned v'/\w'.ownsRow w.heap.size 123 2 v' (L.eraseIdx k).length (qV (L.eraseIdx k))/\Below w.heap.size w w':=by
 obtain ⟨i0,hi,hz0,hz1,hz2⟩:=info_parts Tryz.infoDue
 obtain ⟨a,c,rfl,hc⟩:=hd
 have hRw:R<w.heap.size:=uC w _ h1
 have HC:Hid (0<L.length->∃ g,a=some (aq g 0)/\g<w.heap.size/\∀ i,i<L.length->w.cell? (aq g (i * 2))=some (iv (L.getD i (0,0)).1)/\w.cell? (aq g (i * 2+1))=some (iv (L.getD i (0,0)).2)):=hc
 have H1:Hid (w.cell? (aq R 1)=some (.slice a L.length c)):=h1
 clear hc h1
 generalize hB:w.heap.size=B at *
 have HB:Hid (w.heap.size=B):=hB
 go_enter Tryz.func115,Tryz.ntmps115
 go_wp2_with fail
 clear hB
 go_loopw [5,6] (fun l i wr=>∃ j:Nat,j<=L.length/\i=iv j/\wr.ownsRow B 123 2 l (Xb L k j).length (qV (Xb L k j))/\Below B w wr) (fun _ i _=>L.length - (intOf i).toNat)
 case atStart=>exact ⟨0,Nat.zero_le _,rfl,World.ownsRow_nil _ _ _ _,uM _ _⟩
 case round =>
  obtain ⟨j,hj,rfl,hown,hbel⟩:=hrel
  have hBr:B<=wr.heap.size:=by have:=hbel.size;rw [HB.out] at this;exact this
  have k1:wr.cell? (aq R 1)=some (.slice a L.length c):=(hbel.cell (p:=(aq R 1)) hRw).trans H1.out
  have hwl:=Eb L k j
  by_cases hlt:j<L.length
  ·obtain ⟨g,rfl,hgw,hcell⟩:=HC.out uO
   have c0:=(hbel.cell (p:=(aq g (j * 2))) hgw).trans (hcell j hlt).1
   have c1:=(hbel.cell (p:=(aq g (j * 2+1))) hgw).trans (hcell j hlt).2
   by_cases he:j=k
   ·subst he
    have HW:Hid (Xb L j (j+1)=Xb L j j):=Rn hlt rfl
    clear hcell c0 c1
    go_wp2
    go_roundw
    case rel=>exact ⟨j+1,uO,vN,by rw [HW.out];exact hown,hbel⟩
    case measure=>simp [intOf];omega
   ·have HW:Hid (Xb L k (j+1)=Xb L k j++[L.getD j (0,0)]):=Ar hlt he
    have hne:((j:Int) != (k:Int))=true:=by simp;omega
    generalize L.getD j (0,0)=p at c0 c1 HW
    obtain ⟨p0,p1⟩:=p
    simp only at c0 c1
    have HO:Hid (∀ k,u5.ownBlock=some k->B<=k/\k<wr.heap.size):=uJ hown
    generalize Xb L k j=X at hown HW hwl
    clear hcell
    go_wp2_with (at_builtin;refine wpList_append_own _ rfl _ _ 121 rfl B 123 i0 (.agg #[iv 0,iv 0]) 2 16 Tryz.underlying121 hi hz0 hz1 hz2 rfl vO _ _ _ rfl (hown.alloc _) (aq wr.heap.size 0) 1 1 [iv p0,iv p1] rfl rfl ?c1 ?c2 ?c3 ?c4 ?c5 ?_)
    case c1=>exact wY
    case c2=>intro u hu;simp at hu;rcases hu with rfl|rfl<;>rfl
    case c3=>unfold maxLen;omega
    case c4=>omega
    case c5=>simp;omega
    intro v' w1 hown' hgrow _
    clear hown
    go_wp2
    go_roundw
    case rel =>
     refine ⟨j+1,uO,vN,?_,(hbel.alloc hBr _).grown hgrow uT (fun k hk=>(HO.out k hk).1)⟩
     rw [HW.out,fM];simpa using hown'
    case measure=>simp [intOf];omega
  ·have HE:Hid (Xb L k j=L.eraseIdx k):=by unfold Hid Xb;rw [List.take_of_length_le uO]
   rw [HE.out] at hown
   go_wp2
   go_ret
   exact ⟨_,rfl,hown,hbel⟩
