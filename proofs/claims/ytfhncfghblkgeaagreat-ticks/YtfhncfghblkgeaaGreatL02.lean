import Derived.Test.YtfhncfghblkgeaaGreatL00
set_option maxRecDepth 100000
set_option maxHeartbeats 2000000
namespace Go.Proofs.YtfhncfghblkgeaaGreat
open Go.RowKit
def jas (ts:List (Int × Int)):List Value:=ts.flatMap fun p=>[iv p.1,iv p.2]
theorem jhc (p:Int × Int) (ts:List (Int × Int)):jas (p :: ts)=iv p.1 :: iv p.2 :: jas ts:=rfl
theorem jiv (a b:List (Int × Int)):jas (a++b)=jas a++jas b:=by simp [jas]
theorem jef (ts:List (Int × Int)):(jas ts).length=ts.length * 2:=by
 induction ts with
 | nil=>rfl
 | cons p ts ih=>rw [jhc];simp [ih];omega
theorem jr9 (ts:List (Int × Int)):∀ v∈jas ts,v.oneCell'=true:=by
 intro v hv
 obtain ⟨p,_,hv⟩:=List.mem_flatMap.1 hv
 simp at hv
 rcases hv with rfl|rfl<;>rfl
theorem jhg:∀ (ts:List (Int × Int)) (i:Nat),i<ts.length->(jas ts)[i * 2]?=some (iv (ts.getD i (0,0)).1)/\(jas ts)[i * 2+1]?=some (iv (ts.getD i (0,0)).2)
 | [],i,h=>by simp at h
 | p :: ts,0,_=>by simp [jhc]
 | p :: ts,i+1,h=>by
   have ih:=jhg ts i (by simpa using h)
   rw [jhc]
   have e1:(i+1) * 2=i * 2+2:=by omega
   rw [e1]
   simpa using ih
theorem jhm {w:World} {g:Nat} {A Z:List Value} {z:Value} {T:TypeId} (h:w.heap[g]?=some (.cells (A++z :: Z).toArray T (0,0))) {i:Nat} (hi:A.length=i):w.cell? (aq g i)=some z:=by
 rw [Joins.cell_of_block h]
 subst hi
 simp
theorem ja0 {w:World} {g:Nat} {C:Array Value} {T:TypeId} (h:w.heap[g]?=some (.cells C T (0,0))) (i:Nat):w.frozen? (aq g i)=false:=Joins.unfrozen_of_block h i
theorem jdh {w:World} {g:Nat} {A Z:List Value} {z:Value} {T:TypeId} (h:w.heap[g]?=some (.cells (A++z :: Z).toArray T (0,0))) {i:Nat} (hi:A.length=i) (v:Value) :
 (w.setCell (aq g i) v).heap[g]?=some (.cells (A++v :: Z).toArray T (0,0)):=by
 rw [Joins.block_setCell h v]
 subst hi
 simp
theorem jka {w:World} {g:Nat} {A Z:List Value} {z0 z1:Value} {T:TypeId} (h:w.heap[g]?=some (.cells (A++z0 :: z1 :: Z).toArray T (0,0))) {i:Nat} (hi:A.length=i) (v0 v1:Value) :
 ((w.setCell (aq g i) v0).setCell (aq g (i+1)) v1).heap[g]?=some (.cells (A++v0 :: v1 :: Z).toArray T (0,0)):=by
 have h1:=jdh h hi v0
 have h2:(w.setCell (aq g i) v0).heap[g]?=some (.cells ((A++[v0])++z1 :: Z).toArray T (0,0)):=by rw [h1];simp
 have h3:=jdh h2 (i:=i+1) (by simp [hi]) v1
 rw [h3];simp
theorem jam {w w':World} {base B:Nat} {e:TypeId} {size:Nat} {v:Value} {n:Nat} {xs:List Value} (h:w.ownsRow base e size v n xs) (hb:Below B w w') (hB:w.heap.size<=B):w'.ownsRow base e size v n xs:=by
 refine ⟨h.1,?_⟩
 rcases h.2 with h|⟨g,cap,cur,h1,h2,h3,h4⟩
 ·exact .inl h
 ·exact .inr ⟨g,cap,cur,h1,h2,(hb.block g (by have:=(blt h3);omega)).trans h3,h4⟩
structure Same (own:Nat->Prop) (w w':World):Prop where
 os:w'.os=w.os
 tape:w'.tape=w.tape
 output:w'.output=w.output
 size:w.heap.size<=w'.heap.size
 block:∀ k,k<w.heap.size->¬ own k->w'.heap[k]?=w.heap[k]?
theorem Same.of_below {own:Nat->Prop} {w w':World} (h:Below w.heap.size w w'):Same own w w':=⟨h.os,h.tape,h.output,h.size,fun k hk _=>h.block k hk⟩
theorem Same.cell {own:Nat->Prop} {w w':World} (h:Same own w w') {b o:Nat} (hb:b<w.heap.size) (hn:¬ own b):w'.cell? (aq b o)=w.cell? (aq b o):=World.cell?_of_block (a:=(aq b o)) (h.block b hb hn)
theorem Tryz.infoDue:(Tryz.prog.info? 131).map (fun i=>(i.zero,i.size,i.bytes))=some (some (.agg #[iv 0,iv 0]),2,16):=by kernel_rfl
def jah (a b:Int × Int):Bool:=decide (a.1<b.1) || (a.1==b.1 && decide (a.2<b.2))
def joq (L:List (Int × Int)) (id:Int):Int:=match L.findIdx? (fun p=>p.2==id) with|some i=>(i:Int)|none=>-1
theorem qc9 (L:List (Int × Int)) {j:Nat} (h:j<L.length):L.take (j+1)=L.take j++[L.getD j (0,0)]:=by
 rw [List.take_succ_eq_append_getElem h]
 simp [List.getD,List.getElem?_eq_getElem h]
theorem jx1 (l:List (Int × Int)) (p:Int × Int):jas (l++[p])=jas l++[iv p.1,iv p.2]:=by rw [jiv];rfl
theorem qeb {w:World} {T:TypeId} {x y:Value}:∀ j u,([x,y]:List Value)[j]?=some u->(w.alloc (.cells #[x,y] T)).cell? (((aq w.heap.size 0):Addr).add j)=some u:=by
 intro j u hu
 rw [Addr.add_lit,Nat.zero_add,Joins.cell_of_block (heap_alloc_new w _)]
 simpa using hu
def jb2 (L:List (Int × Int)):Nat->Int
 | 0=>-1
 | j+1=>if jb2 L j<0 then (j:Int) else if jah (L.getD j (0,0)) (L.getD (jb2 L j).toNat (0,0)) then (j:Int) else jb2 L j
theorem jh1 (L:List (Int × Int)):∀ j,jb2 L j<(j:Int)/\-1<=jb2 L j
 | 0=>by simp [jb2]
 | j+1=>by
   have:=jh1 L j
   unfold jb2
   split
   ·omega
   ·split<;>omega
theorem jiq {w:World} {R:Nat} {c0 c1:Value} {T:TypeId} (h:w.heap[R]?=some (.cells #[c0,c1] T (0,0))):w.cell? (aq R 0)=some c0/\w.cell? (aq R 1)=some c1 :=
 ⟨by rw [Joins.cell_of_block h];rfl,by rw [Joins.cell_of_block h];rfl⟩
theorem jc7 {w:World} {B n size:Nat} {T:TypeId} {v:Value} {xs:List Value} (h:w.ownsRow B T size v n xs):∃ a c,v=.slice a n c:=by
 rcases h.2 with ⟨rfl,h0⟩|⟨g,cap,cur,rfl,_⟩
 ·exact ⟨none,0,by rw [h0]⟩
 ·exact ⟨_,_,rfl⟩
def qd9 (now:Int) (L:List (Int × Int)) (id at':Int):Int:=if at'<=now then 3 else if 0<=joq L id then 4 else 0
def jft (now:Int) (L:List (Int × Int)) (id at':Int):List (Int × Int):=if at'<=now then L else if 0<=joq L id then L else L++[(at',id)]
def jq6 (L:List (Int × Int)) (id:Int):Int:=if joq L id<0 then 5 else 0
def jbi (L:List (Int × Int)) (id:Int):List (Int × Int):=if joq L id<0 then L else L.eraseIdx (joq L id).toNat
def jad (L:List (Int × Int)):Int × Int:=if jb2 L L.length<0 then (0,0) else L.getD (jb2 L L.length).toNat (0,0)
def jc5 (L:List (Int × Int)):Bool:=decide (0<=jb2 L L.length)
def qfk (to:Int):Nat->List (Int × Int)->List (Int × Int) × List (Int × Int)
 | 0,L=>([],L)
 | n+1,L=>if jb2 L L.length<0\/to<(L.getD (jb2 L L.length).toNat (0,0)).1 then ([],L)
   else (L.getD (jb2 L L.length).toNat (0,0) :: (qfk to n (L.eraseIdx (jb2 L L.length).toNat)).1,(qfk to n (L.eraseIdx (jb2 L L.length).toNat)).2)
def adv (to:Int) (L:List (Int × Int)):List (Int × Int) × List (Int × Int):=qfk to L.length L
theorem jue {to:Int} {L:List (Int × Int)} (h:jb2 L L.length<0\/to<(L.getD (jb2 L L.length).toNat (0,0)).1):adv to L=([],L):=by
 unfold adv
 cases hn:L.length with
 | zero=>rfl
 | succ n=>rw [qfk,if_pos h]
theorem qdd {to:Int} {L:List (Int × Int)} {q:Nat} (hq:jb2 L L.length=q) (hl:q<L.length) (h:(L.getD q (0,0)).1<=to):adv to L=(L.getD q (0,0) :: (adv to (L.eraseIdx q)).1,(adv to (L.eraseIdx q)).2):=by
 unfold adv
 have he:(L.eraseIdx q).length=L.length - 1:=List.length_eraseIdx_of_lt hl
 obtain ⟨n,hn⟩:∃ n,L.length=n+1:=⟨L.length - 1,by omega⟩
 have hf:¬ (jb2 L L.length<0\/to<(L.getD (jb2 L L.length).toNat (0,0)).1):=by rw [hq,Int.toNat_natCast];omega
 rw [he,hn,Nat.add_sub_cancel,qfk,if_neg hf,hq,Int.toNat_natCast]
def lenOf:Value->Nat
 | .slice _ n _=>n
 | _=>0
def qav (now to:Int):Int:=if to<now then 3 else 0
def jho (now to:Int) (L:List (Int × Int)):List (Int × Int):=if to<now then [] else (adv to L).1
def jur (now to:Int) (L:List (Int × Int)):List (Int × Int):=if to<now then L else (adv to L).2
def jyx (now to:Int):Int:=if to<now then now else to
theorem jk4 {a b:Int × Int}:jah a b=true↔a.1<b.1\/(a.1=b.1/\a.2<b.2):=by
 simp [jah]
theorem jfo {a b:Int × Int}:¬ jah a b=true↔b.1<a.1\/(b.1=a.1/\b.2<=a.2):=by
 rw [jk4];omega
theorem jff {a b:Int × Int} (h1:¬ jah a b=true) (h2:¬ jah b a=true):a=b:=by
 rw [jfo] at h1 h2
 obtain ⟨a1,a2⟩:=a
 obtain ⟨b1,b2⟩:=b
 simp only at h1 h2
 have e1:a1=b1:=by omega
 have e2:a2=b2:=by omega
 rw [e1,e2]
def qf2 (L:List (Int × Int)):Prop:=L.Pairwise fun a b=>¬ jah b a=true
theorem jg1 (L:List (Int × Int)):∀ j,∀ i,i<j->0<=jb2 L j/\¬ jah (L.getD i (0,0)) (L.getD (jb2 L j).toNat (0,0))=true
 | 0,i,h=>by omega
 | j+1,i,h=>by
   have hb:=jh1 L j
   unfold jb2
   by_cases h0:jb2 L j<0
   ·rw [if_pos h0]
    have hi:i=j:=by
     by_cases hi:i<j
     ·have:=(jg1 L j i hi).1;omega
     ·omega
    subst hi
    refine ⟨by omega,?_⟩
    rw [Int.toNat_natCast,jfo]
    omega
   ·rw [if_neg h0]
    by_cases ha:jah (L.getD j (0,0)) (L.getD (jb2 L j).toNat (0,0))=true
    ·rw [if_pos ha]
     refine ⟨by omega,?_⟩
     rw [Int.toNat_natCast]
     by_cases hi:i<j
     ·have h1:=(jg1 L j i hi).2
      rw [jk4] at ha
      rw [jfo] at h1 ⊢
      omega
     ·have:i=j:=by omega
      subst this
      rw [jfo];omega
    ·rw [if_neg ha]
     refine ⟨by omega,?_⟩
     by_cases hi:i<j
     ·exact (jg1 L j i hi).2
     ·have:i=j:=by omega
      subst this
      exact ha
theorem jge {L:List (Int × Int)} {q:Nat} (h:q<L.length):L.getD q (0,0)∈L:=by
 simp [List.getD,List.getElem?_eq_getElem h]
theorem jj5 {L:List (Int × Int)} {p:Int × Int} (hp:p∈L):0<=jb2 L L.length/\(jb2 L L.length).toNat<L.length/\¬ jah p (L.getD (jb2 L L.length).toNat (0,0))=true:=by
 obtain ⟨i,hi,rfl⟩:=List.getElem_of_mem hp
 have h:=jg1 L L.length i hi
 have hb:=jh1 L L.length
 refine ⟨h.1,by omega,?_⟩
 have:=h.2
 rwa [show L.getD i (0,0)=L[i] by simp [List.getD,List.getElem?_eq_getElem hi]] at this
theorem jm4:jad []=(0,0)/\jc5 []=false:=by simp [jad,jc5,jb2]
theorem jeq {L:List (Int × Int)} (h:L≠[]):jc5 L=true/\jad L∈L/\∀ p∈L,¬ jah p (jad L)=true:=by
 obtain ⟨p,hp⟩:=List.exists_mem_of_ne_nil L h
 have h0:=jj5 hp
 have he:jad L=L.getD (jb2 L L.length).toNat (0,0):=by unfold jad;rw [if_neg (by omega)]
 refine ⟨by simp [jc5];exact h0.1,by rw [he];exact jge h0.2.1,fun p hp=>?_⟩
 rw [he]
 exact (jj5 hp).2.2
theorem jqx {L L':List (Int × Int)} (hp:L.Perm L') {p:Int × Int} (hm:p∈L') (hf:∀ r∈L',¬ jah r p=true):jc5 L=true/\jad L=p:=by
 have hL:p∈L:=hp.mem_iff.2 hm
 have h:=jeq (L:=L) (fun e=>by rw [e] at hL;simp at hL)
 exact ⟨h.1,jff (hf _ (hp.mem_iff.1 h.2.1)) (h.2.2 p hL)⟩
theorem jj3 {L:List (Int × Int)} {q:Nat} (h:q<L.length):L.Perm (L.getD q (0,0) :: L.eraseIdx q):=by
 have e:L.getD q (0,0)=L[q]:=by simp [List.getD,List.getElem?_eq_getElem h]
 rw [e]
 induction L generalizing q with
 | nil=>simp at h
 | cons a L ih =>
   cases q with
   | zero=>simp
   | succ q =>
     have hq:q<L.length:=by simpa using h
     simp only [List.getElem_cons_succ,List.eraseIdx_cons_succ]
     exact ((ih hq (by simp [List.getD,List.getElem?_eq_getElem hq])).cons a).trans (List.Perm.swap _ _ _)
theorem jgm {L:List (Int × Int)} {q:Nat} (h:q<L.length) {f:Int × Int->Bool} (hf:f (L.getD q (0,0))=false):(L.eraseIdx q).filter f=L.filter f:=by
 induction L generalizing q with
 | nil=>simp at h
 | cons a L ih =>
   cases q with
   | zero=>simp at hf;simp [hf]
   | succ q =>
     have hq:q<L.length:=by simpa using h
     have:f (L.getD q (0,0))=false:=by simpa using hf
     simp only [List.eraseIdx_cons_succ,List.filter_cons,ih hq this]
theorem jg2 (to:Int):∀ n (L:List (Int × Int)),L.length=n->(adv to L).2=L.filter (fun p=>decide (to<p.1))/\(adv to L).1.Perm (L.filter (fun p=>decide (p.1<=to)))/\qf2 (adv to L).1
 | 0,L,hn=>by
   have:L=[]:=List.length_eq_zero_iff.1 hn
   subst this
   exact ⟨rfl,.refl _,.nil⟩
 | n+1,L,hn=>by
   obtain ⟨p,hp⟩:=List.exists_mem_of_ne_nil L (fun e=>by rw [e] at hn;simp at hn)
   have h0:=jj5 hp
   obtain ⟨q,hq⟩:=Int.eq_ofNat_of_zero_le h0.1
   have hql:q<L.length:=by have:=h0.2.1;rw [hq,Int.toNat_natCast] at this;exact this
   have hmin:∀ r∈L,¬ jah r (L.getD q (0,0))=true:=fun r hr=>by have:=(jj5 hr).2.2;rwa [hq,Int.toNat_natCast] at this
   by_cases ht:to<(L.getD q (0,0)).1
   ·rw [jue (.inr (by rw [hq,Int.toNat_natCast];exact ht))]
    have hall:∀ r∈L,to<r.1:=fun r hr=>by have:=hmin r hr;rw [jfo] at this;omega
    refine ⟨?_,?_,.nil⟩
    ·exact (List.filter_eq_self.2 (fun r hr=>by simpa using hall r hr)).symm
    ·rw [List.filter_eq_nil_iff.2 (fun r hr=>by have:=hall r hr;simp;omega)]
   ·rw [qdd hq hql (by omega)]
    have hle:(L.eraseIdx q).length=n:=by rw [List.length_eraseIdx_of_lt hql];omega
    obtain ⟨i1,i2,i3⟩:=jg2 to n (L.eraseIdx q) hle
    have hpe:=jj3 hql
    refine ⟨?_,?_,?_⟩
    ·simp only
     rw [i1,jgm hql (by simpa using ht)]
    ·refine (i2.cons _).trans ?_
     refine List.Perm.trans ?_ (hpe.filter _).symm
     rw [List.filter_cons,if_pos (decide_eq_true (by omega))]
    ·refine List.pairwise_cons.2 ⟨fun r hr=>?_,i3⟩
     have:r∈L.eraseIdx q:=(List.mem_filter.1 (i2.mem_iff.1 hr)).1
     exact hmin r (List.mem_of_mem_eraseIdx this)
theorem jui {to:Int} {L:List (Int × Int)}:(adv to L).2=L.filter (fun p=>decide (to<p.1)):=(jg2 to _ L rfl).1
def jco (L:List (Int × Int)):Prop:=(L.map (·.2)).Nodup
theorem jh7 {L:List (Int × Int)} {id:Int}:0<=joq L id↔∃ p∈L,p.2=id:=by
 unfold joq
 cases h:L.findIdx? (fun p=>p.2==id) with
 | none =>
   rw [List.findIdx?_eq_none_iff] at h
   refine ⟨fun h'=>by simp at h',?_⟩
   rintro ⟨p,hp,rfl⟩
   have:=h p hp
   simp at this
 | some i =>
   rw [List.findIdx?_eq_some_iff_getElem] at h
   obtain ⟨hi,hp,_⟩:=h
   exact ⟨fun _=>⟨L[i],List.getElem_mem hi,by simpa using hp⟩,fun _=>by simp⟩
theorem qek {L:List (Int × Int)} {id:Int} (h:0<=joq L id):(joq L id).toNat<L.length/\(L.getD (joq L id).toNat (0,0)).2=id:=by
 unfold joq at h ⊢
 cases hf:L.findIdx? (fun p=>p.2==id) with
 | none=>rw [hf] at h;simp at h
 | some i =>
   rw [List.findIdx?_eq_some_iff_getElem] at hf
   obtain ⟨hi,hp,_⟩:=hf
   refine ⟨by simpa using hi,?_⟩
   simp [List.getD,List.getElem?_eq_getElem hi]
   simpa using hp
theorem jjs {L L':List (Int × Int)} (hp:L.Perm L') (h:jco L):jco L':=(hp.map _).nodup_iff.1 h
theorem jee {L:List (Int × Int)} (f:Int × Int->Bool) (h:jco L):jco (L.filter f):=List.Nodup.sublist (List.Sublist.map _ List.filter_sublist) h
theorem jmd {L:List (Int × Int)} {id:Int} (h:jco L):jbi L id=L.filter (fun p=>p.2 != id):=by
 unfold jbi
 by_cases hx:joq L id<0
 ·rw [if_pos hx]
  refine (List.filter_eq_self.2 fun p hp=>?_).symm
  have:p.2≠id:=fun e=>by have:=jh7.2 ⟨p,hp,e⟩;omega
  simpa using this
 ·rw [if_neg hx]
  obtain ⟨h1,h2⟩:=qek (show 0<=joq L id by omega)
  have hpe:=jj3 h1
  rw [← jgm h1 (f:=fun p=>p.2 != id) (by rw [h2];simp)]
  refine (List.filter_eq_self.2 fun p hp=>?_).symm
  have hn:=jjs hpe h
  unfold jco at hn
  rw [List.map_cons,List.nodup_cons,h2] at hn
  have:p.2≠id:=fun e=>hn.1 (List.mem_map.2 ⟨p,hp,e⟩)
  simpa using this
theorem jjb {now:Int} {L:List (Int × Int)} {id at':Int} (h:jco L):jco (jft now L id at'):=by
 unfold jft
 split
 ·exact h
 ·split
  ·exact h
  ·rename_i hx
   have hn:id ∉ L.map (·.2):=fun hm=>by
    obtain ⟨p,hp,e⟩:=List.mem_map.1 hm
    exact hx (jh7.2 ⟨p,hp,e⟩)
   have:jco ((at',id) :: L):=by unfold jco;rw [List.map_cons,List.nodup_cons];exact ⟨hn,h⟩
   exact jjs (by have:=List.perm_append_comm (l₁:=[(at',id)]) (l₂:=L);simpa using this) this
theorem jmq {L:List (Int × Int)} {id:Int} (h:jco L):jco (jbi L id):=by rw [jmd h];exact jee _ h
theorem jnh (L:List (Int × Int)) (id:Int):(jbi L id).length<=L.length:=by
 unfold jbi
 split
 ·omega
 ·exact List.length_eraseIdx_le _ _
structure Timers (PW:World->Nat->(Nat->Prop)->Int->List (Int × Int)->Prop):Prop where
 lt:∀ {w x own now L},PW w x own now L->∀ k,own k->k<w.heap.size
 keep:∀ {w w' x own now L},PW w x own now L->w.heap.size<=w'.heap.size->(∀ k,own k->w'.heap[k]?=w.heap[k]?)->PW w' x own now L
 advance:∀ {w x own now L} (to:Int),PW w x own now L->L.length * 16+16<=140737488351232 →
  Calls Tryz.prog 119 #[pt x 0,iv to] w fun e w'=>∃ out own',e=.returned (.tuple #[out,iv (qav now to)])/\w'.ownsRow w.heap.size 131 2 out (jho now to L).length (jas (jho now to L)) ∧
   (qav now to≠0->out=.slice none 0 0)/\PW w' x own' (jyx now to) (jur now to L)/\Same own w w'/\(∀ k,own' k->own k\/w.heap.size<=k)/\(∀ k,out.ownBlock=some k->¬ own' k)
theorem jak {w:World} {B n size R:Nat} {T U:TypeId} {v:Value} {xs:List Value} {C:Array Value} (h:w.ownsRow B T size v n xs) (hR:w.heap[R]?=some (.cells C U (0,0))) (hT:T≠U):v.ownBlock≠some R:=by
 intro e
 rcases h.2 with ⟨rfl,_⟩|⟨g,c,cur,rfl,_,hh,_⟩
 ·simp [Value.ownBlock] at e
 ·simp [Value.ownBlock] at e
  subst e
  rw [hR] at hh
  simp at hh
  exact hT hh.2.symm
theorem jac {w w':World} {B n size:Nat} {T:TypeId} {v:Value} {xs:List Value} (h:w.ownsRow B T size v n xs) (hk:∀ k,v.ownBlock=some k->w'.heap[k]?=w.heap[k]?):w'.ownsRow B T size v n xs:=by
 refine ⟨h.1,h.2.imp id ?_⟩
 rintro ⟨g,cap,cur,hv,hg,hh,hr⟩
 exact ⟨g,cap,cur,hv,hg,(hk g (by rw [hv];rfl)).trans hh,hr⟩
theorem jrm {w:World} {B B' n size:Nat} {T:TypeId} {v:Value} {xs:List Value} (h:w.ownsRow B T size v n xs) (hB:B'<=B):w.ownsRow B' T size v n xs:=by
 refine ⟨h.1,h.2.imp id ?_⟩
 rintro ⟨g,cap,cur,hv,hg,hr⟩
 exact ⟨g,cap,cur,hv,by omega,hr⟩
def jex (PW:World->Nat->(Nat->Prop)->Int->List (Int × Int)->Prop) (w w':World) (x:Nat) (own:Nat->Prop) (now:Int) (L:List (Int × Int)):Prop :=
 ∃ own',PW w' x own' now L/\Same own w w'/\∀ k,own' k->own k\/w.heap.size<=k
structure TimersAll (PW:World->Nat->(Nat->Prop)->Int->List (Int × Int)->Prop):Prop extends Timers PW where
 new:∀ (w:World) (now:Int),Calls Tryz.prog 55 #[iv now] w fun e w'=>∃ x own,e=.returned (pt x 0)/\PW w' x own now []/\(∀ k,own k->w.heap.size<=k)/\Below w.heap.size w w'
 set:∀ {w x own now L} (id at':Int),PW w x own now L->L.length * 16+16<=140737488351232 →
  Calls Tryz.prog 75 #[pt x 0,iv id,iv at'] w fun e w'=>e=.returned (iv (qd9 now L id at'))/\jex PW w w' x own now (jft now L id at')
 unset:∀ {w x own now L} (id:Int),PW w x own now L->L.length * 16+16<=140737488351232 →
  Calls Tryz.prog 77 #[pt x 0,iv id] w fun e w'=>e=.returned (iv (jq6 L id))/\jex PW w w' x own now (jbi L id)
 first:∀ {w x own now L},PW w x own now L->L.length * 16+16<=140737488351232 →
  Calls Tryz.prog 79 #[pt x 0] w fun e w'=>e=.returned (.tuple #[.agg #[iv (jad L).1,iv (jad L).2],.bool (jc5 L)])/\jex PW w w' x own now L
 size:∀ {w x own now L},PW w x own now L->L.length * 16+16<=140737488351232 →
  Calls Tryz.prog 81 #[pt x 0] w fun e w'=>e=.returned (iv L.length)/\jex PW w w' x own now L
theorem Same.trans {o1 o2 o:Nat->Prop} {w w1 w2:World} (h1:Same o1 w w1) (h2:Same o2 w1 w2) (h:∀ k,k<w.heap.size->o1 k\/o2 k->o k):Same o w w2 :=
 ⟨h2.os.trans h1.os,h2.tape.trans h1.tape,h2.output.trans h1.output,Nat.le_trans h1.size h2.size,fun k hk hn=>(h2.block k (Nat.lt_of_lt_of_le hk h1.size) (fun e=>hn (h k hk (.inr e)))).trans (h1.block k hk (fun e=>hn (h k hk (.inl e))))⟩
abbrev Ent:=(Int × Int) × Int
def srt (l:List Ent):Prop:=l.Pairwise (fun x y=>jah x.1 y.1=true)
theorem jea (a b:Int × Int):jah a b=true↔a.1<b.1\/(a.1=b.1/\a.2<b.2):=jk4
theorem jdq {a b:Int × Int} (h:jah a b=true):jah b a=false:=by
 rw [← Bool.not_eq_true,jea];rw [jea] at h;omega
theorem jbl {a b:Int × Int} (h:jah a b=true):a≠b:=by
 rintro rfl;rw [jea] at h;omega
theorem jdb {a b c:Int × Int} (h1:jah a b=true) (h2:jah b c=true):jah a c=true:=by
 rw [jea] at *;omega
theorem jif {a b:Int × Int} (h1:jah a b=false) (h2:jah b a=false):a=b :=
 jff (by simp [h1]) (by simp [h2])
theorem jkp (a:Int × Int):jah a a=false:=by
 rw [← Bool.not_eq_true,jea];omega
theorem jbp {A B:List Ent} {x:Ent}:srt (A++x :: B)↔srt A/\srt B/\(∀ a∈A,jah a.1 x.1=true)/\(∀ b∈B,jah x.1 b.1=true):=by
 unfold srt
 rw [List.pairwise_append,List.pairwise_cons]
 constructor
 ·rintro ⟨h1,⟨h2,h3⟩,h4⟩
  exact ⟨h1,h3,fun a ha=>h4 a ha x (by simp),h2⟩
 ·rintro ⟨h1,h2,h3,h4⟩
  refine ⟨h1,⟨h4,h2⟩,fun a ha b hb=>?_⟩
  rcases List.mem_cons.1 hb with rfl|hb
  ·exact h3 a ha
  ·exact jdb (h3 a ha) (h4 b hb)
def jbb (k:Int × Int) (v:Int) (l:List Ent):List Ent:=l.filter (fun e=>jah e.1 k)++(k,v) :: l.filter (fun e=>jah k e.1)
def jcp (k:Int × Int) (l:List Ent):List Ent:=l.filter (fun e=>e.1 != k)
def jb0 (k:Int × Int) (l:List Ent):Option Int:=(l.find? (fun e=>e.1==k)).map (·.2)
theorem jgh {α:Type} {p:α->Bool} {l:List α} (h:∀ a∈l,p a=false):l.filter p=[]:=by
 rw [List.filter_eq_nil_iff];intro a ha;simp [h a ha]
theorem jbs {α:Type} {p:α->Bool} {l:List α} (h:∀ a∈l,p a=true):l.filter p=l:=by
 rw [List.filter_eq_self];exact h
theorem jk6 {α:Type} {p:α->Bool} {l:List α} (h:∀ a∈l,p a=false):l.find? p=none:=by
 rw [List.find?_eq_none];intro a ha;simp [h a ha]
theorem qcr {A B:List Ent} {x:Ent} {k:Int × Int} {v:Int} (hs:srt (A++x :: B)) (h:jah k x.1=true):jbb k v (A++x :: B)=jbb k v A++x :: B:=by
 obtain ⟨_,_,_,hB⟩:=jbp.1 hs
 have hb:∀ b∈x :: B,jah k b.1=true:=fun b hb=>by
  rcases List.mem_cons.1 hb with rfl|hb
  ·exact h
  ·exact jdb h (hB b hb)
 unfold jbb
 rw [List.filter_append,List.filter_append,jgh (l:=x :: B) (fun b m=>jdq (hb b m)),jbs (l:=x :: B) hb]
 simp
theorem jyf {A B:List Ent} {x:Ent} {k:Int × Int} {v:Int} (hs:srt (A++x :: B)) (h:jah x.1 k=true):jbb k v (A++x :: B)=A++x :: jbb k v B:=by
 obtain ⟨_,_,hA,_⟩:=jbp.1 hs
 have ha:∀ a∈A,jah a.1 k=true:=fun a m=>jdb (hA a m) h
 unfold jbb
 rw [List.filter_append,List.filter_append,jbs ha,jgh (l:=A) (p:=fun e=>jah k e.1) (fun b m=>jdq (ha b m))]
 rw [List.filter_cons_of_pos (by simpa using h),List.filter_cons_of_neg (by simpa using jdq h)]
 simp
theorem jtv {A B:List Ent} {x:Ent} {k:Int × Int} {v:Int} (hs:srt (A++x :: B)) (h:x.1=k):jbb k v (A++x :: B)=A++(k,v) :: B:=by
 obtain ⟨_,_,hA,hB⟩:=jbp.1 hs
 subst h
 unfold jbb
 rw [List.filter_append,List.filter_append,jbs hA,jgh (l:=A) (p:=fun e=>jah x.1 e.1) (fun b m=>jdq (hA b m))]
 rw [List.filter_cons_of_neg (by simp [jkp]),List.filter_cons_of_neg (by simp [jkp]),jgh (l:=B) (fun b m=>jdq (hB b m)),jbs hB]
 simp
theorem qcj {A B:List Ent} {x:Ent} {k:Int × Int} (hs:srt (A++x :: B)) (h:jah k x.1=true):jcp k (A++x :: B)=jcp k A++x :: B:=by
 obtain ⟨_,_,_,hB⟩:=jbp.1 hs
 unfold jcp
 rw [List.filter_append,jbs (l:=x :: B)]
 intro b hb
 rcases List.mem_cons.1 hb with rfl|hb
 ·simpa using (jbl h).symm
 ·simpa using (jbl (jdb h (hB b hb))).symm
theorem qam {A B:List Ent} {x:Ent} {k:Int × Int} (hs:srt (A++x :: B)) (h:jah x.1 k=true):jcp k (A++x :: B)=A++x :: jcp k B:=by
 obtain ⟨_,_,hA,_⟩:=jbp.1 hs
 unfold jcp
 rw [List.filter_append,jbs (l:=A),List.filter_cons_of_pos (by simpa using jbl h)]
 intro a ha
 simpa using jbl (jdb (hA a ha) h)
theorem joy {A B:List Ent} {x:Ent} {k:Int × Int} (hs:srt (A++x :: B)) (h:x.1=k):jcp k (A++x :: B)=A++B:=by
 obtain ⟨_,_,hA,hB⟩:=jbp.1 hs
 subst h
 unfold jcp
 rw [List.filter_append,jbs (l:=A) (fun a m=>by simpa using jbl (hA a m)),List.filter_cons_of_neg (by simp),jbs (l:=B) (fun b m=>by simpa using (jbl (hB b m)).symm)]
theorem qd1 {A B:List Ent} {x:Ent} {k:Int × Int} (hs:srt (A++x :: B)) (h:jah k x.1=true):jb0 k (A++x :: B)=jb0 k A:=by
 obtain ⟨_,_,_,hB⟩:=jbp.1 hs
 unfold jb0
 rw [List.find?_append,jk6 (l:=x :: B)]
 ·simp
 ·intro b hb
  rcases List.mem_cons.1 hb with rfl|hb
  ·simpa using (jbl h).symm
  ·simpa using (jbl (jdb h (hB b hb))).symm
theorem qae {A B:List Ent} {x:Ent} {k:Int × Int} (hs:srt (A++x :: B)) (h:jah x.1 k=true):jb0 k (A++x :: B)=jb0 k B:=by
 obtain ⟨_,_,hA,_⟩:=jbp.1 hs
 unfold jb0
 rw [List.find?_append,jk6 (l:=A),List.find?_cons_of_neg (by simpa using jbl h)]
 ·simp
 ·intro a ha
  simpa using jbl (jdb (hA a ha) h)
theorem qbr {A B:List Ent} {x:Ent} {k:Int × Int} (hs:srt (A++x :: B)) (h:x.1=k):jb0 k (A++x :: B)=some x.2:=by
 obtain ⟨_,_,hA,_⟩:=jbp.1 hs
 subst h
 unfold jb0
 rw [List.find?_append,jk6 (l:=A),List.find?_cons_of_pos (by simp)]
 ·simp
 ·intro a ha
  simpa using jbl (hA a ha)
theorem jk2 {l:List Ent} (k:Int × Int) (h:srt l):srt (jcp k l):=List.Pairwise.sublist List.filter_sublist h
theorem jgd {l:List Ent} (k:Int × Int) (v:Int) (h:srt l):srt (jbb k v l):=by
 unfold jbb
 rw [jbp]
 refine ⟨List.Pairwise.sublist List.filter_sublist h,List.Pairwise.sublist List.filter_sublist h,fun a ha=>?_,fun b hb=>?_⟩
 ·exact (List.mem_filter.1 ha).2
 ·exact (List.mem_filter.1 hb).2
theorem je5 {l:List Ent} {k:Int × Int}:jb0 k l=none↔∀ e∈l,e.1≠k:=by
 unfold jb0;simp [List.find?_eq_none]
theorem jg3 {l:List Ent} {k:Int × Int} {v:Int} (h:jb0 k l=some v):(k,v)∈l:=by
 unfold jb0 at h
 rw [Option.map_eq_some_iff] at h
 obtain ⟨e,he,rfl⟩:=h
 have:=List.find?_some he
 simp at this
 rw [← this]
 exact List.mem_of_find?_eq_some he
theorem ju4 {l:List Ent} {k:Int × Int} {v:Int} (hn:jb0 k l=none):(jbb k v l).Perm ((k,v) :: l):=by
 rw [je5] at hn
 unfold jbb
 refine List.perm_middle.trans (List.Perm.cons _ ?_)
 have:l.filter (fun e=>jah k e.1)=l.filter (fun e=>!jah e.1 k):=by
  apply List.filter_congr
  intro e he
  cases h1:jah e.1 k
  ·cases h2:jah k e.1
   ·exact absurd (jif h1 h2) (hn e he)
   ·rfl
  ·simp [jdq h1]
 rw [this]
 exact List.filter_append_perm _ l
inductive Tr where
 | leaf:Tr
 | node (p:Nat) (l:Tr) (k:Int × Int) (v h:Int) (r:Tr):Tr
def Tr.addr:Tr->Option Addr
 | .leaf=>none
 | .node p ..=>some (aq p 0)
theorem Tr.addr_leaf:Tr.leaf.addr=none:=rfl
theorem Tr.addr_node (p:Nat) (l r:Tr) (k:Int × Int) (v h:Int):(Tr.node p l k v h r).addr=some (aq p 0):=rfl
abbrev Tr.ptr (t:Tr):Value:=.pointer t.addr
def Tr.toL:Tr->List Ent
 | .leaf=>[]
 | .node _ l k v _ r=>l.toL++(k,v) :: r.toL
def Tr.has:Tr->Nat->Prop
 | .leaf,_=>False
 | .node p l _ _ _ r,n=>n=p\/l.has n\/r.has n
def Tr.at (w:World):Tr->Prop
 | .leaf=>True
 | .node p l k v h r=>w.heap[p]?=some (.cells #[l.ptr,r.ptr,iv k.1,iv k.2,iv v,iv h] 211 (0,0))/\l.at w/\r.at w
theorem Tr.at_lt {w:World} {n:Nat}:∀ {t:Tr},t.at w->t.has n->n<w.heap.size
 | .leaf,_,hh=>hh.elim
 | .node _ _ _ _ _ _,⟨hp,hl,hr⟩,hh=>by
   rcases hh with rfl|hh|hh
   ·exact (blt hp)
   ·exact at_lt hl hh
   ·exact at_lt hr hh
theorem Tr.at_keep {w w':World}:∀ {t:Tr},t.at w->(∀ n,t.has n->w'.heap[n]?=w.heap[n]?)->t.at w'
 | .leaf,_,_=>trivial
 | .node p _ _ _ _ _,⟨hp,hl,hr⟩,hk=>⟨(hk p (.inl rfl)).trans hp,at_keep hl (fun n hn=>hk n (.inr (.inl hn))),at_keep hr (fun n hn=>hk n (.inr (.inr hn)))⟩
theorem Tr.at_below {w w':World} {t:Tr} (h:t.at w) (hb:Below w.heap.size w w'):t.at w':=t.at_keep h (fun n hn=>hb.block n (t.at_lt h hn))
theorem Tr.at_type {w:World} {n:Nat}:∀ {t:Tr},t.at w->t.has n->∃ C,w.heap[n]?=some (.cells C 211 (0,0))
 | .leaf,_,hh=>hh.elim
 | .node _ _ _ _ _ _,⟨hp,hl,hr⟩,hh=>by
   rcases hh with rfl|hh|hh
   ·exact ⟨_,hp⟩
   ·exact at_type hl hh
   ·exact at_type hr hh
def mk (w w':World) (S:Nat->Prop) (l:List Ent) (t:Tr):Prop:=t.at w'/\t.toL=l/\Below w.heap.size w w'/\∀ n,t.has n->S n\/w.heap.size<=n
theorem jen (a b:Int × Int) (w:World) :
 Calls Tryz.prog 129 #[.agg #[iv a.1,iv a.2],.agg #[iv b.1,iv b.2]] w fun e w'=>e=.returned (.bool (jah a b))/\Below w.heap.size w w':=by
 obtain ⟨a1,a2⟩:=a
 obtain ⟨b1,b2⟩:=b
 simp only
 by_cases h1:a1=b1
 ·subst h1
  go_enter Tryz.func129,Tryz.ntmps129
  go_wp2
  go_ret
  exact ⟨by simp [jah],bL⟩
 ·have d2:(a1==b1)=false:=by simpa using h1
  go_enter Tryz.func129,Tryz.ntmps129
  go_wp2
  go_ret
  exact ⟨by simp [jah,d2],bL⟩
def Tr.height:Tr->Int
 | .leaf=>0
 | .node _ _ _ _ h _=>h
theorem jc8 {w:World} {R:Nat} {c0 c1 c2 c3 c4 c5:Value} {T:TypeId} (h:w.heap[R]?=some (.cells #[c0,c1,c2,c3,c4,c5] T (0,0))) :
 w.cell? (aq R 0)=some c0/\w.cell? (aq R 1)=some c1/\w.cell? (aq R 2)=some c2/\w.cell? (aq R 3)=some c3/\w.cell? (aq R 4)=some c4/\w.cell? (aq R 5)=some c5 :=
 ⟨by rw [Joins.cell_of_block h];rfl,by rw [Joins.cell_of_block h];rfl,by rw [Joins.cell_of_block h];rfl,by rw [Joins.cell_of_block h];rfl,by rw [Joins.cell_of_block h];rfl,by rw [Joins.cell_of_block h];rfl⟩
theorem jkn (t:Tr) (w:World) (h:t.at w) :
 Calls Tryz.prog 179 #[t.ptr] w fun e w'=>e=.returned (iv t.height)/\w=w':=by
 cases t with
 | leaf =>
   simp only [Tr.ptr,Tr.addr,Tr.height]
   go_enter Tryz.func179,Tryz.ntmps179
   go_wp2
   go_ret
   exact ⟨rfl,rfl⟩
 | node p l k v hh r =>
   obtain ⟨c0,c1,c2,c3,c4,c5⟩:=jc8 h.1
   simp only [Tr.ptr,Tr.addr,Tr.height]
   clear h
   go_enter Tryz.func179,Tryz.ntmps179
   go_wp2
   go_ret
   exact ⟨rfl,rfl⟩
theorem Tr.at_alloc {t:Tr} {w:World} (h:t.at w) (O:Obj):t.at (w.alloc O):=t.at_below h ((Below.refl _ _).alloc (Nat.le_refl _) _)
theorem qdo {w w1:World} {l r:Tr} {k:Int × Int} {v h:Int} (hl:l.at w) (hr:r.at w) (hb:Below w.heap.size w w1) {O:Obj} (hO:O=.cells #[l.ptr,r.ptr,iv k.1,iv k.2,iv v,iv h] 211) :
 mk w (w1.alloc O) (fun n=>l.has n\/r.has n) (l.toL++(k,v) :: r.toL) (.node w1.heap.size l k v h r):=by
 have hb2:Below w.heap.size w (w1.alloc O):=hb.alloc hb.size _
 refine ⟨⟨?_,l.at_below hl hb2,r.at_below hr hb2⟩,rfl,hb2,?_⟩
 ·rw [heap_alloc_new,hO]
 ·rintro n (rfl|hn)
  ·exact .inr hb.size
  ·exact .inl hn
theorem qck (l r:Tr) (k:Int × Int) (v:Int) (w:World) (hl:l.at w) (hr:r.at w) :
 Calls Tryz.prog 164 #[l.ptr,.agg #[iv k.1,iv k.2,iv v],r.ptr] w fun e w'=>∃ t,e=.returned t.ptr/\mk w w' (fun n=>l.has n\/r.has n) (l.toL++(k,v) :: r.toL) t:=by
 have HH:Hid (∀ (O:Obj) (u:Value),u=l.ptr\/u=r.ptr->Calls Tryz.prog 179 #[u] (w.alloc O) fun e w'=>(∃ a,e=.returned (iv a))/\w.alloc O=w'):=by
  rintro O u (rfl|rfl)
  ·exact (jkn l _ (l.at_alloc hl O)).mono (by rintro e w' ⟨rfl,rfl⟩;exact ⟨⟨_,rfl⟩,rfl⟩)
  ·exact (jkn r _ (r.at_alloc hr O)).mono (by rintro e w' ⟨rfl,rfl⟩;exact ⟨⟨_,rfl⟩,rfl⟩)
 have HM:Hid (∀ (O O':Obj) (h:Int),O'=.cells #[l.ptr,r.ptr,iv k.1,iv k.2,iv v,iv h] 211->mk w ((w.alloc O).alloc O') (fun n=>l.has n\/r.has n) (l.toL++(k,v) :: r.toL) (.node (w.heap.size+1) l k v h r)):=by
  intro O O' h hO
  have:=qdo (w:=w) (w1:=w.alloc O) hl hr ((Below.refl _ _).alloc (Nat.le_refl _) _) hO
  simpa using this
 clear hl hr
 simp only [Tr.ptr] at HH HM ⊢
 generalize l.addr=lp at HH HM
 generalize r.addr=rp at HH HM
 generalize k.1=k1 at HM
 generalize k.2=k2 at HM
 generalize (l.toL++(k,v) :: r.toL)=LL at HM
 go_enter Tryz.func164,Tryz.ntmps164
 go_wp2_with (go_at_call 179;refine (HH.out _ _ ?_).mono ?_;(first|exact .inl rfl|exact .inr rfl);rintro e w1 ⟨⟨a,rfl⟩,rfl⟩)
 all_goals (go_ret;exact ⟨_,rfl,HM.out _ _ _ rfl⟩)
section
theorem Tr.at_unique {w:World}:∀ {t t':Tr},t.at w->t'.at w->t.addr=t'.addr->t=t'
 | .leaf,.leaf,_,_,_=>rfl
 | .leaf,.node ..,_,_,e=>by simp [Tr.addr] at e
 | .node ..,.leaf,_,_,e=>by simp [Tr.addr] at e
 | .node p l k v h r,.node p' l' k' v' h' r',⟨a1,a2,a3⟩,⟨b1,b2,b3⟩,e=>by
   simp only [Tr.addr,Option.some.injEq,Addr.mk.injEq,and_true] at e
   subst e
   rw [a1] at b1
   simp only [Option.some.injEq,Obj.cells.injEq,Array.mk.injEq,List.cons.injEq,Value.pointer.injEq,Value.int.injEq,and_true,true_and] at b1
   obtain ⟨e1,e2,e3,e4,e5,e6⟩:=b1
   have hl:=Tr.at_unique a2 b2 e1
   have hr:=Tr.at_unique a3 b3 e2
   subst hl hr e5 e6
   have:k=k':=Prod.ext e3 e4
   subst this
   rfl
def Tr.size:Tr->Nat
 | .leaf=>0
 | .node _ l _ _ _ r=>l.size+r.size+1
open Classical in
noncomputable def sizeAt (w:World) (v:Value):Nat:=if h:∃ t:Tr,t.at w/\v=.pointer t.addr then (Classical.choose h).size else 0
theorem jgo {w:World} {t:Tr} (h:t.at w):sizeAt w (.pointer t.addr)=t.size:=by
 have hx:∃ t':Tr,t'.at w/\Value.pointer t.addr=.pointer t'.addr:=⟨t,h,rfl⟩
 unfold sizeAt
 rw [dif_pos hx]
 have hc:=Classical.choose_spec hx
 have:=Tr.at_unique h hc.1 (by simpa using hc.2)
 rw [← this]
def jf2 (t:Tr):Ent:=t.toL.headD ((0,0),0)
theorem jy0 (p:Nat) (k:Int × Int) (v h:Int) (r:Tr):jf2 (.node p .leaf k v h r)=(k,v):=rfl
theorem jz6 (p q:Nat) (k lk:Int × Int) (v h lv lh:Int) (ll lr r:Tr):jf2 (.node p (.node q ll lk lv lh lr) k v h r)=jf2 (.node q ll lk lv lh lr):=by
 simp only [jf2,Tr.toL]
 cases ll.toL<;>simp
theorem jmg (p:Nat) (l r:Tr) (k:Int × Int) (v h:Int) (w:World) (ha:Tr.at w (.node p l k v h r)) :
 Calls Tryz.prog 144 #[pt p 0] w fun e w'=>e=.returned (.agg #[iv (jf2 (.node p l k v h r)).1.1,iv (jf2 (.node p l k v h r)).1.2,iv (jf2 (.node p l k v h r)).2])/\Below w.heap.size w w':=by
 generalize hF:jf2 (.node p l k v h r)=F
 have HA:Hid (Tr.at w (.node p l k v h r)/\jf2 (.node p l k v h r)=F):=⟨ha,hF⟩
 clear ha hF
 go_enter Tryz.func144,Tryz.ntmps144
 go_wp2_with fail
 go_loop [0] (fun n=>∃ p l k v h r,n=pt p 0/\Hid (Tr.at w (.node p l k v h r)/\jf2 (.node p l k v h r)=F)) (fun n=>sizeAt w n)
 case atStart=>exact ⟨p,l,k,v,h,r,rfl,HA⟩
 case round =>
  obtain ⟨p,l,k,v,h,r,rfl,HB⟩:=hrel
  obtain ⟨hp,h1,h2⟩:=HB.out.1
  have hpw:p<w.heap.size:=(blt hp)
  obtain ⟨c0,c1,c2,c3,c4,-⟩:=jc8 hp
  cases l with
  | leaf =>
    have hF:=HB.out.2
    rw [jy0] at hF
    subst hF
    simp only [Tr.ptr,Tr.addr_leaf] at c0
    clear hp h1 h2 HA
    go_wp2
    refine bodyPost_ret (v:=.agg #[iv k.1,iv k.2,iv v]) (by simp [results,Tryz.results144,go_sem]) rfl ⟨rfl,?_⟩
    exact bL
  | node q ll lk lv lh lr =>
    have HC:Hid (Tr.at w (.node q ll lk lv lh lr)/\jf2 (.node q ll lk lv lh lr)=F):=⟨h1,(jz6 ..).symm.trans HB.out.2⟩
    have HM:Hid (sizeAt w (pt q 0)<sizeAt w (pt p 0)):=by
     have e1:=jgo HB.out.1
     have e2:=jgo h1
     simp only [Tr.addr_node,Tr.size] at e1 e2
     rw [Hid,e1,e2]
     omega
    simp only [Tr.ptr,Tr.addr_node] at c0
    clear hp h1 h2 HA HB
    go_wp2
    go_round
    case rel=>exact ⟨_,_,_,_,_,_,rfl,HC⟩
    case measure=>exact HM.out
theorem jdn {w:World} {R:Nat} {c0 c1:Value} {T:TypeId} (h:w.heap[R]?=some (.cells #[c0,c1] T (0,0))):w.cell? (aq R 0)=some c0/\w.cell? (aq R 1)=some c1:=jiq h
theorem Tr.toL_node (p:Nat) (l r:Tr) (k:Int × Int) (v h:Int):(Tr.node p l k v h r).toL=l.toL++(k,v) :: r.toL:=rfl
theorem jcu (x o:Nat) (t:Tr) (k1 k2:Int) (w:World) (hx:w.cell? (aq x o)=some (.pointer t.addr)) (ht:t.at w) (hs:srt t.toL) :
 Calls Tryz.prog 95 #[pt x o,.agg #[iv k1,iv k2]] w fun e w'=>e=.returned (.tuple #[iv ((jb0 (k1,k2) t.toL).getD 0),.bool (jb0 (k1,k2) t.toL).isSome])/\Below w.heap.size w w':=by
 generalize hG:jb0 (k1,k2) t.toL=G
 have HA:Hid (t.at w/\srt t.toL/\jb0 (k1,k2) t.toL=G):=⟨ht,hs,hG⟩
 have hxw:x<w.heap.size:=World.block_lt_of_cell? w _ hx
 clear ht hs hG
 go_enter Tryz.func95,Tryz.ntmps95
 go_wp2_with fail
 go_loopw [6] (fun n wr=>∃ t:Tr,n=.pointer t.addr/\Hid (t.at w/\srt t.toL/\jb0 (k1,k2) t.toL=G)/\Below w.heap.size w wr/\wr.heap[w.heap.size]?=some (.cells #[iv k1,iv k2] 178 (0,0))) (fun n _=>sizeAt w n)
 case atStart=>exact ⟨t,rfl,HA,bL,heap_alloc_new _ _⟩
 case round =>
  obtain ⟨t,rfl,HB,hbel,hkey⟩:=hrel
  have hsz:w.heap.size<wr.heap.size:=(blt hkey)
  cases t with
  | leaf =>
    have hG:=HB.out.2.2
    simp only [Tr.toL,jb0,List.find?_nil,Option.map_none] at hG
    subst hG
    simp only [Tr.addr_leaf]
    clear HA HB
    go_wp2
    go_ret2
    exact ⟨rfl,hbel⟩
  | node p l k v h r =>
    obtain ⟨⟨hp,h1,h2⟩,hs,hG⟩:=HB.out
    rw [Tr.toL_node] at hs hG
    have hpw:p<w.heap.size:=(blt hp)
    obtain ⟨z0,z1,z2,z3,z4,-⟩:=jc8 hp
    simp only [Tr.ptr] at z0 z1
    have HL:Hid (jah (k1,k2) k=true->l.at w/\srt l.toL/\jb0 (k1,k2) l.toL=G):=fun ha=>⟨h1,(jbp.1 hs).1,by rw [← hG,qd1 hs ha]⟩
    have HR:Hid (jah k (k1,k2)=true->r.at w/\srt r.toL/\jb0 (k1,k2) r.toL=G):=fun ha=>⟨h2,(jbp.1 hs).2.1,by rw [← hG,qae hs ha]⟩
    have HE:Hid (jah (k1,k2) k=false->jah k (k1,k2)=false->G=some v):=fun ha hb=>by rw [← hG,qbr hs (jif hb ha)]
    have HM:Hid (sizeAt w (.pointer l.addr)<sizeAt w (pt p 0)/\sizeAt w (.pointer r.addr)<sizeAt w (pt p 0)):=by
     have e1:=jgo HB.out.1
     have e2:=jgo h1
     have e3:=jgo h2
     simp only [Tr.addr_node,Tr.size] at e1
     rw [Hid,e1,e2,e3]
     omega
    obtain ⟨a1,a2⟩:=k
    have HB1:Hid (∀ W,Below w.heap.size w W->Calls Tryz.prog 129 #[.agg #[iv k1,iv k2],.agg #[iv a1,iv a2]] W fun e w'=>e=.returned (.bool (jah (k1,k2) (a1,a2)))/\Below W.heap.size W w'):=fun W _=>jen (k1,k2) (a1,a2) W
    have HB2:Hid (∀ W,Below w.heap.size w W->Calls Tryz.prog 129 #[.agg #[iv a1,iv a2],.agg #[iv k1,iv k2]] W fun e w'=>e=.returned (.bool (jah (a1,a2) (k1,k2)))/\Below W.heap.size W w'):=fun W _=>jen (a1,a2) (k1,k2) W
    obtain ⟨q0,q1⟩:=jdn hkey
    have c0:=(hbel.cell (p:=(aq p 0)) hpw).trans z0
    have c1:=(hbel.cell (p:=(aq p 1)) hpw).trans z1
    have c2:=(hbel.cell (p:=(aq p 2)) hpw).trans z2
    have c3:=(hbel.cell (p:=(aq p 3)) hpw).trans z3
    have c4:=(hbel.cell (p:=(aq p 4)) hpw).trans z4
    have hpwr:p<wr.heap.size:=Nat.lt_of_lt_of_le hpw hbel.size
    simp only [Tr.addr_node]
    generalize jah (k1,k2) (a1,a2)=ah at HL HE HB1
    generalize jah (a1,a2) (k1,k2)=ah2 at HR HE HB2
    clear hp h1 h2 hs hG HA HB
    go_wp2_with fail
    go_region_held3 (fun w'=>w'.cell? (aq w.heap.size 0)=some (iv k1)/\w'.cell? (aq w.heap.size 1)=some (iv k2)/\w'.cell? (aq p 2)=some (iv a1)/\w'.cell? (aq p 3)=some (iv a2)) (simp [go_sem, *])
     (first|(go_at_call 129;refine (HB1.out _ bL).mono ?_;rintro e w1 ⟨rfl,b⟩
             have e0:=(b.cell (p:=(aq w.heap.size 0)) (by simp<;>omega)).trans (by simp [go_sem, *]:_=some (iv k1))
             have e1:=(b.cell (p:=(aq w.heap.size 1)) (by simp<;>omega)).trans (by simp [go_sem, *]:_=some (iv k2))
             have e2:=(b.cell (p:=(aq p 2)) (by simp<;>omega)).trans (by simp [go_sem, *]:_=some (iv a1))
             have e3:=(b.cell (p:=(aq p 3)) (by simp<;>omega)).trans (by simp [go_sem, *]:_=some (iv a2))))
    have hb1:Below w.heap.size w w1:=Below.trans (show Below w.heap.size w _ from bL) (b.mono (by simp;omega))
    have hk1:w1.heap[w.heap.size]?=some (.cells #[iv k1,iv k2] 178 (0,0)):=(b.block _ (by simp;omega)).trans hkey
    have d0:=(hb1.cell (p:=(aq p 0)) hpw).trans z0
    have d1:=(hb1.cell (p:=(aq p 1)) hpw).trans z1
    have d2:=(hb1.cell (p:=(aq p 2)) hpw).trans z2
    have d3:=(hb1.cell (p:=(aq p 3)) hpw).trans z3
    have d4:=(hb1.cell (p:=(aq p 4)) hpw).trans z4
    have hpw1:p<w1.heap.size:=Nat.lt_of_lt_of_le hpw hb1.size
    have hsz1:w.heap.size<w1.heap.size:=(blt hk1)
    obtain ⟨r0,r1⟩:=jdn hk1
    clear b c0 c1 c2 c3 c4 hbel hkey q0 q1 e0 e1 e2 e3
    cases ah
    ·go_wp2_with fail
     go_region_held3 (fun w'=>w'.cell? (aq w.heap.size 0)=some (iv k1)/\w'.cell? (aq w.heap.size 1)=some (iv k2)/\w'.cell? (aq p 2)=some (iv a1)/\w'.cell? (aq p 3)=some (iv a2)) (simp [go_sem, *])
      (first|(go_at_call 129;refine (HB2.out _ bL).mono ?_;rintro e w2 ⟨rfl,b⟩
              have e0:=(b.cell (p:=(aq w.heap.size 0)) (by simp<;>omega)).trans (by simp [go_sem, *]:_=some (iv k1))
              have e1:=(b.cell (p:=(aq w.heap.size 1)) (by simp<;>omega)).trans (by simp [go_sem, *]:_=some (iv k2))
              have e2:=(b.cell (p:=(aq p 2)) (by simp<;>omega)).trans (by simp [go_sem, *]:_=some (iv a1))
              have e3:=(b.cell (p:=(aq p 3)) (by simp<;>omega)).trans (by simp [go_sem, *]:_=some (iv a2))))
     have hb2:Below w.heap.size w w2:=Below.trans (show Below w.heap.size w _ from bL) (b.mono (by simp;omega))
     have hk2:w2.heap[w.heap.size]?=some (.cells #[iv k1,iv k2] 178 (0,0)):=(b.block _ (by simp;omega)).trans hk1
     have f1:=(hb2.cell (p:=(aq p 1)) hpw).trans z1
     have f4:=(hb2.cell (p:=(aq p 4)) hpw).trans z4
     have hpw2:p<w2.heap.size:=Nat.lt_of_lt_of_le hpw hb2.size
     clear b d0 d1 d2 d3 d4 r0 r1 hb1 hk1 e0 e1 e2 e3 z0 z1 z2 z3 z4
     cases ah2
     ·have hG:G=some v:=by simpa using HE.out
      subst hG
      go_wp2
      go_ret2
      exact ⟨rfl,hb2⟩
     ·go_wp2
      go_roundw
      case rel=>exact ⟨r,rfl,HR.out rfl,hb2,hk2⟩
      case measure=>exact HM.out.2
    ·go_wp2
     go_roundw
     case rel=>exact ⟨l,rfl,HL.out rfl,hb1,hk1⟩
     case measure=>exact HM.out.1
end
end Go.Proofs.YtfhncfghblkgeaaGreat
