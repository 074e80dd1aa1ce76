import Derived.Test.YtfhncfghblkgeaaGreatL00
set_option maxRecDepth 100000
set_option maxHeartbeats 2000000
namespace Go.Proofs.YtfhncfghblkgeaaGreat
open Go.RowKit
def jdq (ts:List (Int × Int)):List Value:=ts.flatMap fun p=>[iv p.1,iv p.2]
theorem jjw (p:Int × Int) (ts:List (Int × Int)):jdq (p :: ts)=iv p.1 :: iv p.2 :: jdq ts:=rfl
theorem qak (a b:List (Int × Int)):jdq (a++b)=jdq a++jdq b:=by simp [jdq]
theorem jr1 (ts:List (Int × Int)):(jdq ts).length=ts.length * 2:=by
 induction ts with
 | nil=>rfl
 | cons p ts ih=>rw [jjw];simp [ih];omega
theorem jzn (ts:List (Int × Int)):∀ v∈jdq ts,v.oneCell'=true:=by
 intro v hv
 obtain ⟨p,_,hv⟩:=List.mem_flatMap.1 hv
 simp at hv
 rcases hv with rfl|rfl<;>rfl
theorem jla:∀ (ts:List (Int × Int)) (i:Nat),i<ts.length->(jdq ts)[i * 2]?=some (iv (ts.getD i (0,0)).1)/\(jdq ts)[i * 2+1]?=some (iv (ts.getD i (0,0)).2)
 | [],i,h=>by simp at h
 | p :: ts,0,_=>by simp [jjw]
 | p :: ts,i+1,h=>by
   have ih:=jla ts i (by simpa using h)
   rw [jjw]
   have e1:(i+1) * 2=i * 2+2:=by omega
   rw [e1]
   simpa using ih
theorem ja0 {w:World} {g:Nat} {C:Array Value} {T:TypeId} (h:w.heap[g]?=some (.cells C T (0,0))) (i:Nat):w.frozen? (aq g i)=false:=Joins.unfrozen_of_block h i
theorem jbg {w w':World} {base B:Nat} {e:TypeId} {size:Nat} {v:Value} {n:Nat} {xs:List Value} (h:w.ownsRow base e size v n xs) (hb:Below B w w') (hB:w.heap.size<=B):w'.ownsRow base e size v n xs:=by
 refine ⟨h.1,?_⟩
 rcases h.2 with h|⟨g,cap,cur,h1,h2,h3,h4⟩
 ·exact .inl h
 ·exact .inr ⟨g,cap,cur,h1,h2,(hb.block g (by have:=(blt h3);omega)).trans h3,h4⟩
structure Same (own:Nat->Prop) (w w':World):Prop where
 os:w'.os=w.os
 tape:w'.tape=w.tape
 output:w'.output=w.output
 size:w.heap.size<=w'.heap.size
 block:∀ k,k<w.heap.size->¬ own k->w'.heap[k]?=w.heap[k]?
theorem Same.of_below {own:Nat->Prop} {w w':World} (h:Below w.heap.size w w'):Same own w w':=⟨h.os,h.tape,h.output,h.size,fun k hk _=>h.block k hk⟩
theorem Same.cell {own:Nat->Prop} {w w':World} (h:Same own w w') {b o:Nat} (hb:b<w.heap.size) (hn:¬ own b):w'.cell? (aq b o)=w.cell? (aq b o):=World.cell?_of_block (a:=(aq b o)) (h.block b hb hn)
theorem Tryz.infoDue:(Tryz.prog.info? 131).map (fun i=>(i.zero,i.size,i.bytes))=some (some (.agg #[iv 0,iv 0]),2,16):=by kernel_rfl
def jac (a b:Int × Int):Bool:=decide (a.1<b.1) || (a.1==b.1 && decide (a.2<b.2))
def jo8 (L:List (Int × Int)) (id:Int):Int:=match L.findIdx? (fun p=>p.2==id) with|some i=>(i:Int)|none=>-1
theorem qcg (L:List (Int × Int)) {j:Nat} (h:j<L.length):L.take (j+1)=L.take j++[L.getD j (0,0)]:=by
 rw [List.take_succ_eq_append_getElem h]
 simp [List.getD,List.getElem?_eq_getElem h]
theorem jux (l:List (Int × Int)) (p:Int × Int):jdq (l++[p])=jdq l++[iv p.1,iv p.2]:=by rw [qak];rfl
theorem qdl {w:World} {T:TypeId} {x y:Value}:∀ j u,([x,y]:List Value)[j]?=some u->(w.alloc (.cells #[x,y] T)).cell? (((aq w.heap.size 0):Addr).add j)=some u:=by
 intro j u hu
 rw [Addr.add_lit,Nat.zero_add,Joins.cell_of_block (heap_alloc_new w _)]
 simpa using hu
def jb8 (L:List (Int × Int)):Nat->Int
 | 0=>-1
 | j+1=>if jb8 L j<0 then (j:Int) else if jac (L.getD j (0,0)) (L.getD (jb8 L j).toNat (0,0)) then (j:Int) else jb8 L j
theorem jhf (L:List (Int × Int)):∀ j,jb8 L j<(j:Int)/\-1<=jb8 L j
 | 0=>by simp [jb8]
 | j+1=>by
   have:=jhf L j
   unfold jb8
   split
   ·omega
   ·split<;>omega
theorem jje {w:World} {R:Nat} {c0 c1:Value} {T:TypeId} (h:w.heap[R]?=some (.cells #[c0,c1] T (0,0))):w.cell? (aq R 0)=some c0/\w.cell? (aq R 1)=some c1 :=
 ⟨by rw [Joins.cell_of_block h];rfl,by rw [Joins.cell_of_block h];rfl⟩
theorem jja {w:World} {B n size:Nat} {T:TypeId} {v:Value} {xs:List Value} (h:w.ownsRow B T size v n xs):∃ a c,v=.slice a n c:=by
 rcases h.2 with ⟨rfl,h0⟩|⟨g,cap,cur,rfl,_⟩
 ·exact ⟨none,0,by rw [h0]⟩
 ·exact ⟨_,_,rfl⟩
def qdg (now:Int) (L:List (Int × Int)) (id at':Int):Int:=if at'<=now then 3 else if 0<=jo8 L id then 4 else 0
def jg1 (now:Int) (L:List (Int × Int)) (id at':Int):List (Int × Int):=if at'<=now then L else if 0<=jo8 L id then L else L++[(at',id)]
def jqo (L:List (Int × Int)) (id:Int):Int:=if jo8 L id<0 then 5 else 0
def jbs (L:List (Int × Int)) (id:Int):List (Int × Int):=if jo8 L id<0 then L else L.eraseIdx (jo8 L id).toNat
def ja8 (L:List (Int × Int)):Int × Int:=if jb8 L L.length<0 then (0,0) else L.getD (jb8 L L.length).toNat (0,0)
def jcf (L:List (Int × Int)):Bool:=decide (0<=jb8 L L.length)
def qg4 (to:Int):Nat->List (Int × Int)->List (Int × Int) × List (Int × Int)
 | 0,L=>([],L)
 | n+1,L=>if jb8 L L.length<0\/to<(L.getD (jb8 L L.length).toNat (0,0)).1 then ([],L)
   else (L.getD (jb8 L L.length).toNat (0,0) :: (qg4 to n (L.eraseIdx (jb8 L L.length).toNat)).1,(qg4 to n (L.eraseIdx (jb8 L L.length).toNat)).2)
def adv (to:Int) (L:List (Int × Int)):List (Int × Int) × List (Int × Int):=qg4 to L.length L
theorem ju4 {to:Int} {L:List (Int × Int)} (h:jb8 L L.length<0\/to<(L.getD (jb8 L L.length).toNat (0,0)).1):adv to L=([],L):=by
 unfold adv
 cases hn:L.length with
 | zero=>rfl
 | succ n=>rw [qg4,if_pos h]
theorem qdh {to:Int} {L:List (Int × Int)} {q:Nat} (hq:jb8 L L.length=q) (hl:q<L.length) (h:(L.getD q (0,0)).1<=to):adv to L=(L.getD q (0,0) :: (adv to (L.eraseIdx q)).1,(adv to (L.eraseIdx q)).2):=by
 unfold adv
 have he:(L.eraseIdx q).length=L.length - 1:=List.length_eraseIdx_of_lt hl
 obtain ⟨n,hn⟩:∃ n,L.length=n+1:=⟨L.length - 1,by omega⟩
 have hf:¬ (jb8 L L.length<0\/to<(L.getD (jb8 L L.length).toNat (0,0)).1):=by rw [hq,Int.toNat_natCast];omega
 rw [he,hn,Nat.add_sub_cancel,qg4,if_neg hf,hq,Int.toNat_natCast]
def qgn:Value->Nat
 | .slice _ n _=>n
 | _=>0
def qao (now to:Int):Int:=if to<now then 3 else 0
def jhk (now to:Int) (L:List (Int × Int)):List (Int × Int):=if to<now then [] else (adv to L).1
def jtz (now to:Int) (L:List (Int × Int)):List (Int × Int):=if to<now then L else (adv to L).2
def jxb (now to:Int):Int:=if to<now then now else to
theorem jk8 {a b:Int × Int}:jac a b=true↔a.1<b.1\/(a.1=b.1/\a.2<b.2):=by
 simp [jac]
theorem jft {a b:Int × Int}:¬ jac a b=true↔b.1<a.1\/(b.1=a.1/\b.2<=a.2):=by
 rw [jk8];omega
theorem jfp {a b:Int × Int} (h1:¬ jac a b=true) (h2:¬ jac b a=true):a=b:=by
 rw [jft] at h1 h2
 obtain ⟨a1,a2⟩:=a
 obtain ⟨b1,b2⟩:=b
 simp only at h1 h2
 have e1:a1=b1:=by omega
 have e2:a2=b2:=by omega
 rw [e1,e2]
def qds (L:List (Int × Int)):Prop:=L.Pairwise fun a b=>¬ jac b a=true
theorem jgd (L:List (Int × Int)):∀ j,∀ i,i<j->0<=jb8 L j/\¬ jac (L.getD i (0,0)) (L.getD (jb8 L j).toNat (0,0))=true
 | 0,i,h=>by omega
 | j+1,i,h=>by
   have hb:=jhf L j
   unfold jb8
   by_cases h0:jb8 L j<0
   ·rw [if_pos h0]
    have hi:i=j:=by
     by_cases hi:i<j
     ·have:=(jgd L j i hi).1;omega
     ·omega
    subst hi
    refine ⟨by omega,?_⟩
    rw [Int.toNat_natCast,jft]
    omega
   ·rw [if_neg h0]
    by_cases ha:jac (L.getD j (0,0)) (L.getD (jb8 L j).toNat (0,0))=true
    ·rw [if_pos ha]
     refine ⟨by omega,?_⟩
     rw [Int.toNat_natCast]
     by_cases hi:i<j
     ·have h1:=(jgd L j i hi).2
      rw [jk8] at ha
      rw [jft] at h1 ⊢
      omega
     ·have:i=j:=by omega
      subst this
      rw [jft];omega
    ·rw [if_neg ha]
     refine ⟨by omega,?_⟩
     by_cases hi:i<j
     ·exact (jgd L j i hi).2
     ·have:i=j:=by omega
      subst this
      exact ha
theorem jes {L:List (Int × Int)} {q:Nat} (h:q<L.length):L.getD q (0,0)∈L:=by
 simp [List.getD,List.getElem?_eq_getElem h]
theorem jiq {L:List (Int × Int)} {p:Int × Int} (hp:p∈L):0<=jb8 L L.length/\(jb8 L L.length).toNat<L.length/\¬ jac p (L.getD (jb8 L L.length).toNat (0,0))=true:=by
 obtain ⟨i,hi,rfl⟩:=List.getElem_of_mem hp
 have h:=jgd L L.length i hi
 have hb:=jhf L L.length
 refine ⟨h.1,by omega,?_⟩
 have:=h.2
 rwa [show L.getD i (0,0)=L[i] by simp [List.getD,List.getElem?_eq_getElem hi]] at this
theorem jlf:ja8 []=(0,0)/\jcf []=false:=by simp [ja8,jcf,jb8]
theorem jf1 {L:List (Int × Int)} (h:L≠[]):jcf L=true/\ja8 L∈L/\∀ p∈L,¬ jac p (ja8 L)=true:=by
 obtain ⟨p,hp⟩:=List.exists_mem_of_ne_nil L h
 have h0:=jiq hp
 have he:ja8 L=L.getD (jb8 L L.length).toNat (0,0):=by unfold ja8;rw [if_neg (by omega)]
 refine ⟨by simp [jcf];exact h0.1,by rw [he];exact jes h0.2.1,fun p hp=>?_⟩
 rw [he]
 exact (jiq hp).2.2
theorem jq6 {L L':List (Int × Int)} (hp:L.Perm L') {p:Int × Int} (hm:p∈L') (hf:∀ r∈L',¬ jac r p=true):jcf L=true/\ja8 L=p:=by
 have hL:p∈L:=hp.mem_iff.2 hm
 have h:=jf1 (L:=L) (fun e=>by rw [e] at hL;simp at hL)
 exact ⟨h.1,jfp (hf _ (hp.mem_iff.1 h.2.1)) (h.2.2 p hL)⟩
theorem jio {L:List (Int × Int)} {q:Nat} (h:q<L.length):L.Perm (L.getD q (0,0) :: L.eraseIdx q):=by
 have e:L.getD q (0,0)=L[q]:=by simp [List.getD,List.getElem?_eq_getElem h]
 rw [e]
 induction L generalizing q with
 | nil=>simp at h
 | cons a L ih =>
   cases q with
   | zero=>simp
   | succ q =>
     have hq:q<L.length:=by simpa using h
     simp only [List.getElem_cons_succ,List.eraseIdx_cons_succ]
     exact ((ih hq (by simp [List.getD,List.getElem?_eq_getElem hq])).cons a).trans (List.Perm.swap _ _ _)
theorem jh0 {L:List (Int × Int)} {q:Nat} (h:q<L.length) {f:Int × Int->Bool} (hf:f (L.getD q (0,0))=false):(L.eraseIdx q).filter f=L.filter f:=by
 induction L generalizing q with
 | nil=>simp at h
 | cons a L ih =>
   cases q with
   | zero=>simp at hf;simp [hf]
   | succ q =>
     have hq:q<L.length:=by simpa using h
     have:f (L.getD q (0,0))=false:=by simpa using hf
     simp only [List.eraseIdx_cons_succ,List.filter_cons,ih hq this]
theorem jgc (to:Int):∀ n (L:List (Int × Int)),L.length=n->(adv to L).2=L.filter (fun p=>decide (to<p.1))/\(adv to L).1.Perm (L.filter (fun p=>decide (p.1<=to)))/\qds (adv to L).1
 | 0,L,hn=>by
   have:L=[]:=List.length_eq_zero_iff.1 hn
   subst this
   exact ⟨rfl,.refl _,.nil⟩
 | n+1,L,hn=>by
   obtain ⟨p,hp⟩:=List.exists_mem_of_ne_nil L (fun e=>by rw [e] at hn;simp at hn)
   have h0:=jiq hp
   obtain ⟨q,hq⟩:=Int.eq_ofNat_of_zero_le h0.1
   have hql:q<L.length:=by have:=h0.2.1;rw [hq,Int.toNat_natCast] at this;exact this
   have hmin:∀ r∈L,¬ jac r (L.getD q (0,0))=true:=fun r hr=>by have:=(jiq hr).2.2;rwa [hq,Int.toNat_natCast] at this
   by_cases ht:to<(L.getD q (0,0)).1
   ·rw [ju4 (.inr (by rw [hq,Int.toNat_natCast];exact ht))]
    have hall:∀ r∈L,to<r.1:=fun r hr=>by have:=hmin r hr;rw [jft] at this;omega
    refine ⟨?_,?_,.nil⟩
    ·exact (List.filter_eq_self.2 (fun r hr=>by simpa using hall r hr)).symm
    ·rw [List.filter_eq_nil_iff.2 (fun r hr=>by have:=hall r hr;simp;omega)]
   ·rw [qdh hq hql (by omega)]
    have hle:(L.eraseIdx q).length=n:=by rw [List.length_eraseIdx_of_lt hql];omega
    obtain ⟨i1,i2,i3⟩:=jgc to n (L.eraseIdx q) hle
    have hpe:=jio hql
    refine ⟨?_,?_,?_⟩
    ·simp only
     rw [i1,jh0 hql (by simpa using ht)]
    ·refine (i2.cons _).trans ?_
     refine List.Perm.trans ?_ (hpe.filter _).symm
     rw [List.filter_cons,if_pos (decide_eq_true (by omega))]
    ·refine List.pairwise_cons.2 ⟨fun r hr=>?_,i3⟩
     have:r∈L.eraseIdx q:=(List.mem_filter.1 (i2.mem_iff.1 hr)).1
     exact hmin r (List.mem_of_mem_eraseIdx this)
theorem ju3 {to:Int} {L:List (Int × Int)}:(adv to L).2=L.filter (fun p=>decide (to<p.1)):=(jgc to _ L rfl).1
def jcz (L:List (Int × Int)):Prop:=(L.map (·.2)).Nodup
theorem jh9 {L:List (Int × Int)} {id:Int}:0<=jo8 L id↔∃ p∈L,p.2=id:=by
 unfold jo8
 cases h:L.findIdx? (fun p=>p.2==id) with
 | none =>
   rw [List.findIdx?_eq_none_iff] at h
   refine ⟨fun h'=>by simp at h',?_⟩
   rintro ⟨p,hp,rfl⟩
   have:=h p hp
   simp at this
 | some i =>
   rw [List.findIdx?_eq_some_iff_getElem] at h
   obtain ⟨hi,hp,_⟩:=h
   exact ⟨fun _=>⟨L[i],List.getElem_mem hi,by simpa using hp⟩,fun _=>by simp⟩
theorem qdt {L:List (Int × Int)} {id:Int} (h:0<=jo8 L id):(jo8 L id).toNat<L.length/\(L.getD (jo8 L id).toNat (0,0)).2=id:=by
 unfold jo8 at h ⊢
 cases hf:L.findIdx? (fun p=>p.2==id) with
 | none=>rw [hf] at h;simp at h
 | some i =>
   rw [List.findIdx?_eq_some_iff_getElem] at hf
   obtain ⟨hi,hp,_⟩:=hf
   refine ⟨by simpa using hi,?_⟩
   simp [List.getD,List.getElem?_eq_getElem hi]
   simpa using hp
theorem jjt {L L':List (Int × Int)} (hp:L.Perm L') (h:jcz L):jcz L':=(hp.map _).nodup_iff.1 h
theorem jen {L:List (Int × Int)} (f:Int × Int->Bool) (h:jcz L):jcz (L.filter f):=List.Nodup.sublist (List.Sublist.map _ List.filter_sublist) h
theorem jm9 {L:List (Int × Int)} {id:Int} (h:jcz L):jbs L id=L.filter (fun p=>p.2 != id):=by
 unfold jbs
 by_cases hx:jo8 L id<0
 ·rw [if_pos hx]
  refine (List.filter_eq_self.2 fun p hp=>?_).symm
  have:p.2≠id:=fun e=>by have:=jh9.2 ⟨p,hp,e⟩;omega
  simpa using this
 ·rw [if_neg hx]
  obtain ⟨h1,h2⟩:=qdt (show 0<=jo8 L id by omega)
  have hpe:=jio h1
  rw [← jh0 h1 (f:=fun p=>p.2 != id) (by rw [h2];simp)]
  refine (List.filter_eq_self.2 fun p hp=>?_).symm
  have hn:=jjt hpe h
  unfold jcz at hn
  rw [List.map_cons,List.nodup_cons,h2] at hn
  have:p.2≠id:=fun e=>hn.1 (List.mem_map.2 ⟨p,hp,e⟩)
  simpa using this
theorem jih {now:Int} {L:List (Int × Int)} {id at':Int} (h:jcz L):jcz (jg1 now L id at'):=by
 unfold jg1
 split
 ·exact h
 ·split
  ·exact h
  ·rename_i hx
   have hn:id ∉ L.map (·.2):=fun hm=>by
    obtain ⟨p,hp,e⟩:=List.mem_map.1 hm
    exact hx (jh9.2 ⟨p,hp,e⟩)
   have:jcz ((at',id) :: L):=by unfold jcz;rw [List.map_cons,List.nodup_cons];exact ⟨hn,h⟩
   exact jjt (by have:=List.perm_append_comm (l₁:=[(at',id)]) (l₂:=L);simpa using this) this
theorem jlm {L:List (Int × Int)} {id:Int} (h:jcz L):jcz (jbs L id):=by rw [jm9 h];exact jen _ h
theorem jno (L:List (Int × Int)) (id:Int):(jbs L id).length<=L.length:=by
 unfold jbs
 split
 ·omega
 ·exact List.length_eraseIdx_le _ _
structure Timers (PW:World->Nat->(Nat->Prop)->Int->List (Int × Int)->Prop):Prop where
 lt:∀ {w x own now L},PW w x own now L->∀ k,own k->k<w.heap.size
 keep:∀ {w w' x own now L},PW w x own now L->w.heap.size<=w'.heap.size->(∀ k,own k->w'.heap[k]?=w.heap[k]?)->PW w' x own now L
 advance:∀ {w x own now L} (to:Int),PW w x own now L->L.length * 16+16<=140737488351232 →
  Calls Tryz.prog 119 #[pt x 0,iv to] w fun e w'=>∃ out own',e=.returned (.tuple #[out,iv (qao now to)])/\w'.ownsRow w.heap.size 131 2 out (jhk now to L).length (jdq (jhk now to L)) ∧
   (qao now to≠0->out=.slice none 0 0)/\PW w' x own' (jxb now to) (jtz now to L)/\Same own w w'/\(∀ k,own' k->own k\/w.heap.size<=k)/\(∀ k,out.ownBlock=some k->¬ own' k)
theorem jb9 {w:World} {B n size R:Nat} {T U:TypeId} {v:Value} {xs:List Value} {C:Array Value} (h:w.ownsRow B T size v n xs) (hR:w.heap[R]?=some (.cells C U (0,0))) (hT:T≠U):v.ownBlock≠some R:=by
 intro e
 rcases h.2 with ⟨rfl,_⟩|⟨g,c,cur,rfl,_,hh,_⟩
 ·simp [Value.ownBlock] at e
 ·simp [Value.ownBlock] at e
  subst e
  rw [hR] at hh
  simp at hh
  exact hT hh.2.symm
theorem jad {w w':World} {B n size:Nat} {T:TypeId} {v:Value} {xs:List Value} (h:w.ownsRow B T size v n xs) (hk:∀ k,v.ownBlock=some k->w'.heap[k]?=w.heap[k]?):w'.ownsRow B T size v n xs:=by
 refine ⟨h.1,h.2.imp id ?_⟩
 rintro ⟨g,cap,cur,hv,hg,hh,hr⟩
 exact ⟨g,cap,cur,hv,hg,(hk g (by rw [hv];rfl)).trans hh,hr⟩
theorem jq7 {w:World} {B B' n size:Nat} {T:TypeId} {v:Value} {xs:List Value} (h:w.ownsRow B T size v n xs) (hB:B'<=B):w.ownsRow B' T size v n xs:=by
 refine ⟨h.1,h.2.imp id ?_⟩
 rintro ⟨g,cap,cur,hv,hg,hr⟩
 exact ⟨g,cap,cur,hv,by omega,hr⟩
def jff (PW:World->Nat->(Nat->Prop)->Int->List (Int × Int)->Prop) (w w':World) (x:Nat) (own:Nat->Prop) (now:Int) (L:List (Int × Int)):Prop :=
 ∃ own',PW w' x own' now L/\Same own w w'/\∀ k,own' k->own k\/w.heap.size<=k
structure TimersAll (PW:World->Nat->(Nat->Prop)->Int->List (Int × Int)->Prop):Prop extends Timers PW where
 new:∀ (w:World) (now:Int),Calls Tryz.prog 55 #[iv now] w fun e w'=>∃ x own,e=.returned (pt x 0)/\PW w' x own now []/\(∀ k,own k->w.heap.size<=k)/\Below w.heap.size w w'
 set:∀ {w x own now L} (id at':Int),PW w x own now L->L.length * 16+16<=140737488351232 →
  Calls Tryz.prog 75 #[pt x 0,iv id,iv at'] w fun e w'=>e=.returned (iv (qdg now L id at'))/\jff PW w w' x own now (jg1 now L id at')
 unset:∀ {w x own now L} (id:Int),PW w x own now L->L.length * 16+16<=140737488351232 →
  Calls Tryz.prog 77 #[pt x 0,iv id] w fun e w'=>e=.returned (iv (jqo L id))/\jff PW w w' x own now (jbs L id)
 first:∀ {w x own now L},PW w x own now L->L.length * 16+16<=140737488351232 →
  Calls Tryz.prog 79 #[pt x 0] w fun e w'=>e=.returned (.tuple #[.agg #[iv (ja8 L).1,iv (ja8 L).2],.bool (jcf L)])/\jff PW w w' x own now L
 size:∀ {w x own now L},PW w x own now L->L.length * 16+16<=140737488351232 →
  Calls Tryz.prog 81 #[pt x 0] w fun e w'=>e=.returned (iv L.length)/\jff PW w w' x own now L
theorem Same.trans {o1 o2 o:Nat->Prop} {w w1 w2:World} (h1:Same o1 w w1) (h2:Same o2 w1 w2) (h:∀ k,k<w.heap.size->o1 k\/o2 k->o k):Same o w w2 :=
 ⟨h2.os.trans h1.os,h2.tape.trans h1.tape,h2.output.trans h1.output,Nat.le_trans h1.size h2.size,fun k hk hn=>(h2.block k (Nat.lt_of_lt_of_le hk h1.size) (fun e=>hn (h k hk (.inr e)))).trans (h1.block k hk (fun e=>hn (h k hk (.inl e))))⟩
abbrev Ent:=(Int × Int) × Int
def srt (l:List Ent):Prop:=l.Pairwise (fun x y=>jac x.1 y.1=true)
theorem jem (a b:Int × Int):jac a b=true↔a.1<b.1\/(a.1=b.1/\a.2<b.2):=jk8
theorem jdr {a b:Int × Int} (h:jac a b=true):jac b a=false:=by
 rw [← Bool.not_eq_true,jem];rw [jem] at h;omega
theorem jbr {a b:Int × Int} (h:jac a b=true):a≠b:=by
 rintro rfl;rw [jem] at h;omega
theorem jdi {a b c:Int × Int} (h1:jac a b=true) (h2:jac b c=true):jac a c=true:=by
 rw [jem] at *;omega
theorem jix {a b:Int × Int} (h1:jac a b=false) (h2:jac b a=false):a=b :=
 jfp (by simp [h1]) (by simp [h2])
theorem jka (a:Int × Int):jac a a=false:=by
 rw [← Bool.not_eq_true,jem];omega
theorem jbx {A B:List Ent} {x:Ent}:srt (A++x :: B)↔srt A/\srt B/\(∀ a∈A,jac a.1 x.1=true)/\(∀ b∈B,jac x.1 b.1=true):=by
 unfold srt
 rw [List.pairwise_append,List.pairwise_cons]
 constructor
 ·rintro ⟨h1,⟨h2,h3⟩,h4⟩
  exact ⟨h1,h3,fun a ha=>h4 a ha x (by simp),h2⟩
 ·rintro ⟨h1,h2,h3,h4⟩
  refine ⟨h1,⟨h4,h2⟩,fun a ha b hb=>?_⟩
  rcases List.mem_cons.1 hb with rfl|hb
  ·exact h3 a ha
  ·exact jdi (h3 a ha) (h4 b hb)
def jbl (k:Int × Int) (v:Int) (l:List Ent):List Ent:=l.filter (fun e=>jac e.1 k)++(k,v) :: l.filter (fun e=>jac k e.1)
def jd0 (k:Int × Int) (l:List Ent):List Ent:=l.filter (fun e=>e.1 != k)
def jb5 (k:Int × Int) (l:List Ent):Option Int:=(l.find? (fun e=>e.1==k)).map (·.2)
theorem jgg {α:Type} {p:α->Bool} {l:List α} (h:∀ a∈l,p a=false):l.filter p=[]:=by
 rw [List.filter_eq_nil_iff];intro a ha;simp [h a ha]
theorem jc1 {α:Type} {p:α->Bool} {l:List α} (h:∀ a∈l,p a=true):l.filter p=l:=by
 rw [List.filter_eq_self];exact h
theorem jjj {α:Type} {p:α->Bool} {l:List α} (h:∀ a∈l,p a=false):l.find? p=none:=by
 rw [List.find?_eq_none];intro a ha;simp [h a ha]
theorem qbo {A B:List Ent} {x:Ent} {k:Int × Int} {v:Int} (hs:srt (A++x :: B)) (h:jac k x.1=true):jbl k v (A++x :: B)=jbl k v A++x :: B:=by
 obtain ⟨_,_,_,hB⟩:=jbx.1 hs
 have hb:∀ b∈x :: B,jac k b.1=true:=fun b hb=>by
  rcases List.mem_cons.1 hb with rfl|hb
  ·exact h
  ·exact jdi h (hB b hb)
 unfold jbl
 rw [List.filter_append,List.filter_append,jgg (l:=x :: B) (fun b m=>jdr (hb b m)),jc1 (l:=x :: B) hb]
 simp
theorem jyk {A B:List Ent} {x:Ent} {k:Int × Int} {v:Int} (hs:srt (A++x :: B)) (h:jac x.1 k=true):jbl k v (A++x :: B)=A++x :: jbl k v B:=by
 obtain ⟨_,_,hA,_⟩:=jbx.1 hs
 have ha:∀ a∈A,jac a.1 k=true:=fun a m=>jdi (hA a m) h
 unfold jbl
 rw [List.filter_append,List.filter_append,jc1 ha,jgg (l:=A) (p:=fun e=>jac k e.1) (fun b m=>jdr (ha b m))]
 rw [List.filter_cons_of_pos (by simpa using h),List.filter_cons_of_neg (by simpa using jdr h)]
 simp
theorem jug {A B:List Ent} {x:Ent} {k:Int × Int} {v:Int} (hs:srt (A++x :: B)) (h:x.1=k):jbl k v (A++x :: B)=A++(k,v) :: B:=by
 obtain ⟨_,_,hA,hB⟩:=jbx.1 hs
 subst h
 unfold jbl
 rw [List.filter_append,List.filter_append,jc1 hA,jgg (l:=A) (p:=fun e=>jac x.1 e.1) (fun b m=>jdr (hA b m))]
 rw [List.filter_cons_of_neg (by simp [jka]),List.filter_cons_of_neg (by simp [jka]),jgg (l:=B) (fun b m=>jdr (hB b m)),jc1 hB]
 simp
theorem qcz {A B:List Ent} {x:Ent} {k:Int × Int} (hs:srt (A++x :: B)) (h:jac k x.1=true):jd0 k (A++x :: B)=jd0 k A++x :: B:=by
 obtain ⟨_,_,_,hB⟩:=jbx.1 hs
 unfold jd0
 rw [List.filter_append,jc1 (l:=x :: B)]
 intro b hb
 rcases List.mem_cons.1 hb with rfl|hb
 ·simpa using (jbr h).symm
 ·simpa using (jbr (jdi h (hB b hb))).symm
theorem jz3 {A B:List Ent} {x:Ent} {k:Int × Int} (hs:srt (A++x :: B)) (h:jac x.1 k=true):jd0 k (A++x :: B)=A++x :: jd0 k B:=by
 obtain ⟨_,_,hA,_⟩:=jbx.1 hs
 unfold jd0
 rw [List.filter_append,jc1 (l:=A),List.filter_cons_of_pos (by simpa using jbr h)]
 intro a ha
 simpa using jbr (jdi (hA a ha) h)
theorem jps {A B:List Ent} {x:Ent} {k:Int × Int} (hs:srt (A++x :: B)) (h:x.1=k):jd0 k (A++x :: B)=A++B:=by
 obtain ⟨_,_,hA,hB⟩:=jbx.1 hs
 subst h
 unfold jd0
 rw [List.filter_append,jc1 (l:=A) (fun a m=>by simpa using jbr (hA a m)),List.filter_cons_of_neg (by simp),jc1 (l:=B) (fun b m=>by simpa using (jbr (hB b m)).symm)]
theorem qbd {A B:List Ent} {x:Ent} {k:Int × Int} (hs:srt (A++x :: B)) (h:jac k x.1=true):jb5 k (A++x :: B)=jb5 k A:=by
 obtain ⟨_,_,_,hB⟩:=jbx.1 hs
 unfold jb5
 rw [List.find?_append,jjj (l:=x :: B)]
 ·simp
 ·intro b hb
  rcases List.mem_cons.1 hb with rfl|hb
  ·simpa using (jbr h).symm
  ·simpa using (jbr (jdi h (hB b hb))).symm
theorem jz7 {A B:List Ent} {x:Ent} {k:Int × Int} (hs:srt (A++x :: B)) (h:jac x.1 k=true):jb5 k (A++x :: B)=jb5 k B:=by
 obtain ⟨_,_,hA,_⟩:=jbx.1 hs
 unfold jb5
 rw [List.find?_append,jjj (l:=A),List.find?_cons_of_neg (by simpa using jbr h)]
 ·simp
 ·intro a ha
  simpa using jbr (jdi (hA a ha) h)
theorem qcn {A B:List Ent} {x:Ent} {k:Int × Int} (hs:srt (A++x :: B)) (h:x.1=k):jb5 k (A++x :: B)=some x.2:=by
 obtain ⟨_,_,hA,_⟩:=jbx.1 hs
 subst h
 unfold jb5
 rw [List.find?_append,jjj (l:=A),List.find?_cons_of_pos (by simp)]
 ·simp
 ·intro a ha
  simpa using jbr (hA a ha)
theorem jjq {l:List Ent} (k:Int × Int) (h:srt l):srt (jd0 k l):=List.Pairwise.sublist List.filter_sublist h
theorem jg7 {l:List Ent} (k:Int × Int) (v:Int) (h:srt l):srt (jbl k v l):=by
 unfold jbl
 rw [jbx]
 refine ⟨List.Pairwise.sublist List.filter_sublist h,List.Pairwise.sublist List.filter_sublist h,fun a ha=>?_,fun b hb=>?_⟩
 ·exact (List.mem_filter.1 ha).2
 ·exact (List.mem_filter.1 hb).2
theorem jeg {l:List Ent} {k:Int × Int}:jb5 k l=none↔∀ e∈l,e.1≠k:=by
 unfold jb5;simp [List.find?_eq_none]
theorem jgb {l:List Ent} {k:Int × Int} {v:Int} (h:jb5 k l=some v):(k,v)∈l:=by
 unfold jb5 at h
 rw [Option.map_eq_some_iff] at h
 obtain ⟨e,he,rfl⟩:=h
 have:=List.find?_some he
 simp at this
 rw [← this]
 exact List.mem_of_find?_eq_some he
theorem jtx {l:List Ent} {k:Int × Int} {v:Int} (hn:jb5 k l=none):(jbl k v l).Perm ((k,v) :: l):=by
 rw [jeg] at hn
 unfold jbl
 refine List.perm_middle.trans (List.Perm.cons _ ?_)
 have:l.filter (fun e=>jac k e.1)=l.filter (fun e=>!jac e.1 k):=by
  apply List.filter_congr
  intro e he
  cases h1:jac e.1 k
  ·cases h2:jac k e.1
   ·exact absurd (jix h1 h2) (hn e he)
   ·rfl
  ·simp [jdr h1]
 rw [this]
 exact List.filter_append_perm _ l
inductive Tr where
 | leaf:Tr
 | node (p:Nat) (l:Tr) (k:Int × Int) (v h:Int) (r:Tr):Tr
def Tr.addr:Tr->Option Addr
 | .leaf=>none
 | .node p ..=>some (aq p 0)
theorem Tr.addr_leaf:Tr.leaf.addr=none:=rfl
theorem Tr.addr_node (p:Nat) (l r:Tr) (k:Int × Int) (v h:Int):(Tr.node p l k v h r).addr=some (aq p 0):=rfl
abbrev Tr.ptr (t:Tr):Value:=.pointer t.addr
def Tr.toL:Tr->List Ent
 | .leaf=>[]
 | .node _ l k v _ r=>l.toL++(k,v) :: r.toL
def Tr.has:Tr->Nat->Prop
 | .leaf,_=>False
 | .node p l _ _ _ r,n=>n=p\/l.has n\/r.has n
def Tr.at (w:World):Tr->Prop
 | .leaf=>True
 | .node p l k v h r=>w.heap[p]?=some (.cells #[l.ptr,r.ptr,iv k.1,iv k.2,iv v,iv h] 211 (0,0))/\l.at w/\r.at w
theorem Tr.at_lt {w:World} {n:Nat}:∀ {t:Tr},t.at w->t.has n->n<w.heap.size
 | .leaf,_,hh=>hh.elim
 | .node _ _ _ _ _ _,⟨hp,hl,hr⟩,hh=>by
   rcases hh with rfl|hh|hh
   ·exact (blt hp)
   ·exact at_lt hl hh
   ·exact at_lt hr hh
theorem Tr.at_keep {w w':World}:∀ {t:Tr},t.at w->(∀ n,t.has n->w'.heap[n]?=w.heap[n]?)->t.at w'
 | .leaf,_,_=>trivial
 | .node p _ _ _ _ _,⟨hp,hl,hr⟩,hk=>⟨(hk p (.inl rfl)).trans hp,at_keep hl (fun n hn=>hk n (.inr (.inl hn))),at_keep hr (fun n hn=>hk n (.inr (.inr hn)))⟩
theorem Tr.at_below {w w':World} {t:Tr} (h:t.at w) (hb:Below w.heap.size w w'):t.at w':=t.at_keep h (fun n hn=>hb.block n (t.at_lt h hn))
theorem Tr.at_type {w:World} {n:Nat}:∀ {t:Tr},t.at w->t.has n->∃ C,w.heap[n]?=some (.cells C 211 (0,0))
 | .leaf,_,hh=>hh.elim
 | .node _ _ _ _ _ _,⟨hp,hl,hr⟩,hh=>by
   rcases hh with rfl|hh|hh
   ·exact ⟨_,hp⟩
   ·exact at_type hl hh
   ·exact at_type hr hh
def mk (w w':World) (S:Nat->Prop) (l:List Ent) (t:Tr):Prop:=t.at w'/\t.toL=l/\Below w.heap.size w w'/\∀ n,t.has n->S n\/w.heap.size<=n
theorem jez (a b:Int × Int) (w:World) :
 Calls Tryz.prog 129 #[.agg #[iv a.1,iv a.2],.agg #[iv b.1,iv b.2]] w fun e w'=>e=.returned (.bool (jac a b))/\Below w.heap.size w w':=by
 obtain ⟨a1,a2⟩:=a
 obtain ⟨b1,b2⟩:=b
 simp only
 by_cases h1:a1=b1
 ·subst h1
  go_enter Tryz.func129,Tryz.ntmps129
  go_wp2
  go_ret
  exact ⟨by simp [jac],bL⟩
 ·have d2:(a1==b1)=false:=by simpa using h1
  go_enter Tryz.func129,Tryz.ntmps129
  go_wp2
  go_ret
  exact ⟨by simp [jac,d2],bL⟩
def Tr.height:Tr->Int
 | .leaf=>0
 | .node _ _ _ _ h _=>h
theorem jcj {w:World} {R:Nat} {c0 c1 c2 c3 c4 c5:Value} {T:TypeId} (h:w.heap[R]?=some (.cells #[c0,c1,c2,c3,c4,c5] T (0,0))) :
 w.cell? (aq R 0)=some c0/\w.cell? (aq R 1)=some c1/\w.cell? (aq R 2)=some c2/\w.cell? (aq R 3)=some c3/\w.cell? (aq R 4)=some c4/\w.cell? (aq R 5)=some c5 :=
 ⟨by rw [Joins.cell_of_block h];rfl,by rw [Joins.cell_of_block h];rfl,by rw [Joins.cell_of_block h];rfl,by rw [Joins.cell_of_block h];rfl,by rw [Joins.cell_of_block h];rfl,by rw [Joins.cell_of_block h];rfl⟩
theorem jk3 (t:Tr) (w:World) (h:t.at w) :
 Calls Tryz.prog 179 #[t.ptr] w fun e w'=>e=.returned (iv t.height)/\w=w':=by
 cases t with
 | leaf =>
   simp only [Tr.ptr,Tr.addr,Tr.height]
   go_enter Tryz.func179,Tryz.ntmps179
   go_wp2
   go_ret
   exact ⟨rfl,rfl⟩
 | node p l k v hh r =>
   obtain ⟨c0,c1,c2,c3,c4,c5⟩:=jcj h.1
   simp only [Tr.ptr,Tr.addr,Tr.height]
   clear h
   go_enter Tryz.func179,Tryz.ntmps179
   go_wp2
   go_ret
   exact ⟨rfl,rfl⟩
theorem Tr.at_alloc {t:Tr} {w:World} (h:t.at w) (O:Obj):t.at (w.alloc O):=t.at_below h ((Below.refl _ _).alloc (Nat.le_refl _) _)
theorem qef {w w1:World} {l r:Tr} {k:Int × Int} {v h:Int} (hl:l.at w) (hr:r.at w) (hb:Below w.heap.size w w1) {O:Obj} (hO:O=.cells #[l.ptr,r.ptr,iv k.1,iv k.2,iv v,iv h] 211) :
 mk w (w1.alloc O) (fun n=>l.has n\/r.has n) (l.toL++(k,v) :: r.toL) (.node w1.heap.size l k v h r):=by
 have hb2:Below w.heap.size w (w1.alloc O):=hb.alloc hb.size _
 refine ⟨⟨?_,l.at_below hl hb2,r.at_below hr hb2⟩,rfl,hb2,?_⟩
 ·rw [heap_alloc_new,hO]
 ·rintro n (rfl|hn)
  ·exact .inr hb.size
  ·exact .inl hn
theorem qba (l r:Tr) (k:Int × Int) (v:Int) (w:World) (hl:l.at w) (hr:r.at w) :
 Calls Tryz.prog 164 #[l.ptr,.agg #[iv k.1,iv k.2,iv v],r.ptr] w fun e w'=>∃ t,e=.returned t.ptr/\mk w w' (fun n=>l.has n\/r.has n) (l.toL++(k,v) :: r.toL) t:=by
 have HH:Hid (∀ (O:Obj) (u:Value),u=l.ptr\/u=r.ptr->Calls Tryz.prog 179 #[u] (w.alloc O) fun e w'=>(∃ a,e=.returned (iv a))/\w.alloc O=w'):=by
  rintro O u (rfl|rfl)
  ·exact (jk3 l _ (l.at_alloc hl O)).mono (by rintro e w' ⟨rfl,rfl⟩;exact ⟨⟨_,rfl⟩,rfl⟩)
  ·exact (jk3 r _ (r.at_alloc hr O)).mono (by rintro e w' ⟨rfl,rfl⟩;exact ⟨⟨_,rfl⟩,rfl⟩)
 have HM:Hid (∀ (O O':Obj) (h:Int),O'=.cells #[l.ptr,r.ptr,iv k.1,iv k.2,iv v,iv h] 211->mk w ((w.alloc O).alloc O') (fun n=>l.has n\/r.has n) (l.toL++(k,v) :: r.toL) (.node (w.heap.size+1) l k v h r)):=by
  intro O O' h hO
  have:=qef (w:=w) (w1:=w.alloc O) hl hr ((Below.refl _ _).alloc (Nat.le_refl _) _) hO
  simpa using this
 clear hl hr
 simp only [Tr.ptr] at HH HM ⊢
 generalize l.addr=lp at HH HM
 generalize r.addr=rp at HH HM
 generalize k.1=k1 at HM
 generalize k.2=k2 at HM
 generalize (l.toL++(k,v) :: r.toL)=LL at HM
 go_enter Tryz.func164,Tryz.ntmps164
 go_wp2_with (go_at_call 179;refine (HH.out _ _ ?_).mono ?_;(first|exact .inl rfl|exact .inr rfl);rintro e w1 ⟨⟨a,rfl⟩,rfl⟩)
 all_goals (go_ret;exact ⟨_,rfl,HM.out _ _ _ rfl⟩)
section
theorem Tr.at_unique {w:World}:∀ {t t':Tr},t.at w->t'.at w->t.addr=t'.addr->t=t'
 | .leaf,.leaf,_,_,_=>rfl
 | .leaf,.node ..,_,_,e=>by simp [Tr.addr] at e
 | .node ..,.leaf,_,_,e=>by simp [Tr.addr] at e
 | .node p l k v h r,.node p' l' k' v' h' r',⟨a1,a2,a3⟩,⟨b1,b2,b3⟩,e=>by
   simp only [Tr.addr,Option.some.injEq,Addr.mk.injEq,and_true] at e
   subst e
   rw [a1] at b1
   simp only [Option.some.injEq,Obj.cells.injEq,Array.mk.injEq,List.cons.injEq,Value.pointer.injEq,Value.int.injEq,and_true,true_and] at b1
   obtain ⟨e1,e2,e3,e4,e5,e6⟩:=b1
   have hl:=Tr.at_unique a2 b2 e1
   have hr:=Tr.at_unique a3 b3 e2
   subst hl hr e5 e6
   have:k=k':=Prod.ext e3 e4
   subst this
   rfl
def Tr.size:Tr->Nat
 | .leaf=>0
 | .node _ l _ _ _ r=>l.size+r.size+1
open Classical in
noncomputable def sizeAt (w:World) (v:Value):Nat:=if h:∃ t:Tr,t.at w/\v=.pointer t.addr then (Classical.choose h).size else 0
theorem jgv {w:World} {t:Tr} (h:t.at w):sizeAt w (.pointer t.addr)=t.size:=by
 have hx:∃ t':Tr,t'.at w/\Value.pointer t.addr=.pointer t'.addr:=⟨t,h,rfl⟩
 unfold sizeAt
 rw [dif_pos hx]
 have hc:=Classical.choose_spec hx
 have:=Tr.at_unique h hc.1 (by simpa using hc.2)
 rw [← this]
def jfg (t:Tr):Ent:=t.toL.headD ((0,0),0)
theorem jx9 (p:Nat) (k:Int × Int) (v h:Int) (r:Tr):jfg (.node p .leaf k v h r)=(k,v):=rfl
theorem jyr (p q:Nat) (k lk:Int × Int) (v h lv lh:Int) (ll lr r:Tr):jfg (.node p (.node q ll lk lv lh lr) k v h r)=jfg (.node q ll lk lv lh lr):=by
 simp only [jfg,Tr.toL]
 cases ll.toL<;>simp
theorem jmk (p:Nat) (l r:Tr) (k:Int × Int) (v h:Int) (w:World) (ha:Tr.at w (.node p l k v h r)) :
 Calls Tryz.prog 144 #[pt p 0] w fun e w'=>e=.returned (.agg #[iv (jfg (.node p l k v h r)).1.1,iv (jfg (.node p l k v h r)).1.2,iv (jfg (.node p l k v h r)).2])/\Below w.heap.size w w':=by
 generalize hF:jfg (.node p l k v h r)=F
 have HA:Hid (Tr.at w (.node p l k v h r)/\jfg (.node p l k v h r)=F):=⟨ha,hF⟩
 clear ha hF
 go_enter Tryz.func144,Tryz.ntmps144
 go_wp2_with fail
 go_loop [0] (fun n=>∃ p l k v h r,n=pt p 0/\Hid (Tr.at w (.node p l k v h r)/\jfg (.node p l k v h r)=F)) (fun n=>sizeAt w n)
 case atStart=>exact ⟨p,l,k,v,h,r,rfl,HA⟩
 case round =>
  obtain ⟨p,l,k,v,h,r,rfl,HB⟩:=hrel
  obtain ⟨hp,h1,h2⟩:=HB.out.1
  have hpw:p<w.heap.size:=(blt hp)
  obtain ⟨c0,c1,c2,c3,c4,-⟩:=jcj hp
  cases l with
  | leaf =>
    have hF:=HB.out.2
    rw [jx9] at hF
    subst hF
    simp only [Tr.ptr,Tr.addr_leaf] at c0
    clear hp h1 h2 HA
    go_wp2
    refine bodyPost_ret (v:=.agg #[iv k.1,iv k.2,iv v]) (by simp [results,Tryz.results144,go_sem]) rfl ⟨rfl,?_⟩
    exact bL
  | node q ll lk lv lh lr =>
    have HC:Hid (Tr.at w (.node q ll lk lv lh lr)/\jfg (.node q ll lk lv lh lr)=F):=⟨h1,(jyr ..).symm.trans HB.out.2⟩
    have HM:Hid (sizeAt w (pt q 0)<sizeAt w (pt p 0)):=by
     have e1:=jgv HB.out.1
     have e2:=jgv h1
     simp only [Tr.addr_node,Tr.size] at e1 e2
     rw [Hid,e1,e2]
     omega
    simp only [Tr.ptr,Tr.addr_node] at c0
    clear hp h1 h2 HA HB
    go_wp2
    go_round
    case rel=>exact ⟨_,_,_,_,_,_,rfl,HC⟩
    case measure=>exact HM.out
theorem je0 {w:World} {R:Nat} {c0 c1:Value} {T:TypeId} (h:w.heap[R]?=some (.cells #[c0,c1] T (0,0))):w.cell? (aq R 0)=some c0/\w.cell? (aq R 1)=some c1:=jje h
theorem Tr.toL_node (p:Nat) (l r:Tr) (k:Int × Int) (v h:Int):(Tr.node p l k v h r).toL=l.toL++(k,v) :: r.toL:=rfl
theorem jd3 (x o:Nat) (t:Tr) (k1 k2:Int) (w:World) (hx:w.cell? (aq x o)=some (.pointer t.addr)) (ht:t.at w) (hs:srt t.toL) :
 Calls Tryz.prog 95 #[pt x o,.agg #[iv k1,iv k2]] w fun e w'=>e=.returned (.tuple #[iv ((jb5 (k1,k2) t.toL).getD 0),.bool (jb5 (k1,k2) t.toL).isSome])/\Below w.heap.size w w':=by
 generalize hG:jb5 (k1,k2) t.toL=G
 have HA:Hid (t.at w/\srt t.toL/\jb5 (k1,k2) t.toL=G):=⟨ht,hs,hG⟩
 have hxw:x<w.heap.size:=World.block_lt_of_cell? w _ hx
 clear ht hs hG
 go_enter Tryz.func95,Tryz.ntmps95
 go_wp2_with fail
 go_loopw [6] (fun n wr=>∃ t:Tr,n=.pointer t.addr/\Hid (t.at w/\srt t.toL/\jb5 (k1,k2) t.toL=G)/\Below w.heap.size w wr/\wr.heap[w.heap.size]?=some (.cells #[iv k1,iv k2] 178 (0,0))) (fun n _=>sizeAt w n)
 case atStart=>exact ⟨t,rfl,HA,bL,heap_alloc_new _ _⟩
 case round =>
  obtain ⟨t,rfl,HB,hbel,hkey⟩:=hrel
  have hsz:w.heap.size<wr.heap.size:=(blt hkey)
  cases t with
  | leaf =>
    have hG:=HB.out.2.2
    simp only [Tr.toL,jb5,List.find?_nil,Option.map_none] at hG
    subst hG
    simp only [Tr.addr_leaf]
    clear HA HB
    go_wp2
    go_ret2
    exact ⟨rfl,hbel⟩
  | node p l k v h r =>
    obtain ⟨⟨hp,h1,h2⟩,hs,hG⟩:=HB.out
    rw [Tr.toL_node] at hs hG
    have hpw:p<w.heap.size:=(blt hp)
    obtain ⟨z0,z1,z2,z3,z4,-⟩:=jcj hp
    simp only [Tr.ptr] at z0 z1
    have HL:Hid (jac (k1,k2) k=true->l.at w/\srt l.toL/\jb5 (k1,k2) l.toL=G):=fun ha=>⟨h1,(jbx.1 hs).1,by rw [← hG,qbd hs ha]⟩
    have HR:Hid (jac k (k1,k2)=true->r.at w/\srt r.toL/\jb5 (k1,k2) r.toL=G):=fun ha=>⟨h2,(jbx.1 hs).2.1,by rw [← hG,jz7 hs ha]⟩
    have HE:Hid (jac (k1,k2) k=false->jac k (k1,k2)=false->G=some v):=fun ha hb=>by rw [← hG,qcn hs (jix hb ha)]
    have HM:Hid (sizeAt w (.pointer l.addr)<sizeAt w (pt p 0)/\sizeAt w (.pointer r.addr)<sizeAt w (pt p 0)):=by
     have e1:=jgv HB.out.1
     have e2:=jgv h1
     have e3:=jgv h2
     simp only [Tr.addr_node,Tr.size] at e1
     rw [Hid,e1,e2,e3]
     omega
    obtain ⟨a1,a2⟩:=k
    have HB1:Hid (∀ W,Below w.heap.size w W->Calls Tryz.prog 129 #[.agg #[iv k1,iv k2],.agg #[iv a1,iv a2]] W fun e w'=>e=.returned (.bool (jac (k1,k2) (a1,a2)))/\Below W.heap.size W w'):=fun W _=>jez (k1,k2) (a1,a2) W
    have HB2:Hid (∀ W,Below w.heap.size w W->Calls Tryz.prog 129 #[.agg #[iv a1,iv a2],.agg #[iv k1,iv k2]] W fun e w'=>e=.returned (.bool (jac (a1,a2) (k1,k2)))/\Below W.heap.size W w'):=fun W _=>jez (a1,a2) (k1,k2) W
    obtain ⟨q0,q1⟩:=je0 hkey
    have c0:=(hbel.cell (p:=(aq p 0)) hpw).trans z0
    have c1:=(hbel.cell (p:=(aq p 1)) hpw).trans z1
    have c2:=(hbel.cell (p:=(aq p 2)) hpw).trans z2
    have c3:=(hbel.cell (p:=(aq p 3)) hpw).trans z3
    have c4:=(hbel.cell (p:=(aq p 4)) hpw).trans z4
    have hpwr:p<wr.heap.size:=Nat.lt_of_lt_of_le hpw hbel.size
    simp only [Tr.addr_node]
    generalize jac (k1,k2) (a1,a2)=ah at HL HE HB1
    generalize jac (a1,a2) (k1,k2)=ah2 at HR HE HB2
    clear hp h1 h2 hs hG HA HB
    go_wp2_with fail
    go_region_held3 (fun w'=>w'.cell? (aq w.heap.size 0)=some (iv k1)/\w'.cell? (aq w.heap.size 1)=some (iv k2)/\w'.cell? (aq p 2)=some (iv a1)/\w'.cell? (aq p 3)=some (iv a2)) (simp [go_sem, *])
     (first|(go_at_call 129;refine (HB1.out _ bL).mono ?_;rintro e w1 ⟨rfl,b⟩
             have e0:=(b.cell (p:=(aq w.heap.size 0)) (by simp<;>omega)).trans (by simp [go_sem, *]:_=some (iv k1))
             have e1:=(b.cell (p:=(aq w.heap.size 1)) (by simp<;>omega)).trans (by simp [go_sem, *]:_=some (iv k2))
             have e2:=(b.cell (p:=(aq p 2)) (by simp<;>omega)).trans (by simp [go_sem, *]:_=some (iv a1))
             have e3:=(b.cell (p:=(aq p 3)) (by simp<;>omega)).trans (by simp [go_sem, *]:_=some (iv a2))))
    have hb1:Below w.heap.size w w1:=Below.trans (show Below w.heap.size w _ from bL) (b.mono (by simp;omega))
    have hk1:w1.heap[w.heap.size]?=some (.cells #[iv k1,iv k2] 178 (0,0)):=(b.block _ (by simp;omega)).trans hkey
    have d0:=(hb1.cell (p:=(aq p 0)) hpw).trans z0
    have d1:=(hb1.cell (p:=(aq p 1)) hpw).trans z1
    have d2:=(hb1.cell (p:=(aq p 2)) hpw).trans z2
    have d3:=(hb1.cell (p:=(aq p 3)) hpw).trans z3
    have d4:=(hb1.cell (p:=(aq p 4)) hpw).trans z4
    have hpw1:p<w1.heap.size:=Nat.lt_of_lt_of_le hpw hb1.size
    have hsz1:w.heap.size<w1.heap.size:=(blt hk1)
    obtain ⟨r0,r1⟩:=je0 hk1
    clear b c0 c1 c2 c3 c4 hbel hkey q0 q1 e0 e1 e2 e3
    cases ah
    ·go_wp2_with fail
     go_region_held3 (fun w'=>w'.cell? (aq w.heap.size 0)=some (iv k1)/\w'.cell? (aq w.heap.size 1)=some (iv k2)/\w'.cell? (aq p 2)=some (iv a1)/\w'.cell? (aq p 3)=some (iv a2)) (simp [go_sem, *])
      (first|(go_at_call 129;refine (HB2.out _ bL).mono ?_;rintro e w2 ⟨rfl,b⟩
              have e0:=(b.cell (p:=(aq w.heap.size 0)) (by simp<;>omega)).trans (by simp [go_sem, *]:_=some (iv k1))
              have e1:=(b.cell (p:=(aq w.heap.size 1)) (by simp<;>omega)).trans (by simp [go_sem, *]:_=some (iv k2))
              have e2:=(b.cell (p:=(aq p 2)) (by simp<;>omega)).trans (by simp [go_sem, *]:_=some (iv a1))
              have e3:=(b.cell (p:=(aq p 3)) (by simp<;>omega)).trans (by simp [go_sem, *]:_=some (iv a2))))
     have hb2:Below w.heap.size w w2:=Below.trans (show Below w.heap.size w _ from bL) (b.mono (by simp;omega))
     have hk2:w2.heap[w.heap.size]?=some (.cells #[iv k1,iv k2] 178 (0,0)):=(b.block _ (by simp;omega)).trans hk1
     have f1:=(hb2.cell (p:=(aq p 1)) hpw).trans z1
     have f4:=(hb2.cell (p:=(aq p 4)) hpw).trans z4
     have hpw2:p<w2.heap.size:=Nat.lt_of_lt_of_le hpw hb2.size
     clear b d0 d1 d2 d3 d4 r0 r1 hb1 hk1 e0 e1 e2 e3 z0 z1 z2 z3 z4
     cases ah2
     ·have hG:G=some v:=by simpa using HE.out
      subst hG
      go_wp2
      go_ret2
      exact ⟨rfl,hb2⟩
     ·go_wp2
      go_roundw
      case rel=>exact ⟨r,rfl,HR.out rfl,hb2,hk2⟩
      case measure=>exact HM.out.2
    ·go_wp2
     go_roundw
     case rel=>exact ⟨l,rfl,HL.out rfl,hb1,hk1⟩
     case measure=>exact HM.out.1
end
end Go.Proofs.YtfhncfghblkgeaaGreat
