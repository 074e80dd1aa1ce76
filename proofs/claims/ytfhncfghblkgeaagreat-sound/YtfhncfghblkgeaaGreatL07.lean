import Derived.Test.YtfhncfghblkgeaaGreatL06
set_option maxRecDepth 100000
set_option maxHeartbeats 2000000
namespace Go.Proofs.YtfhncfghblkgeaaGreat
open Go.RowKit
section
def Sal.cancel (S:Sal) (r:Req):Rep × Sal:=match jgt S.os r.cust r.order with
 | none=>(⟨9,0,0,0⟩,S)
 | some i=>if (S.os.getD i ja2).state≠13/\(S.os.getD i ja2).state≠12 then (⟨9,0,0,0⟩,S) else (⟨8,r.order,0,0⟩,(S.ends i 16).promote)
theorem jjr:∀ (n:Nat) (S:Sal),(jam n S).os.length=S.os.length
 | 0,_=>rfl
 | n+1,S=>by
   unfold jam
   split
   ·rfl
   ·split
    ·rfl
    ·rw [jjr n]
     simp [Sal.holds,Sal.put]
theorem jdy (S:Sal):S.promote.os.length=S.os.length:=jjr _ S
theorem jcx (S:Sal) (i:Nat) (st:Int):(S.ends i st).os.length=S.os.length:=by simp [Sal.ends,Sal.put]
section
variable {w w':World} {B R:Nat} {S:Sal} {ap:Option Addr} {lp cp:Nat} {vo va:Value}
end
end
theorem jld {own:Nat->Prop} {a w:World} (h:Same own a w):Same own a w.drew:=⟨h.os,h.tape,h.output,h.size,h.block⟩
def jcr (S:Sal) (qs:List Nat):Sal:=qs.foldl (fun S q=>if S.left<(S.os.getD q ja2).units then S.ends q 18 else S) S
section
def Sal.confirm (S:Sal) (r:Req):Rep × Sal:=match jgt S.os r.cust r.order with
 | none=>(⟨9,0,0,0⟩,S)
 | some i=>if (S.os.getD i ja2).state≠13 then (⟨9,0,0,0⟩,S) else
   (⟨7,r.order,((jcr (S.ends i 14) (ja5 (S.ends i 14).os)).promote.os.getD i ja2).units * ((jcr (S.ends i 14) (ja5 (S.ends i 14).os)).promote.os.getD i ja2).cents,0⟩,(jcr (S.ends i 14) (ja5 (S.ends i 14).os)).promote)
theorem jhi {n:Nat}:∀ (qs:List Nat) (S:Sal),salI S->S.os.length=n->(∀ q∈qs,q<n)->salI (jcr S qs)/\(jcr S qs).os.length=n
 | [],S,h,hn,_=>⟨h,hn⟩
 | q :: qs,S,h,hn,hq=>by
   have hq':∀ q∈qs,q<n:=fun x hx=>hq x (List.mem_cons_of_mem _ hx)
   have e:jcr S (q :: qs)=jcr (if S.left<(S.os.getD q ja2).units then S.ends q 18 else S) qs:=rfl
   rw [e]
   split
   ·exact jhi qs _ (jij h (by rw [hn];exact hq q List.mem_cons_self) 18 (.inr (by decide)) (fun e=>by cases e)) ((jcx S q 18).trans hn) hq'
   ·exact jhi qs _ h hn hq'
theorem jjk:∀ (n:Nat) (S:Sal),salI S->salI (jam n S)
 | 0,_,h=>h
 | n+1,S,h=>by
   unfold jam
   split
   ·exact h
   ·next q qs hq =>
    split
    ·exact h
    ·next hf =>
     obtain ⟨_,hql,hqw⟩:=jcc hq ja2 (by decide)
     exact jjk n _ (jov h hql hqw hf _ rfl rfl rfl ⟨je8 h.prices _ _ (Nat.le_refl _),(h.ords _ (jb2 hql)).2⟩)
theorem jft (S:Sal) (h:salI S):salI S.promote:=jjk _ S h
section
variable {w w':World} {B R:Nat} {S:Sal} {ap:Option Addr} {lp cp:Nat} {vo va:Value}
end
end
def dry (left now:Int) (o:Ord):Ord:=if o.state=12/\left<o.units then { o with state:=18,ended:=now } else o
def Sal.drained (S:Sal):Sal:={ S with os:=S.os.map (dry S.left S.now) }
theorem jp1 {S:Sal} {q:Nat} (hq:q<S.os.length) (hw:(S.os.getD q ja2).state=12):(S.ends q 18).left=S.left:=by
 show S.C.stock - ja3 (S.os.set q _) 14 0=S.C.stock - ja3 S.os 14 0
 rw [jc5 hq]
 have h1:(S.os.getD q ja2).part 14 0=0:=by
  generalize S.os.getD q ja2=p at hw
  simp [Ord.part,Ord.is,hw]
 have h2:({ S.os.getD q ja2 with state:=18,ended:=S.now }:Ord).part 14 0=0:=by simp [Ord.part,Ord.is]
 omega
theorem jk0 {S:Sal} {q:Nat} (hq:q<S.os.length) (hw:(S.os.getD q ja2).state=12) (hu:S.left<(S.os.getD q ja2).units):(S.ends q 18).drained=S.drained:=by
 have hl:=jp1 hq hw
 unfold Sal.drained
 rw [hl]
 have hn:(S.ends q 18).now=S.now:=rfl
 rw [hn]
 have he:(S.ends q 18).os.map (dry S.left S.now)=S.os.map (dry S.left S.now):=by
  apply List.ext_getElem?
  intro i
  show ((S.os.set q { S.os.getD q ja2 with state:=18,ended:=S.now }).map (dry S.left S.now))[i]?=_
  rw [List.getElem?_map,List.getElem?_map,List.getElem?_set]
  by_cases e:q=i
  ·subst e
   rw [if_pos rfl,if_pos hq]
   have e1:S.os[q]?=some (S.os.getD q ja2):=by simp [List.getD,List.getElem?_eq_getElem hq]
   rw [e1]
   simp only [Option.map_some,Option.some.injEq]
   generalize S.os.getD q ja2=p at hw hu
   show dry S.left S.now { p with state:=18,ended:=S.now }=dry S.left S.now p
   unfold dry
   rw [if_neg (fun c=>by have:=c.1;simp at this),if_pos ⟨hw,hu⟩]
  ·rw [if_neg e]
 rw [he]
 rfl
theorem jjz {S:Sal} (h:∀ o∈S.os,o.state=12->o.units<=S.left):S.drained=S:=by
 unfold Sal.drained
 have:S.os.map (dry S.left S.now)=S.os:=by
  conv=>rhs;rw [← List.map_id S.os]
  apply List.map_congr_left
  intro o ho
  unfold dry
  rw [if_neg (fun c=>by have:=h o ho c.1;have:=c.2;omega)]
  rfl
 rw [this]
theorem jjb:∀ (qs:List Nat) (S:Sal),qs.Nodup->(∀ q∈qs,q<S.os.length/\(S.os.getD q ja2).state=12)->(∀ i,i<S.os.length->i ∉ qs->(S.os.getD i ja2).state=12->(S.os.getD i ja2).units<=S.left)->jcr S qs=S.drained
 | [],S,_,_,h=>by
   refine (jjz (fun o ho hs=>?_)).symm
   obtain ⟨i,hi,rfl⟩:=List.getElem_of_mem ho
   have hi':i<S.os.length:=hi
   have e:S.os.getD i ja2=S.os[i]'hi':=by simp [List.getD,List.getElem?_eq_getElem hi']
   have:=h i hi' (by simp)
   rw [e] at this
   exact this hs
 | q :: qs,S,hn,hq,h=>by
   obtain ⟨hq1,hq2⟩:=hq q List.mem_cons_self
   obtain ⟨hn1,hn2⟩:=List.nodup_cons.1 hn
   have e:jcr S (q :: qs)=jcr (if S.left<(S.os.getD q ja2).units then S.ends q 18 else S) qs:=rfl
   rw [e]
   by_cases hu:S.left<(S.os.getD q ja2).units
   ·rw [if_pos hu,← jk0 hq1 hq2 hu]
    have ha:∀ i,((S.ends q 18).os.getD i ja2)=if i=q then { S.os.getD q ja2 with state:=18,ended:=S.now } else S.os.getD i ja2:=fun i=>jb4 _ hq1
    refine jjb qs _ hn2 (fun x hx=>?_) (fun i hi hx hs=>?_)
    ·obtain ⟨a,b⟩:=hq x (List.mem_cons_of_mem _ hx)
     refine ⟨by rw [jcx];exact a,?_⟩
     rw [ha,if_neg (by rintro rfl;exact hn1 hx)]
     exact b
    ·rw [jp1 hq1 hq2]
     rw [ha] at hs ⊢
     by_cases e:i=q
     ·rw [if_pos e] at hs;cases hs
     ·rw [if_neg e] at hs ⊢
      exact h i (by rw [jcx] at hi;exact hi) (fun c=>(List.mem_cons.1 c).elim e hx) hs
   ·rw [if_neg hu]
    refine jjb qs _ hn2 (fun x hx=>hq x (List.mem_cons_of_mem _ hx)) (fun i hi hx hs=>?_)
    by_cases e:i=q
    ·subst e;omega
    ·exact h i hi (fun c=>(List.mem_cons.1 c).elim e hx) hs
theorem jc6 (S:Sal):jcr S (ja5 S.os)=S.drained:=by
 refine jjb _ S ?_ (fun q hq=>(jbc S.os _ q).1 hq) (fun i hi hx hs=>absurd ((jbc S.os _ i).2 ⟨hi,hs⟩) hx)
 exact (jdn S.os _).imp (fun h=>by omega)
theorem jfp {l:List Ent} {k:Int × Int} {v:Int} {e:Ent}:e∈jbd k v l↔e=(k,v)\/(e∈l/\e.1≠k):=by
 unfold jbd
 rw [List.mem_append,List.mem_cons,List.mem_filter,List.mem_filter]
 constructor
 ·rintro (⟨h1,h2⟩|h|⟨h1,h2⟩)
  ·exact .inr ⟨h1,jbl h2⟩
  ·exact .inl h
  ·exact .inr ⟨h1,(jbl h2).symm⟩
 ·rintro (h|⟨h1,h2⟩)
  ·exact .inr (.inl h)
  ·cases ha:jab e.1 k
   ·cases hb:jab k e.1
    ·exact absurd (jig ha hb) h2
    ·exact .inr (.inr ⟨h1,rfl⟩)
   ·exact .inl ⟨h1,rfl⟩
theorem jnm {l:List Ent} {k:Int × Int} {e:Ent}:e∈jcp k l↔e∈l/\e.1≠k:=by
 unfold jcp
 rw [List.mem_filter]
 simp
theorem qbs {l:List Ent} (hs:srt l) {x y:Ent} (hx:x∈l) (hy:y∈l) (h:x.1=y.1):x=y:=by
 induction l with
 | nil=>simp at hx
 | cons a l ih =>
   obtain ⟨h1,h2⟩:=List.pairwise_cons.1 hs
   rcases List.mem_cons.1 hx with e1|hx'<;>rcases List.mem_cons.1 hy with e2|hy'
   ·rw [e1,e2]
   ·rw [e1] at h;exact absurd h (jbl (h1 _ hy'))
   ·rw [e2] at h;exact absurd h.symm (jbl (h1 _ hx'))
   ·exact ih h2 hx' hy'
theorem jg4 {l:List Ent} (hs:srt l) {k:Int × Int} {v:Int}:jb0 k l=some v↔(k,v)∈l:=by
 constructor
 ·exact jfw
 ·intro h
  cases hg:jb0 k l with
  | none=>exact absurd rfl (je0.1 hg _ h)
  | some u =>
    have:=qbs hs (jfw hg) h rfl
    simp only [Prod.mk.injEq,true_and] at this
    rw [this]
theorem jkj {l:List Ent} {k:Int × Int} {v:Int} (h:jb0 k l=none):(jbd k v l).length=l.length+1:=(jsd h).length_eq.trans (by simp)
theorem jej {l:List Ent} (hs:srt l) {k:Int × Int} {v u:Int} (h:jb0 k l=some u):(jbd k v l).length=l.length:=by
 obtain ⟨A,B,e⟩:=List.append_of_mem (jfw h)
 subst e
 rw [js8 hs rfl]
 simp
theorem jjj {l:List Ent} (hs:srt l) {k:Int × Int} {u:Int} (h:jb0 k l=some u):(jcp k l).length+1=l.length:=by
 obtain ⟨A,B,e⟩:=List.append_of_mem (jfw h)
 subst e
 rw [jnv hs rfl]
 simp;omega
theorem jzq {l:List Ent} (hs:srt l) {x:Ent} (hx:x∈l) (hmin:∀ y∈l,y≠x->jab x.1 y.1=true):l.headD ((0,0),0)=x:=by
 cases l with
 | nil=>simp at hx
 | cons a l =>
   obtain ⟨h1,_⟩:=List.pairwise_cons.1 hs
   show a=x
   rcases List.mem_cons.1 hx with e|hx
   ·exact e.symm
   ·refine Classical.byContradiction fun hne=>?_
    have h2:=hmin a List.mem_cons_self hne
    have h3:=h1 _ hx
    rw [jdh h3] at h2
    cases h2
theorem jop {l:List Ent} (h:l≠[]):l.headD ((0,0),0)∈l:=by
 cases l with
 | nil=>exact absurd rfl h
 | cons a l=>exact List.mem_cons_self
theorem jqp {l:List Ent} (hs:srt l) {y:Ent} (hy:y∈l):y=l.headD ((0,0),0)\/jab (l.headD ((0,0),0)).1 y.1=true:=by
 cases l with
 | nil=>simp at hy
 | cons a l =>
   rcases List.mem_cons.1 hy with e|hy
   ·exact .inl e
   ·exact .inr ((List.pairwise_cons.1 hs).1 _ hy)
def jd1 (T:List Ent) (os:List Ord):Prop:=srt T/\∀ e,e∈T↔∃ i,i<os.length/\(os.getD i ja2).state=12/\e=(((i:Int)+1,0),0)
def jbr (Z:List Ent) (os:List Ord):Prop:=srt Z/\∀ e,e∈Z↔∃ i,i<os.length/\(os.getD i ja2).state=12/\e=((-(os.getD i ja2).units,(i:Int)+1),0)
def jdp (L:List Ent) (f:Int->Int->Int):Prop:=srt L/\∀ e,e∈L↔e.1.1≠0/\(e.1.2=12\/e.1.2=13\/e.1.2=14)/\e.2=f e.1.2 e.1.1/\e.2≠0
theorem jwm:jd1 [] []:=⟨List.Pairwise.nil,fun e=>by simp⟩
theorem jxa:jbr [] []:=⟨List.Pairwise.nil,fun e=>by simp⟩
theorem jzx:jdp [] (fun _ _=>0):=⟨List.Pairwise.nil,fun e=>by
 constructor
 ·intro h;simp at h
 ·rintro ⟨_,_,h1,h2⟩;exact absurd h1 h2⟩
theorem jsf {L:List Ent} {f:Int->Int->Int} (h:jdp L f) {c st:Int} (hc:c≠0) (hst:st=12\/st=13\/st=14):jb0 (c,st) L=if f st c=0 then none else some (f st c):=by
 by_cases h0:f st c=0
 ·rw [if_pos h0,je0]
  intro e he hk
  obtain ⟨_,_,h3,h4⟩:=(h.2 e).1 he
  rw [hk] at h3
  exact h4 (h3.trans h0)
 ·rw [if_neg h0,jg4 h.1,h.2]
  exact ⟨hc,hst,rfl,h0⟩
def jgi (L:List Ent) (c st d:Int):List Ent:=if (jb0 (c,st) L).getD 0+d=0 then jcp (c,st) L else jbd (c,st) ((jb0 (c,st) L).getD 0+d) L
def jxm (f:Int->Int->Int) (c st d:Int):Int->Int->Int:=fun st' c'=>if st'=st/\c'=c then f st c+d else f st' c'
theorem jyn {L:List Ent} {f:Int->Int->Int} (h:jdp L f) {c st:Int} (d:Int) (hc:c≠0) (hst:st=12\/st=13\/st=14):jdp (jgi L c st d) (jxm f c st d):=by
 have hg:(jb0 (c,st) L).getD 0=f st c:=by
  rw [jsf h hc hst]
  split
  ·next e=>simp [e]
  ·rfl
 unfold jgi
 rw [hg]
 split
 ·next e0 =>
  refine ⟨jip _ h.1,fun e=>?_⟩
  rw [jnm,h.2]
  obtain ⟨⟨e1,e2⟩,v⟩:=e
  simp only [jxm,ne_eq,Prod.mk.injEq]
  by_cases hk:e2=st/\e1=c
  ·rw [if_pos hk]
   constructor
   ·rintro ⟨_,hx⟩;exact absurd ⟨hk.2,hk.1⟩ hx
   ·rintro ⟨_,_,h1,h2⟩;rw [e0] at h1;exact absurd h1 h2
  ·rw [if_neg hk]
   constructor
   ·rintro ⟨hx,_⟩;exact hx
   ·intro hx;exact ⟨hx,fun c=>hk ⟨c.2,c.1⟩⟩
 ·next e0 =>
  refine ⟨jfo _ _ h.1,fun e=>?_⟩
  rw [jfp,h.2]
  obtain ⟨⟨e1,e2⟩,v⟩:=e
  simp only [jxm,ne_eq,Prod.mk.injEq]
  by_cases hk:e2=st/\e1=c
  ·rw [if_pos hk]
   obtain ⟨rfl,rfl⟩:=hk
   constructor
   ·rintro (⟨_,h1⟩|⟨_,hx⟩)
    ·exact ⟨hc,hst,h1,by rw [h1];exact e0⟩
    ·exact absurd ⟨rfl,rfl⟩ hx
   ·rintro ⟨_,_,h1,h2⟩;exact .inl ⟨⟨rfl,rfl⟩,h1⟩
  ·rw [if_neg hk]
   constructor
   ·rintro (⟨⟨h1,h2⟩,_⟩|⟨hx,_⟩)
    ·exact absurd ⟨h2,h1⟩ hk
    ·exact hx
   ·intro hx;exact .inr ⟨hx,fun c=>hk ⟨c.2,c.1⟩⟩
def jd4 (os:List Ord):Int->Int->Int:=fun st c=>ja3 os st c
def isL (st:Int):Prop:=st=12\/st=13\/st=14
instance (st:Int):Decidable (isL st):=by unfold isL;infer_instance
def jm4 (L:List Ent) (c st d:Int):List Ent:=if isL st then jgi L c st d else L
theorem jkf {L:List Ent} {f g:Int->Int->Int} (h:jdp L f) (he:∀ st c,c≠0->isL st->f st c=g st c):jdp L g:=by
 refine ⟨h.1,fun e=>(h.2 e).trans ?_⟩
 constructor
 ·rintro ⟨h1,h2,h3,h4⟩;exact ⟨h1,h2,by rw [← he _ _ h1 h2];exact h3,h4⟩
 ·rintro ⟨h1,h2,h3,h4⟩;exact ⟨h1,h2,by rw [he _ _ h1 h2];exact h3,h4⟩
theorem jhl {L:List Ent} {f:Int->Int->Int} (h:jdp L f) {c st:Int} (d:Int) (hc:c≠0):jdp (jm4 L c st d) (jxm f c st d):=by
 unfold jm4
 split
 ·next hst=>exact jyn h d hc hst
 ·next hst =>
  refine jkf h (fun st' c' _ hl=>?_)
  unfold jxm
  rw [if_neg (by rintro ⟨e,_⟩;exact hst (e▸hl))]
theorem jkp {o:Ord} {st c:Int} (hc:c≠0):o.part st c=if st=o.state/\c=o.cust then o.units else 0:=by
 unfold Ord.part
 by_cases h1:st=o.state/\c=o.cust
 ·rw [if_pos h1,if_pos]
  unfold Ord.is
  rw [← h1.1,← h1.2]
  simp
 ·rw [if_neg h1,if_neg]
  intro hh
  unfold Ord.is at hh
  simp only [Bool.and_eq_true,Bool.or_eq_true,beq_iff_eq] at hh
  exact h1 ⟨hh.1.symm,(hh.2.resolve_left hc).symm⟩
theorem jno (f:Int->Int->Int) (c0 s d s' c':Int):jxm f c0 s d s' c'=f s' c'+if s'=s/\c'=c0 then d else 0:=by
 unfold jxm
 split
 ·next h=>rw [h.1,h.2]
 ·omega
theorem jv5 {L:List Ent} {os:List Ord} (h:jdp L (jd4 os)) {i:Nat} (hi:i<os.length) (o:Ord) (h1:o.cust=(os.getD i ja2).cust) (h2:o.units=(os.getD i ja2).units) (hc:o.cust≠0):jdp (jm4 (jm4 L o.cust (os.getD i ja2).state (-o.units)) o.cust o.state o.units) (jd4 (os.set i o)):=by
 refine jkf (jhl (jhl h (-o.units) hc) o.units hc) (fun st c hc' hl=>?_)
 rw [jno,jno]
 unfold jd4
 rw [jc5 hi,jkp hc',jkp hc',← h1,← h2]
 generalize ja3 os st c=U
 split<;>split<;>omega
theorem jv3 {L:List Ent} {os:List Ord} (h:jdp L (jd4 os)) (o:Ord) (hc:o.cust≠0):jdp (jm4 L o.cust o.state o.units) (jd4 (os++[o])):=by
 refine jkf (jhl h o.units hc) (fun st c hc' hl=>?_)
 rw [jno]
 unfold jd4
 rw [jc0,jkp hc']
theorem jw3 {T:List Ent} {os:List Ord} (h:jd1 T os) {i:Nat} (hi:i<os.length) (o:Ord) (ho:o.state≠12):jd1 (jcp ((i:Int)+1,0) T) (os.set i o):=by
 refine ⟨jip _ h.1,fun e=>?_⟩
 rw [jnm,h.2]
 constructor
 ·rintro ⟨⟨j,h1,h2,rfl⟩,h4⟩
  have hji:j≠i:=fun e=>h4 (by rw [e])
  exact ⟨j,by simpa using h1,by rw [jb4 o hi,if_neg hji];exact h2,rfl⟩
 ·rintro ⟨j,h1,h2,rfl⟩
  rw [jb4 o hi] at h2
  by_cases e:j=i
  ·rw [if_pos e] at h2;exact absurd h2 ho
  ·rw [if_neg e] at h2
   exact ⟨⟨j,by simpa using h1,h2,rfl⟩,fun c=>e (by simp at c;omega)⟩
theorem joh {T:List Ent} {os:List Ord} (h:jbr T os) {i:Nat} (hi:i<os.length) (o:Ord) (ho:o.state≠12):jbr (jcp (-(os.getD i ja2).units,(i:Int)+1) T) (os.set i o):=by
 refine ⟨jip _ h.1,fun e=>?_⟩
 rw [jnm,h.2]
 constructor
 ·rintro ⟨⟨j,h1,h2,rfl⟩,h4⟩
  have hji:j≠i:=fun e=>h4 (by rw [e])
  exact ⟨j,by simpa using h1,by rw [jb4 o hi,if_neg hji];exact h2,by rw [jb4 o hi,if_neg hji]⟩
 ·rintro ⟨j,h1,h2,rfl⟩
  rw [jb4 o hi] at h2 ⊢
  by_cases e:j=i
  ·rw [if_pos e] at h2;exact absurd h2 ho
  ·rw [if_neg e] at h2 ⊢
   exact ⟨⟨j,by simpa using h1,h2,rfl⟩,fun c=>e (by simp at c;omega)⟩
theorem jtc {T:List Ent} {os:List Ord} (h:jd1 T os) {i:Nat} (hi:i<os.length) (o:Ord) (ho:o.state≠12) (hs:(os.getD i ja2).state≠12):jd1 T (os.set i o):=by
 refine ⟨h.1,fun e=>(h.2 e).trans ?_⟩
 constructor
 ·rintro ⟨j,h1,h2,rfl⟩
  have hji:j≠i:=fun e=>hs (e▸h2)
  exact ⟨j,by simpa using h1,by rw [jb4 o hi,if_neg hji];exact h2,rfl⟩
 ·rintro ⟨j,h1,h2,rfl⟩
  rw [jb4 o hi] at h2
  by_cases e:j=i
  ·rw [if_pos e] at h2;exact absurd h2 ho
  ·rw [if_neg e] at h2;exact ⟨j,by simpa using h1,h2,rfl⟩
theorem ju7 {T:List Ent} {os:List Ord} (h:jbr T os) {i:Nat} (hi:i<os.length) (o:Ord) (ho:o.state≠12) (hs:(os.getD i ja2).state≠12):jbr T (os.set i o):=by
 refine ⟨h.1,fun e=>(h.2 e).trans ?_⟩
 constructor
 ·rintro ⟨j,h1,h2,rfl⟩
  have hji:j≠i:=fun e=>hs (e▸h2)
  exact ⟨j,by simpa using h1,by rw [jb4 o hi,if_neg hji];exact h2,by rw [jb4 o hi,if_neg hji]⟩
 ·rintro ⟨j,h1,h2,rfl⟩
  rw [jb4 o hi] at h2 ⊢
  by_cases e:j=i
  ·rw [if_pos e] at h2;exact absurd h2 ho
  ·rw [if_neg e] at h2 ⊢;exact ⟨j,by simpa using h1,h2,rfl⟩
theorem jax {os:List Ord} {o:Ord} {j:Nat} (h:j<os.length+1):(os++[o]).getD j ja2=if j=os.length then o else os.getD j ja2:=by
 simp only [List.getD]
 by_cases e:j=os.length
 ·subst e;simp
 ·rw [if_neg e,List.getElem?_append_left (by omega)]
theorem jzu {T:List Ent} {os:List Ord} (h:jd1 T os) (o:Ord) (ho:o.state=12):jd1 (jbd ((os.length:Int)+1,0) 0 T) (os++[o]):=by
 refine ⟨jfo _ _ h.1,fun e=>?_⟩
 rw [jfp,h.2]
 constructor
 ·rintro (rfl|⟨⟨j,h1,h2,rfl⟩,_⟩)
  ·exact ⟨os.length,by simp,by rw [jax (by omega),if_pos rfl];exact ho,rfl⟩
  ·exact ⟨j,by simp;omega,by rw [jax (by omega),if_neg (by omega)];exact h2,rfl⟩
 ·rintro ⟨j,h1,h2,rfl⟩
  have h1':j<os.length+1:=by simpa using h1
  rw [jax h1'] at h2
  by_cases e:j=os.length
  ·exact .inl (by rw [e])
  ·rw [if_neg e] at h2
   exact .inr ⟨⟨j,by omega,h2,rfl⟩,fun c=>e (by simp at c;omega)⟩
theorem jze {T:List Ent} {os:List Ord} (h:jbr T os) (o:Ord) (ho:o.state=12):jbr (jbd (-o.units,(os.length:Int)+1) 0 T) (os++[o]):=by
 refine ⟨jfo _ _ h.1,fun e=>?_⟩
 rw [jfp,h.2]
 constructor
 ·rintro (rfl|⟨⟨j,h1,h2,rfl⟩,_⟩)
  ·exact ⟨os.length,by simp,by rw [jax (by omega),if_pos rfl];exact ho,by rw [jax (by omega),if_pos rfl]⟩
  ·exact ⟨j,by simp;omega,by rw [jax (by omega),if_neg (by omega)];exact h2,by rw [jax (by omega),if_neg (by omega)]⟩
 ·rintro ⟨j,h1,h2,rfl⟩
  have h1':j<os.length+1:=by simpa using h1
  rw [jax h1'] at h2 ⊢
  by_cases e:j=os.length
  ·exact .inl (by rw [if_pos e,e])
  ·rw [if_neg e] at h2 ⊢
   exact .inr ⟨⟨j,by omega,h2,rfl⟩,fun c=>e (by simp at c;omega)⟩
theorem juc {T:List Ent} {os:List Ord} (h:jd1 T os) (o:Ord) (ho:o.state≠12):jd1 T (os++[o]):=by
 refine ⟨h.1,fun e=>(h.2 e).trans ?_⟩
 constructor
 ·rintro ⟨j,h1,h2,rfl⟩
  exact ⟨j,by simp;omega,by rw [jax (by omega),if_neg (by omega)];exact h2,rfl⟩
 ·rintro ⟨j,h1,h2,rfl⟩
  have h1':j<os.length+1:=by simpa using h1
  rw [jax h1'] at h2
  by_cases e:j=os.length
  ·rw [if_pos e] at h2;exact absurd h2 ho
  ·rw [if_neg e] at h2;exact ⟨j,by omega,h2,rfl⟩
theorem jt3 {T:List Ent} {os:List Ord} (h:jbr T os) (o:Ord) (ho:o.state≠12):jbr T (os++[o]):=by
 refine ⟨h.1,fun e=>(h.2 e).trans ?_⟩
 constructor
 ·rintro ⟨j,h1,h2,rfl⟩
  exact ⟨j,by simp;omega,by rw [jax (by omega),if_neg (by omega)];exact h2,by rw [jax (by omega),if_neg (by omega)]⟩
 ·rintro ⟨j,h1,h2,rfl⟩
  have h1':j<os.length+1:=by simpa using h1
  rw [jax h1'] at h2 ⊢
  by_cases e:j=os.length
  ·rw [if_pos e] at h2;exact absurd h2 ho
  ·rw [if_neg e] at h2 ⊢;exact ⟨j,by omega,h2,rfl⟩
theorem jp2 {T:List Ent} {os:List Ord} (h:jd1 T os) {q:Nat} {qs:List Nat} (hq:ja5 os=q :: qs):T.headD ((0,0),0)=(((q:Int)+1,0),0):=by
 have hm:q∈ja5 os:=by rw [hq];simp
 obtain ⟨h1,h2⟩:=(jbc os _ q).1 hm
 refine jzq h.1 ((h.2 _).2 ⟨q,h1,h2,rfl⟩) (fun y hy hne=>?_)
 obtain ⟨j,a,b,rfl⟩:=(h.2 _).1 hy
 have hj:j∈q :: qs:=by rw [← hq];exact (jbc os _ j).2 ⟨a,b⟩
 have hs':(q :: qs).Pairwise (·<·):=by rw [← hq];exact jdn os os.length
 rcases List.mem_cons.1 hj with rfl|hj
 ·exact absurd rfl hne
 ·have:=List.rel_of_pairwise_cons hs' hj
  rw [je5]
  exact .inl (by show (q:Int)+1<(j:Int)+1;omega)
theorem jkr {T:List Ent} {os:List Ord} (h:jd1 T os):T=[]↔ja5 os=[]:=by
 constructor
 ·rintro rfl
  rw [List.eq_nil_iff_forall_not_mem]
  intro q hq
  obtain ⟨h1,h2⟩:=(jbc os _ q).1 hq
  have:=(h.2 _).2 ⟨q,h1,h2,rfl⟩
  simp at this
 ·intro hq
  rw [List.eq_nil_iff_forall_not_mem]
  intro e he
  obtain ⟨j,a,b,_⟩:=(h.2 e).1 he
  have:j∈ja5 os:=(jbc os _ j).2 ⟨a,b⟩
  rw [hq] at this
  simp at this
theorem jlm {T:List Ent} {os:List Ord} (h:jbr T os):T=[]↔ja5 os=[]:=by
 constructor
 ·rintro rfl
  rw [List.eq_nil_iff_forall_not_mem]
  intro q hq
  obtain ⟨h1,h2⟩:=(jbc os _ q).1 hq
  have:=(h.2 _).2 ⟨q,h1,h2,rfl⟩
  simp at this
 ·intro hq
  rw [List.eq_nil_iff_forall_not_mem]
  intro e he
  obtain ⟨j,a,b,_⟩:=(h.2 e).1 he
  have:j∈ja5 os:=(jbc os _ j).2 ⟨a,b⟩
  rw [hq] at this
  simp at this
theorem jos {Z:List Ent} {os:List Ord} (h:jbr Z os) (hn:Z≠[]):∃ i,i<os.length/\(os.getD i ja2).state=12/\Z.headD ((0,0),0)=((-(os.getD i ja2).units,(i:Int)+1),0)/\∀ j,j<os.length->(os.getD j ja2).state=12->(os.getD j ja2).units<=(os.getD i ja2).units:=by
 obtain ⟨i,a,b,e⟩:=(h.2 _).1 (jop hn)
 refine ⟨i,a,b,e,fun j hj hs=>?_⟩
 have:=jqp h.1 ((h.2 _).2 ⟨j,hj,hs,rfl⟩)
 rw [e] at this
 rcases this with c|c
 ·have:=congrArg (fun e:Ent=>e.1.1) c
  simp only at this
  omega
 ·rw [je5] at c
  simp only at c
  omega
theorem jrw {a b:List Ent} (ha:srt a) (hb:srt b) (h:∀ e,e∈a↔e∈b):a=b:=by
 induction a generalizing b with
 | nil =>
   symm
   rw [List.eq_nil_iff_forall_not_mem]
   intro e he
   have:=(h e).2 he
   simp at this
 | cons x a ih =>
   cases b with
   | nil=>have:=(h x).1 List.mem_cons_self;simp at this
   | cons y b =>
     obtain ⟨ha1,ha2⟩:=List.pairwise_cons.1 ha
     obtain ⟨hb1,hb2⟩:=List.pairwise_cons.1 hb
     have hxy:x=y:=by
      rcases List.mem_cons.1 ((h x).1 List.mem_cons_self) with e|hx
      ·exact e
      ·rcases List.mem_cons.1 ((h y).2 List.mem_cons_self) with e|hy
       ·exact e.symm
       ·have:=jdh (hb1 _ hx)
        rw [ha1 _ hy] at this
        cases this
     subst hxy
     congr 1
     refine ih ha2 hb2 (fun e=>?_)
     constructor
     ·intro he
      rcases List.mem_cons.1 ((h e).1 (List.mem_cons_of_mem _ he)) with c|c
      ·exact absurd (congrArg Prod.fst c).symm (jbl (ha1 _ he))
      ·exact c
     ·intro he
      rcases List.mem_cons.1 ((h e).2 (List.mem_cons_of_mem _ he)) with c|c
      ·exact absurd (congrArg Prod.fst c).symm (jbl (hb1 _ he))
      ·exact c
theorem jwe {T:List Ent} {os:List Ord} (h:jd1 T os):T.length=(ja5 os).length:=by
 have e:T=(ja5 os).map (fun i=>((((i:Nat):Int)+1,(0:Int)),(0:Int))):=by
  refine jrw h.1 ?_ (fun e=>(h.2 e).trans ?_)
  ·unfold srt
   rw [List.pairwise_map]
   refine (jdn os _).imp (fun {a b} hab=>?_)
   rw [je5]
   exact .inl (by show (a:Int)+1<(b:Int)+1;omega)
  ·rw [List.mem_map]
   constructor
   ·rintro ⟨i,a,b,rfl⟩
    exact ⟨i,(jbc os _ i).2 ⟨a,b⟩,rfl⟩
   ·rintro ⟨i,a,rfl⟩
    obtain ⟨x,y⟩:=(jbc os _ i).1 a
    exact ⟨i,x,y,rfl⟩
 rw [e,List.length_map]
end Go.Proofs.YtfhncfghblkgeaaGreat
