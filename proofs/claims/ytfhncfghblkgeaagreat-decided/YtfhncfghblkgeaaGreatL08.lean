import Derived.Test.YtfhncfghblkgeaaGreatL07
set_option maxRecDepth 100000
set_option maxHeartbeats 2000000
namespace Go.Proofs.YtfhncfghblkgeaaGreat
open Go.RowKit
section
def Sal.cancel (S:Sal) (r:Req):Rep × Sal:=match jfo S.os r.cust r.order with
 | none=>(⟨9,0,0,0⟩,S)
 | some i=>if (S.os.getD i ja3).state≠13/\(S.os.getD i ja3).state≠12 then (⟨9,0,0,0⟩,S) else (⟨8,r.order,0,0⟩,(S.ends i 16).promote)
theorem jkk:∀ (n:Nat) (S:Sal),(jak n S).os.length=S.os.length
 | 0,_=>rfl
 | n+1,S=>by
   unfold jak
   split
   ·rfl
   ·split
    ·rfl
    ·rw [jkk n]
     simp [Sal.holds,Sal.put]
theorem je5 (S:Sal):S.promote.os.length=S.os.length:=jkk _ S
theorem jd6 (S:Sal) (i:Nat) (st:Int):(S.ends i st).os.length=S.os.length:=by simp [Sal.ends,Sal.put]
section
variable {w w':World} {B R:Nat} {S:Sal} {ap:Option Addr} {lp cp:Nat} {vo va:Value}
end
end
theorem jmp {own:Nat->Prop} {a w:World} (h:Same own a w):Same own a w.drew:=⟨h.os,h.tape,h.output,h.size,h.block⟩
def jd2 (S:Sal) (qs:List Nat):Sal:=qs.foldl (fun S q=>if S.left<(S.os.getD q ja3).units then S.ends q 18 else S) S
section
def Sal.confirm (S:Sal) (r:Req):Rep × Sal:=match jfo S.os r.cust r.order with
 | none=>(⟨9,0,0,0⟩,S)
 | some i=>if (S.os.getD i ja3).state≠13 then (⟨9,0,0,0⟩,S) else
   (⟨7,r.order,((jd2 (S.ends i 14) (ja5 (S.ends i 14).os)).promote.os.getD i ja3).units * ((jd2 (S.ends i 14) (ja5 (S.ends i 14).os)).promote.os.getD i ja3).cents,0⟩,(jd2 (S.ends i 14) (ja5 (S.ends i 14).os)).promote)
theorem jjh {n:Nat}:∀ (qs:List Nat) (S:Sal),salI S->S.os.length=n->(∀ q∈qs,q<n)->salI (jd2 S qs)/\(jd2 S qs).os.length=n
 | [],S,h,hn,_=>⟨h,hn⟩
 | q :: qs,S,h,hn,hq=>by
   have hq':∀ q∈qs,q<n:=fun x hx=>hq x (List.mem_cons_of_mem _ hx)
   have e:jd2 S (q :: qs)=jd2 (if S.left<(S.os.getD q ja3).units then S.ends q 18 else S) qs:=rfl
   rw [e]
   split
   ·exact jjh qs _ (jim h (by rw [hn];exact hq q List.mem_cons_self) 18 (.inr (by decide)) (fun e=>by cases e)) ((jd6 S q 18).trans hn) hq'
   ·exact jjh qs _ h hn hq'
theorem jkh:∀ (n:Nat) (S:Sal),salI S->salI (jak n S)
 | 0,_,h=>h
 | n+1,S,h=>by
   unfold jak
   split
   ·exact h
   ·next q qs hq =>
    split
    ·exact h
    ·next hf =>
     obtain ⟨_,hql,hqw⟩:=jbh hq ja3 (by decide)
     exact jkh n _ (jqx h hql hqw hf _ rfl rfl rfl ⟨jeu h.prices _ _ (Nat.le_refl _),(h.ords _ (jal hql)).2⟩)
theorem jg5 (S:Sal) (h:salI S):salI S.promote:=jkh _ S h
section
variable {w w':World} {B R:Nat} {S:Sal} {ap:Option Addr} {lp cp:Nat} {vo va:Value}
end
end
def dry (left now:Int) (o:Ord):Ord:=if o.state=12/\left<o.units then { o with state:=18,ended:=now } else o
def Sal.drained (S:Sal):Sal:={ S with os:=S.os.map (dry S.left S.now) }
theorem jqa {S:Sal} {q:Nat} (hq:q<S.os.length) (hw:(S.os.getD q ja3).state=12):(S.ends q 18).left=S.left:=by
 show S.C.stock - ja4 (S.os.set q _) 14 0=S.C.stock - ja4 S.os 14 0
 rw [jcc hq]
 have h1:(S.os.getD q ja3).part 14 0=0:=by
  generalize S.os.getD q ja3=p at hw
  simp [Ord.part,Ord.is,hw]
 have h2:({ S.os.getD q ja3 with state:=18,ended:=S.now }:Ord).part 14 0=0:=by simp [Ord.part,Ord.is]
 omega
theorem jki {S:Sal} {q:Nat} (hq:q<S.os.length) (hw:(S.os.getD q ja3).state=12) (hu:S.left<(S.os.getD q ja3).units):(S.ends q 18).drained=S.drained:=by
 have hl:=jqa hq hw
 unfold Sal.drained
 rw [hl]
 have hn:(S.ends q 18).now=S.now:=rfl
 rw [hn]
 have he:(S.ends q 18).os.map (dry S.left S.now)=S.os.map (dry S.left S.now):=by
  apply List.ext_getElem?
  intro i
  show ((S.os.set q { S.os.getD q ja3 with state:=18,ended:=S.now }).map (dry S.left S.now))[i]?=_
  rw [List.getElem?_map,List.getElem?_map,List.getElem?_set]
  by_cases e:q=i
  ·subst e
   rw [if_pos rfl,if_pos hq]
   have e1:S.os[q]?=some (S.os.getD q ja3):=by simp [List.getD,List.getElem?_eq_getElem hq]
   rw [e1]
   simp only [Option.map_some,Option.some.injEq]
   generalize S.os.getD q ja3=p at hw hu
   show dry S.left S.now { p with state:=18,ended:=S.now }=dry S.left S.now p
   unfold dry
   rw [if_neg (fun c=>by have:=c.1;simp at this),if_pos ⟨hw,hu⟩]
  ·rw [if_neg e]
 rw [he]
 rfl
theorem jkv {S:Sal} (h:∀ o∈S.os,o.state=12->o.units<=S.left):S.drained=S:=by
 unfold Sal.drained
 have:S.os.map (dry S.left S.now)=S.os:=by
  conv=>rhs;rw [← List.map_id S.os]
  apply List.map_congr_left
  intro o ho
  unfold dry
  rw [if_neg (fun c=>by have:=h o ho c.1;have:=c.2;omega)]
  rfl
 rw [this]
theorem jkd:∀ (qs:List Nat) (S:Sal),qs.Nodup->(∀ q∈qs,q<S.os.length/\(S.os.getD q ja3).state=12)->(∀ i,i<S.os.length->i ∉ qs->(S.os.getD i ja3).state=12->(S.os.getD i ja3).units<=S.left)->jd2 S qs=S.drained
 | [],S,_,_,h=>by
   refine (jkv (fun o ho hs=>?_)).symm
   obtain ⟨i,hi,rfl⟩:=List.getElem_of_mem ho
   have hi':i<S.os.length:=hi
   have e:S.os.getD i ja3=S.os[i]'hi':=by simp [List.getD,List.getElem?_eq_getElem hi']
   have:=h i hi' (by simp)
   rw [e] at this
   exact this hs
 | q :: qs,S,hn,hq,h=>by
   obtain ⟨hq1,hq2⟩:=hq q List.mem_cons_self
   obtain ⟨hn1,hn2⟩:=List.nodup_cons.1 hn
   have e:jd2 S (q :: qs)=jd2 (if S.left<(S.os.getD q ja3).units then S.ends q 18 else S) qs:=rfl
   rw [e]
   by_cases hu:S.left<(S.os.getD q ja3).units
   ·rw [if_pos hu,← jki hq1 hq2 hu]
    have ha:∀ i,((S.ends q 18).os.getD i ja3)=if i=q then { S.os.getD q ja3 with state:=18,ended:=S.now } else S.os.getD i ja3:=fun i=>jar _ hq1
    refine jkd qs _ hn2 (fun x hx=>?_) (fun i hi hx hs=>?_)
    ·obtain ⟨a,b⟩:=hq x (List.mem_cons_of_mem _ hx)
     refine ⟨by rw [jd6];exact a,?_⟩
     rw [ha,if_neg (by rintro rfl;exact hn1 hx)]
     exact b
    ·rw [jqa hq1 hq2]
     rw [ha] at hs ⊢
     by_cases e:i=q
     ·rw [if_pos e] at hs;cases hs
     ·rw [if_neg e] at hs ⊢
      exact h i (by rw [jd6] at hi;exact hi) (fun c=>(List.mem_cons.1 c).elim e hx) hs
   ·rw [if_neg hu]
    refine jkd qs _ hn2 (fun x hx=>hq x (List.mem_cons_of_mem _ hx)) (fun i hi hx hs=>?_)
    by_cases e:i=q
    ·subst e;omega
    ·exact h i hi (fun c=>(List.mem_cons.1 c).elim e hx) hs
theorem jbj (S:Sal):jd2 S (ja5 S.os)=S.drained:=by
 refine jkd _ S ?_ (fun q hq=>(jb6 S.os _ q).1 hq) (fun i hi hx hs=>absurd ((jb6 S.os _ i).2 ⟨hi,hs⟩) hx)
 exact (jcp S.os _).imp (fun h=>by omega)
theorem jg3 {l:List Ent} {k:Int × Int} {v:Int} {e:Ent}:e∈jbl k v l↔e=(k,v)\/(e∈l/\e.1≠k):=by
 unfold jbl
 rw [List.mem_append,List.mem_cons,List.mem_filter,List.mem_filter]
 constructor
 ·rintro (⟨h1,h2⟩|h|⟨h1,h2⟩)
  ·exact .inr ⟨h1,jbr h2⟩
  ·exact .inl h
  ·exact .inr ⟨h1,(jbr h2).symm⟩
 ·rintro (h|⟨h1,h2⟩)
  ·exact .inr (.inl h)
  ·cases ha:jac e.1 k
   ·cases hb:jac k e.1
    ·exact absurd (jix ha hb) h2
    ·exact .inr (.inr ⟨h1,rfl⟩)
   ·exact .inl ⟨h1,rfl⟩
theorem jpb {l:List Ent} {k:Int × Int} {e:Ent}:e∈jd0 k l↔e∈l/\e.1≠k:=by
 unfold jd0
 rw [List.mem_filter]
 simp
theorem qey {l:List Ent} (hs:srt l) {x y:Ent} (hx:x∈l) (hy:y∈l) (h:x.1=y.1):x=y:=by
 induction l with
 | nil=>simp at hx
 | cons a l ih =>
   obtain ⟨h1,h2⟩:=List.pairwise_cons.1 hs
   rcases List.mem_cons.1 hx with e1|hx'<;>rcases List.mem_cons.1 hy with e2|hy'
   ·rw [e1,e2]
   ·rw [e1] at h;exact absurd h (jbr (h1 _ hy'))
   ·rw [e2] at h;exact absurd h.symm (jbr (h1 _ hx'))
   ·exact ih h2 hx' hy'
theorem jgw {l:List Ent} (hs:srt l) {k:Int × Int} {v:Int}:jb5 k l=some v↔(k,v)∈l:=by
 constructor
 ·exact jgb
 ·intro h
  cases hg:jb5 k l with
  | none=>exact absurd rfl (jeg.1 hg _ h)
  | some u =>
    have:=qey hs (jgb hg) h rfl
    simp only [Prod.mk.injEq,true_and] at this
    rw [this]
theorem jmx {l:List Ent} {k:Int × Int} {v:Int} (h:jb5 k l=none):(jbl k v l).length=l.length+1:=(jtx h).length_eq.trans (by simp)
theorem jfe {l:List Ent} (hs:srt l) {k:Int × Int} {v u:Int} (h:jb5 k l=some u):(jbl k v l).length=l.length:=by
 obtain ⟨A,B,e⟩:=List.append_of_mem (jgb h)
 subst e
 rw [jug hs rfl]
 simp
theorem jjn {l:List Ent} (hs:srt l) {k:Int × Int} {u:Int} (h:jb5 k l=some u):(jd0 k l).length+1=l.length:=by
 obtain ⟨A,B,e⟩:=List.append_of_mem (jgb h)
 subst e
 rw [jps hs rfl]
 simp;omega
theorem qc2 {l:List Ent} (hs:srt l) {x:Ent} (hx:x∈l) (hmin:∀ y∈l,y≠x->jac x.1 y.1=true):l.headD ((0,0),0)=x:=by
 cases l with
 | nil=>simp at hx
 | cons a l =>
   obtain ⟨h1,_⟩:=List.pairwise_cons.1 hs
   show a=x
   rcases List.mem_cons.1 hx with e|hx
   ·exact e.symm
   ·refine Classical.byContradiction fun hne=>?_
    have h2:=hmin a List.mem_cons_self hne
    have h3:=h1 _ hx
    rw [jdr h3] at h2
    cases h2
theorem jr8 {l:List Ent} (h:l≠[]):l.headD ((0,0),0)∈l:=by
 cases l with
 | nil=>exact absurd rfl h
 | cons a l=>exact List.mem_cons_self
theorem jsc {l:List Ent} (hs:srt l) {y:Ent} (hy:y∈l):y=l.headD ((0,0),0)\/jac (l.headD ((0,0),0)).1 y.1=true:=by
 cases l with
 | nil=>simp at hy
 | cons a l =>
   rcases List.mem_cons.1 hy with e|hy
   ·exact .inl e
   ·exact .inr ((List.pairwise_cons.1 hs).1 _ hy)
def jdb (T:List Ent) (os:List Ord):Prop:=srt T/\∀ e,e∈T↔∃ i,i<os.length/\(os.getD i ja3).state=12/\e=(((i:Int)+1,0),0)
def jbz (Z:List Ent) (os:List Ord):Prop:=srt Z/\∀ e,e∈Z↔∃ i,i<os.length/\(os.getD i ja3).state=12/\e=((-(os.getD i ja3).units,(i:Int)+1),0)
def je4 (L:List Ent) (f:Int->Int->Int):Prop:=srt L/\∀ e,e∈L↔e.1.1≠0/\(e.1.2=12\/e.1.2=13\/e.1.2=14)/\e.2=f e.1.2 e.1.1/\e.2≠0
theorem jz5:jdb [] []:=⟨List.Pairwise.nil,fun e=>by simp⟩
theorem jx4:jbz [] []:=⟨List.Pairwise.nil,fun e=>by simp⟩
theorem qcv:je4 [] (fun _ _=>0):=⟨List.Pairwise.nil,fun e=>by
 constructor
 ·intro h;simp at h
 ·rintro ⟨_,_,h1,h2⟩;exact absurd h1 h2⟩
theorem ju7 {L:List Ent} {f:Int->Int->Int} (h:je4 L f) {c st:Int} (hc:c≠0) (hst:st=12\/st=13\/st=14):jb5 (c,st) L=if f st c=0 then none else some (f st c):=by
 by_cases h0:f st c=0
 ·rw [if_pos h0,jeg]
  intro e he hk
  obtain ⟨_,_,h3,h4⟩:=(h.2 e).1 he
  rw [hk] at h3
  exact h4 (h3.trans h0)
 ·rw [if_neg h0,jgw h.1,h.2]
  exact ⟨hc,hst,rfl,h0⟩
def jhe (L:List Ent) (c st d:Int):List Ent:=if (jb5 (c,st) L).getD 0+d=0 then jd0 (c,st) L else jbl (c,st) ((jb5 (c,st) L).getD 0+d) L
def jyd (f:Int->Int->Int) (c st d:Int):Int->Int->Int:=fun st' c'=>if st'=st/\c'=c then f st c+d else f st' c'
theorem qbs {L:List Ent} {f:Int->Int->Int} (h:je4 L f) {c st:Int} (d:Int) (hc:c≠0) (hst:st=12\/st=13\/st=14):je4 (jhe L c st d) (jyd f c st d):=by
 have hg:(jb5 (c,st) L).getD 0=f st c:=by
  rw [ju7 h hc hst]
  split
  ·next e=>simp [e]
  ·rfl
 unfold jhe
 rw [hg]
 split
 ·next e0 =>
  refine ⟨jjq _ h.1,fun e=>?_⟩
  rw [jpb,h.2]
  obtain ⟨⟨e1,e2⟩,v⟩:=e
  simp only [jyd,ne_eq,Prod.mk.injEq]
  by_cases hk:e2=st/\e1=c
  ·rw [if_pos hk]
   constructor
   ·rintro ⟨_,hx⟩;exact absurd ⟨hk.2,hk.1⟩ hx
   ·rintro ⟨_,_,h1,h2⟩;rw [e0] at h1;exact absurd h1 h2
  ·rw [if_neg hk]
   constructor
   ·rintro ⟨hx,_⟩;exact hx
   ·intro hx;exact ⟨hx,fun c=>hk ⟨c.2,c.1⟩⟩
 ·next e0 =>
  refine ⟨jg7 _ _ h.1,fun e=>?_⟩
  rw [jg3,h.2]
  obtain ⟨⟨e1,e2⟩,v⟩:=e
  simp only [jyd,ne_eq,Prod.mk.injEq]
  by_cases hk:e2=st/\e1=c
  ·rw [if_pos hk]
   obtain ⟨rfl,rfl⟩:=hk
   constructor
   ·rintro (⟨_,h1⟩|⟨_,hx⟩)
    ·exact ⟨hc,hst,h1,by rw [h1];exact e0⟩
    ·exact absurd ⟨rfl,rfl⟩ hx
   ·rintro ⟨_,_,h1,h2⟩;exact .inl ⟨⟨rfl,rfl⟩,h1⟩
  ·rw [if_neg hk]
   constructor
   ·rintro (⟨⟨h1,h2⟩,_⟩|⟨hx,_⟩)
    ·exact absurd ⟨h2,h1⟩ hk
    ·exact hx
   ·intro hx;exact .inr ⟨hx,fun c=>hk ⟨c.2,c.1⟩⟩
def jdf (os:List Ord):Int->Int->Int:=fun st c=>ja4 os st c
def isL (st:Int):Prop:=st=12\/st=13\/st=14
instance (st:Int):Decidable (isL st):=by unfold isL;infer_instance
def jnj (L:List Ent) (c st d:Int):List Ent:=if isL st then jhe L c st d else L
theorem jl3 {L:List Ent} {f g:Int->Int->Int} (h:je4 L f) (he:∀ st c,c≠0->isL st->f st c=g st c):je4 L g:=by
 refine ⟨h.1,fun e=>(h.2 e).trans ?_⟩
 constructor
 ·rintro ⟨h1,h2,h3,h4⟩;exact ⟨h1,h2,by rw [← he _ _ h1 h2];exact h3,h4⟩
 ·rintro ⟨h1,h2,h3,h4⟩;exact ⟨h1,h2,by rw [he _ _ h1 h2];exact h3,h4⟩
theorem jj7 {L:List Ent} {f:Int->Int->Int} (h:je4 L f) {c st:Int} (d:Int) (hc:c≠0):je4 (jnj L c st d) (jyd f c st d):=by
 unfold jnj
 split
 ·next hst=>exact qbs h d hc hst
 ·next hst =>
  refine jl3 h (fun st' c' _ hl=>?_)
  unfold jyd
  rw [if_neg (by rintro ⟨e,_⟩;exact hst (e▸hl))]
theorem jli {o:Ord} {st c:Int} (hc:c≠0):o.part st c=if st=o.state/\c=o.cust then o.units else 0:=by
 unfold Ord.part
 by_cases h1:st=o.state/\c=o.cust
 ·rw [if_pos h1,if_pos]
  unfold Ord.is
  rw [← h1.1,← h1.2]
  simp
 ·rw [if_neg h1,if_neg]
  intro hh
  unfold Ord.is at hh
  simp only [Bool.and_eq_true,Bool.or_eq_true,beq_iff_eq] at hh
  exact h1 ⟨hh.1.symm,(hh.2.resolve_left hc).symm⟩
theorem jp1 (f:Int->Int->Int) (c0 s d s' c':Int):jyd f c0 s d s' c'=f s' c'+if s'=s/\c'=c0 then d else 0:=by
 unfold jyd
 split
 ·next h=>rw [h.1,h.2]
 ·omega
theorem qaj {L:List Ent} {os:List Ord} (h:je4 L (jdf os)) {i:Nat} (hi:i<os.length) (o:Ord) (h1:o.cust=(os.getD i ja3).cust) (h2:o.units=(os.getD i ja3).units) (hc:o.cust≠0):je4 (jnj (jnj L o.cust (os.getD i ja3).state (-o.units)) o.cust o.state o.units) (jdf (os.set i o)):=by
 refine jl3 (jj7 (jj7 h (-o.units) hc) o.units hc) (fun st c hc' hl=>?_)
 rw [jp1,jp1]
 unfold jdf
 rw [jcc hi,jli hc',jli hc',← h1,← h2]
 generalize ja4 os st c=U
 split<;>split<;>omega
theorem jzf {L:List Ent} {os:List Ord} (h:je4 L (jdf os)) (o:Ord) (hc:o.cust≠0):je4 (jnj L o.cust o.state o.units) (jdf (os++[o])):=by
 refine jl3 (jj7 h o.units hc) (fun st c hc' hl=>?_)
 rw [jp1]
 unfold jdf
 rw [jca,jli hc']
theorem qab {T:List Ent} {os:List Ord} (h:jdb T os) {i:Nat} (hi:i<os.length) (o:Ord) (ho:o.state≠12):jdb (jd0 ((i:Int)+1,0) T) (os.set i o):=by
 refine ⟨jjq _ h.1,fun e=>?_⟩
 rw [jpb,h.2]
 constructor
 ·rintro ⟨⟨j,h1,h2,rfl⟩,h4⟩
  have hji:j≠i:=fun e=>h4 (by rw [e])
  exact ⟨j,by simpa using h1,by rw [jar o hi,if_neg hji];exact h2,rfl⟩
 ·rintro ⟨j,h1,h2,rfl⟩
  rw [jar o hi] at h2
  by_cases e:j=i
  ·rw [if_pos e] at h2;exact absurd h2 ho
  ·rw [if_neg e] at h2
   exact ⟨⟨j,by simpa using h1,h2,rfl⟩,fun c=>e (by simp at c;omega)⟩
theorem jqv {T:List Ent} {os:List Ord} (h:jbz T os) {i:Nat} (hi:i<os.length) (o:Ord) (ho:o.state≠12):jbz (jd0 (-(os.getD i ja3).units,(i:Int)+1) T) (os.set i o):=by
 refine ⟨jjq _ h.1,fun e=>?_⟩
 rw [jpb,h.2]
 constructor
 ·rintro ⟨⟨j,h1,h2,rfl⟩,h4⟩
  have hji:j≠i:=fun e=>h4 (by rw [e])
  exact ⟨j,by simpa using h1,by rw [jar o hi,if_neg hji];exact h2,by rw [jar o hi,if_neg hji]⟩
 ·rintro ⟨j,h1,h2,rfl⟩
  rw [jar o hi] at h2 ⊢
  by_cases e:j=i
  ·rw [if_pos e] at h2;exact absurd h2 ho
  ·rw [if_neg e] at h2 ⊢
   exact ⟨⟨j,by simpa using h1,h2,rfl⟩,fun c=>e (by simp at c;omega)⟩
theorem jw3 {T:List Ent} {os:List Ord} (h:jdb T os) {i:Nat} (hi:i<os.length) (o:Ord) (ho:o.state≠12) (hs:(os.getD i ja3).state≠12):jdb T (os.set i o):=by
 refine ⟨h.1,fun e=>(h.2 e).trans ?_⟩
 constructor
 ·rintro ⟨j,h1,h2,rfl⟩
  have hji:j≠i:=fun e=>hs (e▸h2)
  exact ⟨j,by simpa using h1,by rw [jar o hi,if_neg hji];exact h2,rfl⟩
 ·rintro ⟨j,h1,h2,rfl⟩
  rw [jar o hi] at h2
  by_cases e:j=i
  ·rw [if_pos e] at h2;exact absurd h2 ho
  ·rw [if_neg e] at h2;exact ⟨j,by simpa using h1,h2,rfl⟩
theorem jus {T:List Ent} {os:List Ord} (h:jbz T os) {i:Nat} (hi:i<os.length) (o:Ord) (ho:o.state≠12) (hs:(os.getD i ja3).state≠12):jbz T (os.set i o):=by
 refine ⟨h.1,fun e=>(h.2 e).trans ?_⟩
 constructor
 ·rintro ⟨j,h1,h2,rfl⟩
  have hji:j≠i:=fun e=>hs (e▸h2)
  exact ⟨j,by simpa using h1,by rw [jar o hi,if_neg hji];exact h2,by rw [jar o hi,if_neg hji]⟩
 ·rintro ⟨j,h1,h2,rfl⟩
  rw [jar o hi] at h2 ⊢
  by_cases e:j=i
  ·rw [if_pos e] at h2;exact absurd h2 ho
  ·rw [if_neg e] at h2 ⊢;exact ⟨j,by simpa using h1,h2,rfl⟩
theorem jaw {os:List Ord} {o:Ord} {j:Nat} (h:j<os.length+1):(os++[o]).getD j ja3=if j=os.length then o else os.getD j ja3:=by
 simp only [List.getD]
 by_cases e:j=os.length
 ·subst e;simp
 ·rw [if_neg e,List.getElem?_append_left (by omega)]
theorem qca {T:List Ent} {os:List Ord} (h:jdb T os) (o:Ord) (ho:o.state=12):jdb (jbl ((os.length:Int)+1,0) 0 T) (os++[o]):=by
 refine ⟨jg7 _ _ h.1,fun e=>?_⟩
 rw [jg3,h.2]
 constructor
 ·rintro (rfl|⟨⟨j,h1,h2,rfl⟩,_⟩)
  ·exact ⟨os.length,by simp,by rw [jaw (by omega),if_pos rfl];exact ho,rfl⟩
  ·exact ⟨j,by simp;omega,by rw [jaw (by omega),if_neg (by omega)];exact h2,rfl⟩
 ·rintro ⟨j,h1,h2,rfl⟩
  have h1':j<os.length+1:=by simpa using h1
  rw [jaw h1'] at h2
  by_cases e:j=os.length
  ·exact .inl (by rw [e])
  ·rw [if_neg e] at h2
   exact .inr ⟨⟨j,by omega,h2,rfl⟩,fun c=>e (by simp at c;omega)⟩
theorem qbt {T:List Ent} {os:List Ord} (h:jbz T os) (o:Ord) (ho:o.state=12):jbz (jbl (-o.units,(os.length:Int)+1) 0 T) (os++[o]):=by
 refine ⟨jg7 _ _ h.1,fun e=>?_⟩
 rw [jg3,h.2]
 constructor
 ·rintro (rfl|⟨⟨j,h1,h2,rfl⟩,_⟩)
  ·exact ⟨os.length,by simp,by rw [jaw (by omega),if_pos rfl];exact ho,by rw [jaw (by omega),if_pos rfl]⟩
  ·exact ⟨j,by simp;omega,by rw [jaw (by omega),if_neg (by omega)];exact h2,by rw [jaw (by omega),if_neg (by omega)]⟩
 ·rintro ⟨j,h1,h2,rfl⟩
  have h1':j<os.length+1:=by simpa using h1
  rw [jaw h1'] at h2 ⊢
  by_cases e:j=os.length
  ·exact .inl (by rw [if_pos e,e])
  ·rw [if_neg e] at h2 ⊢
   exact .inr ⟨⟨j,by omega,h2,rfl⟩,fun c=>e (by simp at c;omega)⟩
theorem jvl {T:List Ent} {os:List Ord} (h:jdb T os) (o:Ord) (ho:o.state≠12):jdb T (os++[o]):=by
 refine ⟨h.1,fun e=>(h.2 e).trans ?_⟩
 constructor
 ·rintro ⟨j,h1,h2,rfl⟩
  exact ⟨j,by simp;omega,by rw [jaw (by omega),if_neg (by omega)];exact h2,rfl⟩
 ·rintro ⟨j,h1,h2,rfl⟩
  have h1':j<os.length+1:=by simpa using h1
  rw [jaw h1'] at h2
  by_cases e:j=os.length
  ·rw [if_pos e] at h2;exact absurd h2 ho
  ·rw [if_neg e] at h2;exact ⟨j,by omega,h2,rfl⟩
theorem jwq {T:List Ent} {os:List Ord} (h:jbz T os) (o:Ord) (ho:o.state≠12):jbz T (os++[o]):=by
 refine ⟨h.1,fun e=>(h.2 e).trans ?_⟩
 constructor
 ·rintro ⟨j,h1,h2,rfl⟩
  exact ⟨j,by simp;omega,by rw [jaw (by omega),if_neg (by omega)];exact h2,by rw [jaw (by omega),if_neg (by omega)]⟩
 ·rintro ⟨j,h1,h2,rfl⟩
  have h1':j<os.length+1:=by simpa using h1
  rw [jaw h1'] at h2 ⊢
  by_cases e:j=os.length
  ·rw [if_pos e] at h2;exact absurd h2 ho
  ·rw [if_neg e] at h2 ⊢;exact ⟨j,by omega,h2,rfl⟩
theorem jrz {T:List Ent} {os:List Ord} (h:jdb T os) {q:Nat} {qs:List Nat} (hq:ja5 os=q :: qs):T.headD ((0,0),0)=(((q:Int)+1,0),0):=by
 have hm:q∈ja5 os:=by rw [hq];simp
 obtain ⟨h1,h2⟩:=(jb6 os _ q).1 hm
 refine qc2 h.1 ((h.2 _).2 ⟨q,h1,h2,rfl⟩) (fun y hy hne=>?_)
 obtain ⟨j,a,b,rfl⟩:=(h.2 _).1 hy
 have hj:j∈q :: qs:=by rw [← hq];exact (jb6 os _ j).2 ⟨a,b⟩
 have hs':(q :: qs).Pairwise (·<·):=by rw [← hq];exact jcp os os.length
 rcases List.mem_cons.1 hj with rfl|hj
 ·exact absurd rfl hne
 ·have:=List.rel_of_pairwise_cons hs' hj
  rw [jem]
  exact .inl (by show (q:Int)+1<(j:Int)+1;omega)
theorem jmj {T:List Ent} {os:List Ord} (h:jdb T os):T=[]↔ja5 os=[]:=by
 constructor
 ·rintro rfl
  rw [List.eq_nil_iff_forall_not_mem]
  intro q hq
  obtain ⟨h1,h2⟩:=(jb6 os _ q).1 hq
  have:=(h.2 _).2 ⟨q,h1,h2,rfl⟩
  simp at this
 ·intro hq
  rw [List.eq_nil_iff_forall_not_mem]
  intro e he
  obtain ⟨j,a,b,_⟩:=(h.2 e).1 he
  have:j∈ja5 os:=(jb6 os _ j).2 ⟨a,b⟩
  rw [hq] at this
  simp at this
theorem jmo {T:List Ent} {os:List Ord} (h:jbz T os):T=[]↔ja5 os=[]:=by
 constructor
 ·rintro rfl
  rw [List.eq_nil_iff_forall_not_mem]
  intro q hq
  obtain ⟨h1,h2⟩:=(jb6 os _ q).1 hq
  have:=(h.2 _).2 ⟨q,h1,h2,rfl⟩
  simp at this
 ·intro hq
  rw [List.eq_nil_iff_forall_not_mem]
  intro e he
  obtain ⟨j,a,b,_⟩:=(h.2 e).1 he
  have:j∈ja5 os:=(jb6 os _ j).2 ⟨a,b⟩
  rw [hq] at this
  simp at this
theorem jqn {Z:List Ent} {os:List Ord} (h:jbz Z os) (hn:Z≠[]):∃ i,i<os.length/\(os.getD i ja3).state=12/\Z.headD ((0,0),0)=((-(os.getD i ja3).units,(i:Int)+1),0)/\∀ j,j<os.length->(os.getD j ja3).state=12->(os.getD j ja3).units<=(os.getD i ja3).units:=by
 obtain ⟨i,a,b,e⟩:=(h.2 _).1 (jr8 hn)
 refine ⟨i,a,b,e,fun j hj hs=>?_⟩
 have:=jsc h.1 ((h.2 _).2 ⟨j,hj,hs,rfl⟩)
 rw [e] at this
 rcases this with c|c
 ·have:=congrArg (fun e:Ent=>e.1.1) c
  simp only at this
  omega
 ·rw [jem] at c
  simp only at c
  omega
theorem jtu {a b:List Ent} (ha:srt a) (hb:srt b) (h:∀ e,e∈a↔e∈b):a=b:=by
 induction a generalizing b with
 | nil =>
   symm
   rw [List.eq_nil_iff_forall_not_mem]
   intro e he
   have:=(h e).2 he
   simp at this
 | cons x a ih =>
   cases b with
   | nil=>have:=(h x).1 List.mem_cons_self;simp at this
   | cons y b =>
     obtain ⟨ha1,ha2⟩:=List.pairwise_cons.1 ha
     obtain ⟨hb1,hb2⟩:=List.pairwise_cons.1 hb
     have hxy:x=y:=by
      rcases List.mem_cons.1 ((h x).1 List.mem_cons_self) with e|hx
      ·exact e
      ·rcases List.mem_cons.1 ((h y).2 List.mem_cons_self) with e|hy
       ·exact e.symm
       ·have:=jdr (hb1 _ hx)
        rw [ha1 _ hy] at this
        cases this
     subst hxy
     congr 1
     refine ih ha2 hb2 (fun e=>?_)
     constructor
     ·intro he
      rcases List.mem_cons.1 ((h e).1 (List.mem_cons_of_mem _ he)) with c|c
      ·exact absurd (congrArg Prod.fst c).symm (jbr (ha1 _ he))
      ·exact c
     ·intro he
      rcases List.mem_cons.1 ((h e).2 (List.mem_cons_of_mem _ he)) with c|c
      ·exact absurd (congrArg Prod.fst c).symm (jbr (hb1 _ he))
      ·exact c
theorem jz8 {T:List Ent} {os:List Ord} (h:jdb T os):T.length=(ja5 os).length:=by
 have e:T=(ja5 os).map (fun i=>((((i:Nat):Int)+1,(0:Int)),(0:Int))):=by
  refine jtu h.1 ?_ (fun e=>(h.2 e).trans ?_)
  ·unfold srt
   rw [List.pairwise_map]
   refine (jcp os _).imp (fun {a b} hab=>?_)
   rw [jem]
   exact .inl (by show (a:Int)+1<(b:Int)+1;omega)
  ·rw [List.mem_map]
   constructor
   ·rintro ⟨i,a,b,rfl⟩
    exact ⟨i,(jb6 os _ i).2 ⟨a,b⟩,rfl⟩
   ·rintro ⟨i,a,rfl⟩
    obtain ⟨x,y⟩:=(jb6 os _ i).1 a
    exact ⟨i,x,y,rfl⟩
 rw [e,List.length_map]
end Go.Proofs.YtfhncfghblkgeaaGreat
