import Derived.Test.YtfhncfghblkgeaaGreatL08
import Derived.Test.YtfhncfghblkgeaaGreatL10
import Derived.Test.YtfhncfghblkgeaaGreatL11
set_option maxRecDepth 100000
set_option maxHeartbeats 2000000
namespace Go.Proofs.YtfhncfghblkgeaaGreat
open Go.RowKit
section
def Sal.confirm (S:Sal) (r:Req):Rep × Sal:=match jej S.os r.cust r.order with
 | none=>(⟨9,0,0,0⟩,S)
 | some i=>if (S.os.getD i ja3).state≠13 then (⟨9,0,0,0⟩,S) else
   (⟨7,r.order,((jay (S.ends i 14) (ja7 (S.ends i 14).os)).promote.os.getD i ja3).units * ((jay (S.ends i 14) (ja7 (S.ends i 14).os)).promote.os.getD i ja3).cents,0⟩,(jay (S.ends i 14) (ja7 (S.ends i 14).os)).promote)
theorem jix {n:Nat}:∀ (qs:List Nat) (S:Sal),salI S->S.os.length=n->(∀ q∈qs,q<n)->salI (jay S qs)/\(jay S qs).os.length=n
 | [],S,h,hn,_=>⟨h,hn⟩
 | q :: qs,S,h,hn,hq=>by
   have hq':∀ q∈qs,q<n:=fun x hx=>hq x (List.mem_cons_of_mem _ hx)
   have e:jay S (q :: qs)=jay (if S.left<(S.os.getD q ja3).units then S.ends q 18 else S) qs:=rfl
   rw [e]
   split
   ·exact jix qs _ (jil h (by rw [hn];exact hq q List.mem_cons_self) 18 (.inr (by decide)) (fun e=>by cases e)) ((jch S q 18).trans hn) hq'
   ·exact jix qs _ h hn hq'
theorem jl7:∀ (n:Nat) (S:Sal),salI S->salI (jax n S)
 | 0,_,h=>h
 | n+1,S,h=>by
   unfold jax
   split
   ·exact h
   ·next q qs hq =>
    split
    ·exact h
    ·next hf =>
     obtain ⟨_,hql,hqw⟩:=jcl hq ja3 (by decide)
     exact jl7 n _ (jj8 h hql hqw hf _ rfl rfl rfl ⟨jdl h.prices _ _ (Nat.le_refl _),(h.ords _ (jbf hql)).2⟩)
theorem ji4 (S:Sal) (h:salI S):salI S.promote:=jl7 _ S h
section
variable {w w':World} {B R:Nat} {S:Sal} {ap:Option Addr} {lp cp:Nat} {vo va:Value}
theorem jgr {W':World} {n:Nat} (h:jd4 w w' B R S ap lp cp vo va n) (hb:Below w'.heap.size w' W'):jd4 w W' B R S ap lp cp vo va n :=
 ⟨ja9 h.1 hb,h.2.1,h.2.2.1,Same.trans h.2.2.2 (Same.of_below (own:=fun _=>False) hb) (fun _ _ e=>e.elim id False.elim)⟩
theorem jwl {a b:Int} (ha:1<=a/\a<=4294967296) (hb:0<=b/\b<=1073741824):0<=a * b/\a * b<=4611686018427387904:=by
 have h1:0<=a * b:=Int.mul_nonneg (by omega) hb.1
 have h2:a * b<=4294967296 * 1073741824:=Int.mul_le_mul ha.2 hb.2 hb.1 (by omega)
 exact ⟨h1,by simpa using h2⟩
theorem jpv (h:saleAt w B R S ap lp cp vo va) (hI:salI S) (hl:S.os.length * 48+48<=140737488351232) (r:Req) (ho:1<=r.order/\r.order<=4294967296) :
 Calls Tryz.prog 149 #[pt R 0,r.val] w fun e w'=>e=.returned (S.confirm r).1.val/\jd4 w w' B R (S.confirm r).2 ap lp cp vo va S.os.length:=by
 have HF:=jkb h hl r ho
 unfold Sal.confirm
 cases hf:jej S.os r.cust r.order with
 | none =>
   rw [hf] at HF
   exact (jpa R r w HF).mono (by rintro e w' ⟨rfl,hb⟩;exact ⟨rfl,jdr h hI hb⟩)
 | some i =>
   rw [hf] at HF
   obtain ⟨hi,_,_⟩:=jsm ho.1 hf
   obtain ⟨g,cap,hvo,hgw,_,_,hoc,_⟩:=jm0 h hi
   obtain ⟨_,_,_,_,_,_,_,_,_,c9,_⟩:=jcf h.blk
   rw [hvo] at c9
   simp only
   have hown:∀ b,vo.ownBlock=some b↔b=g:=fun b=>by rw [hvo];simp [Value.ownBlock];exact eq_comm
   by_cases hs:(S.os.getD i ja3).state≠13
   ·rw [if_pos hs]
    exact (jp7 R g cap _ i r w c9 hi _ hoc.2.2.1 hgw hs HF).mono (by rintro e w' ⟨rfl,hb⟩;exact ⟨rfl,jdr h hI hb⟩)
   ·rw [if_neg hs]
    have hs':(S.os.getD i ja3).state=13:=Classical.byContradiction hs
    have hI1:salI (S.ends i 14):=jil hI hi 14 (.inl rfl) (fun _=>hs')
    have hn1:=jch S i 14
    generalize hS1:S.ends i 14=S1 at hI1 hn1 ⊢
    have hqs:∀ q∈ja7 S1.os,q<S.os.length:=fun q hq=>by have:=jes S1.os _ q hq;omega
    have hql:(ja7 S1.os).length * 48<=140737488351232:=by have:=jjr S1.os S1.os.length;unfold ja7;omega
    generalize hqe:ja7 S1.os=qs at hqs hql ⊢
    have hD:∀ k,salI (jay S1 (qs.take k))/\(jay S1 (qs.take k)).os.length=S.os.length:=fun k=>jix (qs.take k) S1 hI1 hn1 (fun q hq=>hqs q (List.mem_of_mem_take hq))
    have hDa:jay S1 (qs.take qs.length)=jay S1 qs:=by rw [List.take_length]
    have same_g:∀ {x y:World},Same (fun b=>vo.ownBlock=some b) x y->Same (fun b=>b=g) x y:=fun a=>⟨a.os,a.tape,a.output,a.size,fun k hk hn=>a.block k hk (fun c=>hn ((hown k).1 c))⟩
    have hP:∀ W,jd4 w W B R (jay S1 qs) ap lp cp vo va S.os.length->Calls Tryz.prog 153 #[pt R 0] W fun e w'=>e=.returned (.tuple #[])/\jd4 w w' B R (jay S1 qs).promote ap lp cp vo va S.os.length/\Same (fun b=>b=g) W w':=fun W hW=>by
     obtain ⟨b1,b2,b3,b4⟩:=hW
     refine (jg7 B R _ ap lp cp vo va W b1 b2 (by rw [b3];exact hl)).mono ?_
     rintro e w' ⟨rfl,a1,a2,a3⟩
     exact ⟨rfl,⟨a1,a2,(jc4 _).trans b3,Same.trans b4 a3 (fun k _ e=>e.elim id id)⟩,same_g a3⟩
    have hPI:salI (jay S1 qs).promote:=ji4 (jay S1 qs) (hDa▸(hD qs.length).1)
    have hPl:(jay S1 qs).promote.os.length=S.os.length:=(jc4 _).trans (hDa▸(hD qs.length).2)
    have hPm:=jbf (os:=(jay S1 qs).promote.os) (i:=i) (by omega)
    refine jt7 R g cap _ i r w c9 hi _ hoc.2.2.1 hgw hs' qs hqs hql _
     (fun W=>jd4 w W B R S1 ap lp cp vo va S.os.length)
     (fun k W=>jd4 w W B R (jay S1 (qs.take k)) ap lp cp vo va S.os.length)
     (fun W=>jd4 w W B R (jay S1 qs).promote ap lp cp vo va S.os.length) _
     (fun k=>(jay S1 (qs.take k)).left) (fun k=>((jay S1 (qs.take k)).os.getD (qs.getD k 0) ja3).units)
     HF (fun W hb=>?_) (fun W hW=>?_) (fun W W' hW hb=>jgr hW hb) (fun k W W' hW hb=>jgr hW hb) (fun k W hW=>?_) (fun k W hW=>?_) (fun k W hk hd hW=>?_) (fun k W hk hd hW=>?_) (fun W hW=>?_) (jwl (hPI.units _ hPm) (hPI.ords _ hPm).1) (fun W W' hW hs=>jj6 h (by omega) hW hs)
    ·refine (jhh (ja9 h hb) hi 14 W (Below.refl _ _)).mono ?_
     rintro e w' ⟨rfl,a1,a2⟩
     rw [hS1] at a1
     exact ⟨rfl,⟨a1,hI1,hn1,Same.trans (Same.of_below (own:=fun _=>False) hb) a2 (fun k _ e=>e.elim False.elim id)⟩,same_g a2⟩
    ·have:=jfz hW.1 (hI1.N (by rw [hn1];exact hl)) W (Below.refl _ _)
     rw [hqe] at this
     exact this
    ·obtain ⟨_,_,_,_,_,_,_,_,_,x9,_⟩:=jcf hW.1.blk
     rw [hvo] at x9
     have hz:=hW.2.2.2.size
     refine ⟨x9,World.block_lt_of_cell? W _ x9,by omega,fun hk=>?_⟩
     have hq:qs.getD k 0<(jay S1 (qs.take k)).os.length:=by
        have e:qs.getD k 0=qs[k]:=by simp [List.getD,List.getElem?_eq_getElem hk]
        rw [(hD k).2,e]
        exact hqs _ (List.getElem_mem hk)
     obtain ⟨g',cap',hvo',_,_,_,ho',_⟩:=jm0 hW.1 hq
     rw [hvo] at hvo'
     simp at hvo'
     rw [← hvo'.1] at ho'
     exact ho'.2.1
    ·exact jk8 hW.1 ((hD k).1.N (by rw [(hD k).2];exact hl)) W (Below.refl _ _)
    ·have hq:qs.getD k 0<(jay S1 (qs.take k)).os.length:=by
        have e:qs.getD k 0=qs[k]:=by simp [List.getD,List.getElem?_eq_getElem hk]
        rw [(hD k).2,e]
        exact hqs _ (List.getElem_mem hk)
     refine (jhh hW.1 hq 18 W (Below.refl _ _)).mono ?_
     rintro e w' ⟨rfl,a1,a2⟩
     have e:=jo3 S1 qs hk
     rw [if_pos hd] at e
     rw [← e] at a1
     exact ⟨rfl,⟨a1,(hD _).1,(hD _).2,Same.trans hW.2.2.2 a2 (fun k _ e=>e.elim id id)⟩,same_g a2⟩
    ·have e:=jo3 S1 qs hk
     rw [if_neg (by omega)] at e
     rw [e]
     exact hW
    ·rw [hDa] at hW
     refine (hP W hW).mono ?_
     rintro e w' ⟨rfl,a1,a2⟩
     obtain ⟨_,_,_,_,_,_,_,_,_,x9,_⟩:=jcf a1.1.blk
     rw [hvo] at x9
     obtain ⟨g',cap',hvo',hg',_,_,ho',_⟩:=jm0 a1.1 (i:=i) (by omega)
     rw [hvo] at hvo'
     simp at hvo'
     rw [← hvo'.1] at ho' hg'
     exact ⟨rfl,a1,a2,_,_,x9,ho'.2.1,ho'.2.2.2.1,rfl,World.block_lt_of_cell? w' _ x9,hg'⟩
end
end
def dry (left now:Int) (o:Ord):Ord:=if o.state=12/\left<o.units then { o with state:=18,ended:=now } else o
def Sal.drained (S:Sal):Sal:={ S with os:=S.os.map (dry S.left S.now) }
theorem jqv {S:Sal} {q:Nat} (hq:q<S.os.length) (hw:(S.os.getD q ja3).state=12):(S.ends q 18).left=S.left:=by
 show S.C.stock - ja4 (S.os.set q _) 14 0=S.C.stock - ja4 S.os 14 0
 rw [jct hq]
 have h1:(S.os.getD q ja3).part 14 0=0:=by
  generalize S.os.getD q ja3=p at hw
  simp [Ord.part,Ord.is,hw]
 have h2:({ S.os.getD q ja3 with state:=18,ended:=S.now }:Ord).part 14 0=0:=by simp [Ord.part,Ord.is]
 omega
theorem jkt {S:Sal} {q:Nat} (hq:q<S.os.length) (hw:(S.os.getD q ja3).state=12) (hu:S.left<(S.os.getD q ja3).units):(S.ends q 18).drained=S.drained:=by
 have hl:=jqv hq hw
 unfold Sal.drained
 rw [hl]
 have hn:(S.ends q 18).now=S.now:=rfl
 rw [hn]
 have he:(S.ends q 18).os.map (dry S.left S.now)=S.os.map (dry S.left S.now):=by
  apply List.ext_getElem?
  intro i
  show ((S.os.set q { S.os.getD q ja3 with state:=18,ended:=S.now }).map (dry S.left S.now))[i]?=_
  rw [List.getElem?_map,List.getElem?_map,List.getElem?_set]
  by_cases e:q=i
  ·subst e
   rw [if_pos rfl,if_pos hq]
   have e1:S.os[q]?=some (S.os.getD q ja3):=by simp [List.getD,List.getElem?_eq_getElem hq]
   rw [e1]
   simp only [Option.map_some,Option.some.injEq]
   generalize S.os.getD q ja3=p at hw hu
   show dry S.left S.now { p with state:=18,ended:=S.now }=dry S.left S.now p
   unfold dry
   rw [if_neg (fun c=>by have:=c.1;simp at this),if_pos ⟨hw,hu⟩]
  ·rw [if_neg e]
 rw [he]
 rfl
theorem jkq {S:Sal} (h:∀ o∈S.os,o.state=12->o.units<=S.left):S.drained=S:=by
 unfold Sal.drained
 have:S.os.map (dry S.left S.now)=S.os:=by
  conv=>rhs;rw [← List.map_id S.os]
  apply List.map_congr_left
  intro o ho
  unfold dry
  rw [if_neg (fun c=>by have:=h o ho c.1;have:=c.2;omega)]
  rfl
 rw [this]
theorem jjw:∀ (qs:List Nat) (S:Sal),qs.Nodup->(∀ q∈qs,q<S.os.length/\(S.os.getD q ja3).state=12)->(∀ i,i<S.os.length->i ∉ qs->(S.os.getD i ja3).state=12->(S.os.getD i ja3).units<=S.left)->jay S qs=S.drained
 | [],S,_,_,h=>by
   refine (jkq (fun o ho hs=>?_)).symm
   obtain ⟨i,hi,rfl⟩:=List.getElem_of_mem ho
   have hi':i<S.os.length:=hi
   have e:S.os.getD i ja3=S.os[i]'hi':=by simp [List.getD,List.getElem?_eq_getElem hi']
   have:=h i hi' (by simp)
   rw [e] at this
   exact this hs
 | q :: qs,S,hn,hq,h=>by
   obtain ⟨hq1,hq2⟩:=hq q List.mem_cons_self
   obtain ⟨hn1,hn2⟩:=List.nodup_cons.1 hn
   have e:jay S (q :: qs)=jay (if S.left<(S.os.getD q ja3).units then S.ends q 18 else S) qs:=rfl
   rw [e]
   by_cases hu:S.left<(S.os.getD q ja3).units
   ·rw [if_pos hu,← jkt hq1 hq2 hu]
    have ha:∀ i,((S.ends q 18).os.getD i ja3)=if i=q then { S.os.getD q ja3 with state:=18,ended:=S.now } else S.os.getD i ja3:=fun i=>jbm _ hq1
    refine jjw qs _ hn2 (fun x hx=>?_) (fun i hi hx hs=>?_)
    ·obtain ⟨a,b⟩:=hq x (List.mem_cons_of_mem _ hx)
     refine ⟨by rw [jch];exact a,?_⟩
     rw [ha,if_neg (by rintro rfl;exact hn1 hx)]
     exact b
    ·rw [jqv hq1 hq2]
     rw [ha] at hs ⊢
     by_cases e:i=q
     ·rw [if_pos e] at hs;cases hs
     ·rw [if_neg e] at hs ⊢
      exact h i (by rw [jch] at hi;exact hi) (fun c=>(List.mem_cons.1 c).elim e hx) hs
   ·rw [if_neg hu]
    refine jjw qs _ hn2 (fun x hx=>hq x (List.mem_cons_of_mem _ hx)) (fun i hi hx hs=>?_)
    by_cases e:i=q
    ·subst e;omega
    ·exact h i hi (fun c=>(List.mem_cons.1 c).elim e hx) hs
theorem jcx (S:Sal):jay S (ja7 S.os)=S.drained:=by
 refine jjw _ S ?_ (fun q hq=>(jbj S.os _ q).1 hq) (fun i hi hx hs=>absurd ((jbj S.os _ i).2 ⟨hi,hs⟩) hx)
 exact (jdp S.os _).imp (fun h=>by omega)
theorem jfx {l:List Ent} {k:Int × Int} {v:Int} {e:Ent}:e∈jbb k v l↔e=(k,v)\/(e∈l/\e.1≠k):=by
 unfold jbb
 rw [List.mem_append,List.mem_cons,List.mem_filter,List.mem_filter]
 constructor
 ·rintro (⟨h1,h2⟩|h|⟨h1,h2⟩)
  ·exact .inr ⟨h1,jbl h2⟩
  ·exact .inl h
  ·exact .inr ⟨h1,(jbl h2).symm⟩
 ·rintro (h|⟨h1,h2⟩)
  ·exact .inr (.inl h)
  ·cases ha:jah e.1 k
   ·cases hb:jah k e.1
    ·exact absurd (jif ha hb) h2
    ·exact .inr (.inr ⟨h1,rfl⟩)
   ·exact .inl ⟨h1,rfl⟩
theorem jos {l:List Ent} {k:Int × Int} {e:Ent}:e∈jcp k l↔e∈l/\e.1≠k:=by
 unfold jcp
 rw [List.mem_filter]
 simp
theorem qdw {l:List Ent} (hs:srt l) {x y:Ent} (hx:x∈l) (hy:y∈l) (h:x.1=y.1):x=y:=by
 induction l with
 | nil=>simp at hx
 | cons a l ih =>
   obtain ⟨h1,h2⟩:=List.pairwise_cons.1 hs
   rcases List.mem_cons.1 hx with e1|hx'<;>rcases List.mem_cons.1 hy with e2|hy'
   ·rw [e1,e2]
   ·rw [e1] at h;exact absurd h (jbl (h1 _ hy'))
   ·rw [e2] at h;exact absurd h.symm (jbl (h1 _ hx'))
   ·exact ih h2 hx' hy'
theorem jgs {l:List Ent} (hs:srt l) {k:Int × Int} {v:Int}:jb0 k l=some v↔(k,v)∈l:=by
 constructor
 ·exact jg3
 ·intro h
  cases hg:jb0 k l with
  | none=>exact absurd rfl (je5.1 hg _ h)
  | some u =>
    have:=qdw hs (jg3 hg) h rfl
    simp only [Prod.mk.injEq,true_and] at this
    rw [this]
theorem jmn {l:List Ent} {k:Int × Int} {v:Int} (h:jb0 k l=none):(jbb k v l).length=l.length+1:=(ju4 h).length_eq.trans (by simp)
theorem jev {l:List Ent} (hs:srt l) {k:Int × Int} {v u:Int} (h:jb0 k l=some u):(jbb k v l).length=l.length:=by
 obtain ⟨A,B,e⟩:=List.append_of_mem (jg3 h)
 subst e
 rw [jtv hs rfl]
 simp
theorem jjo {l:List Ent} (hs:srt l) {k:Int × Int} {u:Int} (h:jb0 k l=some u):(jcp k l).length+1=l.length:=by
 obtain ⟨A,B,e⟩:=List.append_of_mem (jg3 h)
 subst e
 rw [joy hs rfl]
 simp;omega
theorem qbw {l:List Ent} (hs:srt l) {x:Ent} (hx:x∈l) (hmin:∀ y∈l,y≠x->jah x.1 y.1=true):l.headD ((0,0),0)=x:=by
 cases l with
 | nil=>simp at hx
 | cons a l =>
   obtain ⟨h1,_⟩:=List.pairwise_cons.1 hs
   show a=x
   rcases List.mem_cons.1 hx with e|hx
   ·exact e.symm
   ·refine Classical.byContradiction fun hne=>?_
    have h2:=hmin a List.mem_cons_self hne
    have h3:=h1 _ hx
    rw [jdq h3] at h2
    cases h2
theorem jr5 {l:List Ent} (h:l≠[]):l.headD ((0,0),0)∈l:=by
 cases l with
 | nil=>exact absurd rfl h
 | cons a l=>exact List.mem_cons_self
theorem jtm {l:List Ent} (hs:srt l) {y:Ent} (hy:y∈l):y=l.headD ((0,0),0)\/jah (l.headD ((0,0),0)).1 y.1=true:=by
 cases l with
 | nil=>simp at hy
 | cons a l =>
   rcases List.mem_cons.1 hy with e|hy
   ·exact .inl e
   ·exact .inr ((List.pairwise_cons.1 hs).1 _ hy)
def jd3 (T:List Ent) (os:List Ord):Prop:=srt T/\∀ e,e∈T↔∃ i,i<os.length/\(os.getD i ja3).state=12/\e=(((i:Int)+1,0),0)
def jbr (Z:List Ent) (os:List Ord):Prop:=srt Z/\∀ e,e∈Z↔∃ i,i<os.length/\(os.getD i ja3).state=12/\e=((-(os.getD i ja3).units,(i:Int)+1),0)
def jdu (L:List Ent) (f:Int->Int->Int):Prop:=srt L/\∀ e,e∈L↔e.1.1≠0/\(e.1.2=12\/e.1.2=13\/e.1.2=14)/\e.2=f e.1.2 e.1.1/\e.2≠0
theorem jxj:jd3 [] []:=⟨List.Pairwise.nil,fun e=>by simp⟩
theorem jy3:jbr [] []:=⟨List.Pairwise.nil,fun e=>by simp⟩
theorem qbn:jdu [] (fun _ _=>0):=⟨List.Pairwise.nil,fun e=>by
 constructor
 ·intro h;simp at h
 ·rintro ⟨_,_,h1,h2⟩;exact absurd h1 h2⟩
theorem jus {L:List Ent} {f:Int->Int->Int} (h:jdu L f) {c st:Int} (hc:c≠0) (hst:st=12\/st=13\/st=14):jb0 (c,st) L=if f st c=0 then none else some (f st c):=by
 by_cases h0:f st c=0
 ·rw [if_pos h0,je5]
  intro e he hk
  obtain ⟨_,_,h3,h4⟩:=(h.2 e).1 he
  rw [hk] at h3
  exact h4 (h3.trans h0)
 ·rw [if_neg h0,jgs h.1,h.2]
  exact ⟨hc,hst,rfl,h0⟩
def jhi (L:List Ent) (c st d:Int):List Ent:=if (jb0 (c,st) L).getD 0+d=0 then jcp (c,st) L else jbb (c,st) ((jb0 (c,st) L).getD 0+d) L
def jyy (f:Int->Int->Int) (c st d:Int):Int->Int->Int:=fun st' c'=>if st'=st/\c'=c then f st c+d else f st' c'
theorem qba {L:List Ent} {f:Int->Int->Int} (h:jdu L f) {c st:Int} (d:Int) (hc:c≠0) (hst:st=12\/st=13\/st=14):jdu (jhi L c st d) (jyy f c st d):=by
 have hg:(jb0 (c,st) L).getD 0=f st c:=by
  rw [jus h hc hst]
  split
  ·next e=>simp [e]
  ·rfl
 unfold jhi
 rw [hg]
 split
 ·next e0 =>
  refine ⟨jk2 _ h.1,fun e=>?_⟩
  rw [jos,h.2]
  obtain ⟨⟨e1,e2⟩,v⟩:=e
  simp only [jyy,ne_eq,Prod.mk.injEq]
  by_cases hk:e2=st/\e1=c
  ·rw [if_pos hk]
   constructor
   ·rintro ⟨_,hx⟩;exact absurd ⟨hk.2,hk.1⟩ hx
   ·rintro ⟨_,_,h1,h2⟩;rw [e0] at h1;exact absurd h1 h2
  ·rw [if_neg hk]
   constructor
   ·rintro ⟨hx,_⟩;exact hx
   ·intro hx;exact ⟨hx,fun c=>hk ⟨c.2,c.1⟩⟩
 ·next e0 =>
  refine ⟨jgd _ _ h.1,fun e=>?_⟩
  rw [jfx,h.2]
  obtain ⟨⟨e1,e2⟩,v⟩:=e
  simp only [jyy,ne_eq,Prod.mk.injEq]
  by_cases hk:e2=st/\e1=c
  ·rw [if_pos hk]
   obtain ⟨rfl,rfl⟩:=hk
   constructor
   ·rintro (⟨_,h1⟩|⟨_,hx⟩)
    ·exact ⟨hc,hst,h1,by rw [h1];exact e0⟩
    ·exact absurd ⟨rfl,rfl⟩ hx
   ·rintro ⟨_,_,h1,h2⟩;exact .inl ⟨⟨rfl,rfl⟩,h1⟩
  ·rw [if_neg hk]
   constructor
   ·rintro (⟨⟨h1,h2⟩,_⟩|⟨hx,_⟩)
    ·exact absurd ⟨h2,h1⟩ hk
    ·exact hx
   ·intro hx;exact .inr ⟨hx,fun c=>hk ⟨c.2,c.1⟩⟩
def jd7 (os:List Ord):Int->Int->Int:=fun st c=>ja4 os st c
def isL (st:Int):Prop:=st=12\/st=13\/st=14
instance (st:Int):Decidable (isL st):=by unfold isL;infer_instance
def jmy (L:List Ent) (c st d:Int):List Ent:=if isL st then jhi L c st d else L
theorem jli {L:List Ent} {f g:Int->Int->Int} (h:jdu L f) (he:∀ st c,c≠0->isL st->f st c=g st c):jdu L g:=by
 refine ⟨h.1,fun e=>(h.2 e).trans ?_⟩
 constructor
 ·rintro ⟨h1,h2,h3,h4⟩;exact ⟨h1,h2,by rw [← he _ _ h1 h2];exact h3,h4⟩
 ·rintro ⟨h1,h2,h3,h4⟩;exact ⟨h1,h2,by rw [he _ _ h1 h2];exact h3,h4⟩
theorem jih {L:List Ent} {f:Int->Int->Int} (h:jdu L f) {c st:Int} (d:Int) (hc:c≠0):jdu (jmy L c st d) (jyy f c st d):=by
 unfold jmy
 split
 ·next hst=>exact qba h d hc hst
 ·next hst =>
  refine jli h (fun st' c' _ hl=>?_)
  unfold jyy
  rw [if_neg (by rintro ⟨e,_⟩;exact hst (e▸hl))]
theorem jlx {o:Ord} {st c:Int} (hc:c≠0):o.part st c=if st=o.state/\c=o.cust then o.units else 0:=by
 unfold Ord.part
 by_cases h1:st=o.state/\c=o.cust
 ·rw [if_pos h1,if_pos]
  unfold Ord.is
  rw [← h1.1,← h1.2]
  simp
 ·rw [if_neg h1,if_neg]
  intro hh
  unfold Ord.is at hh
  simp only [Bool.and_eq_true,Bool.or_eq_true,beq_iff_eq] at hh
  exact h1 ⟨hh.1.symm,(hh.2.resolve_left hc).symm⟩
theorem jpg (f:Int->Int->Int) (c0 s d s' c':Int):jyy f c0 s d s' c'=f s' c'+if s'=s/\c'=c0 then d else 0:=by
 unfold jyy
 split
 ·next h=>rw [h.1,h.2]
 ·omega
theorem jyn {L:List Ent} {os:List Ord} (h:jdu L (jd7 os)) {i:Nat} (hi:i<os.length) (o:Ord) (h1:o.cust=(os.getD i ja3).cust) (h2:o.units=(os.getD i ja3).units) (hc:o.cust≠0):jdu (jmy (jmy L o.cust (os.getD i ja3).state (-o.units)) o.cust o.state o.units) (jd7 (os.set i o)):=by
 refine jli (jih (jih h (-o.units) hc) o.units hc) (fun st c hc' hl=>?_)
 rw [jpg,jpg]
 unfold jd7
 rw [jct hi,jlx hc',jlx hc',← h1,← h2]
 generalize ja4 os st c=U
 split<;>split<;>omega
theorem jxi {L:List Ent} {os:List Ord} (h:jdu L (jd7 os)) (o:Ord) (hc:o.cust≠0):jdu (jmy L o.cust o.state o.units) (jd7 (os++[o])):=by
 refine jli (jih h o.units hc) (fun st c hc' hl=>?_)
 rw [jpg]
 unfold jd7
 rw [jbz,jlx hc']
theorem jyb {T:List Ent} {os:List Ord} (h:jd3 T os) {i:Nat} (hi:i<os.length) (o:Ord) (ho:o.state≠12):jd3 (jcp ((i:Int)+1,0) T) (os.set i o):=by
 refine ⟨jk2 _ h.1,fun e=>?_⟩
 rw [jos,h.2]
 constructor
 ·rintro ⟨⟨j,h1,h2,rfl⟩,h4⟩
  have hji:j≠i:=fun e=>h4 (by rw [e])
  exact ⟨j,by simpa using h1,by rw [jbm o hi,if_neg hji];exact h2,rfl⟩
 ·rintro ⟨j,h1,h2,rfl⟩
  rw [jbm o hi] at h2
  by_cases e:j=i
  ·rw [if_pos e] at h2;exact absurd h2 ho
  ·rw [if_neg e] at h2
   exact ⟨⟨j,by simpa using h1,h2,rfl⟩,fun c=>e (by simp at c;omega)⟩
theorem jqa {T:List Ent} {os:List Ord} (h:jbr T os) {i:Nat} (hi:i<os.length) (o:Ord) (ho:o.state≠12):jbr (jcp (-(os.getD i ja3).units,(i:Int)+1) T) (os.set i o):=by
 refine ⟨jk2 _ h.1,fun e=>?_⟩
 rw [jos,h.2]
 constructor
 ·rintro ⟨⟨j,h1,h2,rfl⟩,h4⟩
  have hji:j≠i:=fun e=>h4 (by rw [e])
  exact ⟨j,by simpa using h1,by rw [jbm o hi,if_neg hji];exact h2,by rw [jbm o hi,if_neg hji]⟩
 ·rintro ⟨j,h1,h2,rfl⟩
  rw [jbm o hi] at h2 ⊢
  by_cases e:j=i
  ·rw [if_pos e] at h2;exact absurd h2 ho
  ·rw [if_neg e] at h2 ⊢
   exact ⟨⟨j,by simpa using h1,h2,rfl⟩,fun c=>e (by simp at c;omega)⟩
theorem jvp {T:List Ent} {os:List Ord} (h:jd3 T os) {i:Nat} (hi:i<os.length) (o:Ord) (ho:o.state≠12) (hs:(os.getD i ja3).state≠12):jd3 T (os.set i o):=by
 refine ⟨h.1,fun e=>(h.2 e).trans ?_⟩
 constructor
 ·rintro ⟨j,h1,h2,rfl⟩
  have hji:j≠i:=fun e=>hs (e▸h2)
  exact ⟨j,by simpa using h1,by rw [jbm o hi,if_neg hji];exact h2,rfl⟩
 ·rintro ⟨j,h1,h2,rfl⟩
  rw [jbm o hi] at h2
  by_cases e:j=i
  ·rw [if_pos e] at h2;exact absurd h2 ho
  ·rw [if_neg e] at h2;exact ⟨j,by simpa using h1,h2,rfl⟩
theorem jvh {T:List Ent} {os:List Ord} (h:jbr T os) {i:Nat} (hi:i<os.length) (o:Ord) (ho:o.state≠12) (hs:(os.getD i ja3).state≠12):jbr T (os.set i o):=by
 refine ⟨h.1,fun e=>(h.2 e).trans ?_⟩
 constructor
 ·rintro ⟨j,h1,h2,rfl⟩
  have hji:j≠i:=fun e=>hs (e▸h2)
  exact ⟨j,by simpa using h1,by rw [jbm o hi,if_neg hji];exact h2,by rw [jbm o hi,if_neg hji]⟩
 ·rintro ⟨j,h1,h2,rfl⟩
  rw [jbm o hi] at h2 ⊢
  by_cases e:j=i
  ·rw [if_pos e] at h2;exact absurd h2 ho
  ·rw [if_neg e] at h2 ⊢;exact ⟨j,by simpa using h1,h2,rfl⟩
theorem jau {os:List Ord} {o:Ord} {j:Nat} (h:j<os.length+1):(os++[o]).getD j ja3=if j=os.length then o else os.getD j ja3:=by
 simp only [List.getD]
 by_cases e:j=os.length
 ·subst e;simp
 ·rw [if_neg e,List.getElem?_append_left (by omega)]
theorem qby {T:List Ent} {os:List Ord} (h:jd3 T os) (o:Ord) (ho:o.state=12):jd3 (jbb ((os.length:Int)+1,0) 0 T) (os++[o]):=by
 refine ⟨jgd _ _ h.1,fun e=>?_⟩
 rw [jfx,h.2]
 constructor
 ·rintro (rfl|⟨⟨j,h1,h2,rfl⟩,_⟩)
  ·exact ⟨os.length,by simp,by rw [jau (by omega),if_pos rfl];exact ho,rfl⟩
  ·exact ⟨j,by simp;omega,by rw [jau (by omega),if_neg (by omega)];exact h2,rfl⟩
 ·rintro ⟨j,h1,h2,rfl⟩
  have h1':j<os.length+1:=by simpa using h1
  rw [jau h1'] at h2
  by_cases e:j=os.length
  ·exact .inl (by rw [e])
  ·rw [if_neg e] at h2
   exact .inr ⟨⟨j,by omega,h2,rfl⟩,fun c=>e (by simp at c;omega)⟩
theorem qd7 {T:List Ent} {os:List Ord} (h:jbr T os) (o:Ord) (ho:o.state=12):jbr (jbb (-o.units,(os.length:Int)+1) 0 T) (os++[o]):=by
 refine ⟨jgd _ _ h.1,fun e=>?_⟩
 rw [jfx,h.2]
 constructor
 ·rintro (rfl|⟨⟨j,h1,h2,rfl⟩,_⟩)
  ·exact ⟨os.length,by simp,by rw [jau (by omega),if_pos rfl];exact ho,by rw [jau (by omega),if_pos rfl]⟩
  ·exact ⟨j,by simp;omega,by rw [jau (by omega),if_neg (by omega)];exact h2,by rw [jau (by omega),if_neg (by omega)]⟩
 ·rintro ⟨j,h1,h2,rfl⟩
  have h1':j<os.length+1:=by simpa using h1
  rw [jau h1'] at h2 ⊢
  by_cases e:j=os.length
  ·exact .inl (by rw [if_pos e,e])
  ·rw [if_neg e] at h2 ⊢
   exact .inr ⟨⟨j,by omega,h2,rfl⟩,fun c=>e (by simp at c;omega)⟩
theorem juv {T:List Ent} {os:List Ord} (h:jd3 T os) (o:Ord) (ho:o.state≠12):jd3 T (os++[o]):=by
 refine ⟨h.1,fun e=>(h.2 e).trans ?_⟩
 constructor
 ·rintro ⟨j,h1,h2,rfl⟩
  exact ⟨j,by simp;omega,by rw [jau (by omega),if_neg (by omega)];exact h2,rfl⟩
 ·rintro ⟨j,h1,h2,rfl⟩
  have h1':j<os.length+1:=by simpa using h1
  rw [jau h1'] at h2
  by_cases e:j=os.length
  ·rw [if_pos e] at h2;exact absurd h2 ho
  ·rw [if_neg e] at h2;exact ⟨j,by omega,h2,rfl⟩
theorem jwh {T:List Ent} {os:List Ord} (h:jbr T os) (o:Ord) (ho:o.state≠12):jbr T (os++[o]):=by
 refine ⟨h.1,fun e=>(h.2 e).trans ?_⟩
 constructor
 ·rintro ⟨j,h1,h2,rfl⟩
  exact ⟨j,by simp;omega,by rw [jau (by omega),if_neg (by omega)];exact h2,by rw [jau (by omega),if_neg (by omega)]⟩
 ·rintro ⟨j,h1,h2,rfl⟩
  have h1':j<os.length+1:=by simpa using h1
  rw [jau h1'] at h2 ⊢
  by_cases e:j=os.length
  ·rw [if_pos e] at h2;exact absurd h2 ho
  ·rw [if_neg e] at h2 ⊢;exact ⟨j,by omega,h2,rfl⟩
theorem jqz {T:List Ent} {os:List Ord} (h:jd3 T os) {q:Nat} {qs:List Nat} (hq:ja7 os=q :: qs):T.headD ((0,0),0)=(((q:Int)+1,0),0):=by
 have hm:q∈ja7 os:=by rw [hq];simp
 obtain ⟨h1,h2⟩:=(jbj os _ q).1 hm
 refine qbw h.1 ((h.2 _).2 ⟨q,h1,h2,rfl⟩) (fun y hy hne=>?_)
 obtain ⟨j,a,b,rfl⟩:=(h.2 _).1 hy
 have hj:j∈q :: qs:=by rw [← hq];exact (jbj os _ j).2 ⟨a,b⟩
 have hs':(q :: qs).Pairwise (·<·):=by rw [← hq];exact jdp os os.length
 rcases List.mem_cons.1 hj with rfl|hj
 ·exact absurd rfl hne
 ·have:=List.rel_of_pairwise_cons hs' hj
  rw [jea]
  exact .inl (by show (q:Int)+1<(j:Int)+1;omega)
theorem jls {T:List Ent} {os:List Ord} (h:jd3 T os):T=[]↔ja7 os=[]:=by
 constructor
 ·rintro rfl
  rw [List.eq_nil_iff_forall_not_mem]
  intro q hq
  obtain ⟨h1,h2⟩:=(jbj os _ q).1 hq
  have:=(h.2 _).2 ⟨q,h1,h2,rfl⟩
  simp at this
 ·intro hq
  rw [List.eq_nil_iff_forall_not_mem]
  intro e he
  obtain ⟨j,a,b,_⟩:=(h.2 e).1 he
  have:j∈ja7 os:=(jbj os _ j).2 ⟨a,b⟩
  rw [hq] at this
  simp at this
theorem jmw {T:List Ent} {os:List Ord} (h:jbr T os):T=[]↔ja7 os=[]:=by
 constructor
 ·rintro rfl
  rw [List.eq_nil_iff_forall_not_mem]
  intro q hq
  obtain ⟨h1,h2⟩:=(jbj os _ q).1 hq
  have:=(h.2 _).2 ⟨q,h1,h2,rfl⟩
  simp at this
 ·intro hq
  rw [List.eq_nil_iff_forall_not_mem]
  intro e he
  obtain ⟨j,a,b,_⟩:=(h.2 e).1 he
  have:j∈ja7 os:=(jbj os _ j).2 ⟨a,b⟩
  rw [hq] at this
  simp at this
theorem jqe {Z:List Ent} {os:List Ord} (h:jbr Z os) (hn:Z≠[]):∃ i,i<os.length/\(os.getD i ja3).state=12/\Z.headD ((0,0),0)=((-(os.getD i ja3).units,(i:Int)+1),0)/\∀ j,j<os.length->(os.getD j ja3).state=12->(os.getD j ja3).units<=(os.getD i ja3).units:=by
 obtain ⟨i,a,b,e⟩:=(h.2 _).1 (jr5 hn)
 refine ⟨i,a,b,e,fun j hj hs=>?_⟩
 have:=jtm h.1 ((h.2 _).2 ⟨j,hj,hs,rfl⟩)
 rw [e] at this
 rcases this with c|c
 ·have:=congrArg (fun e:Ent=>e.1.1) c
  simp only at this
  omega
 ·rw [jea] at c
  simp only at c
  omega
theorem juu {a b:List Ent} (ha:srt a) (hb:srt b) (h:∀ e,e∈a↔e∈b):a=b:=by
 induction a generalizing b with
 | nil =>
   symm
   rw [List.eq_nil_iff_forall_not_mem]
   intro e he
   have:=(h e).2 he
   simp at this
 | cons x a ih =>
   cases b with
   | nil=>have:=(h x).1 List.mem_cons_self;simp at this
   | cons y b =>
     obtain ⟨ha1,ha2⟩:=List.pairwise_cons.1 ha
     obtain ⟨hb1,hb2⟩:=List.pairwise_cons.1 hb
     have hxy:x=y:=by
      rcases List.mem_cons.1 ((h x).1 List.mem_cons_self) with e|hx
      ·exact e
      ·rcases List.mem_cons.1 ((h y).2 List.mem_cons_self) with e|hy
       ·exact e.symm
       ·have:=jdq (hb1 _ hx)
        rw [ha1 _ hy] at this
        cases this
     subst hxy
     congr 1
     refine ih ha2 hb2 (fun e=>?_)
     constructor
     ·intro he
      rcases List.mem_cons.1 ((h e).1 (List.mem_cons_of_mem _ he)) with c|c
      ·exact absurd (congrArg Prod.fst c).symm (jbl (ha1 _ he))
      ·exact c
     ·intro he
      rcases List.mem_cons.1 ((h e).2 (List.mem_cons_of_mem _ he)) with c|c
      ·exact absurd (congrArg Prod.fst c).symm (jbl (hb1 _ he))
      ·exact c
theorem jzd {T:List Ent} {os:List Ord} (h:jd3 T os):T.length=(ja7 os).length:=by
 have e:T=(ja7 os).map (fun i=>((((i:Nat):Int)+1,(0:Int)),(0:Int))):=by
  refine juu h.1 ?_ (fun e=>(h.2 e).trans ?_)
  ·unfold srt
   rw [List.pairwise_map]
   refine (jdp os _).imp (fun {a b} hab=>?_)
   rw [jea]
   exact .inl (by show (a:Int)+1<(b:Int)+1;omega)
  ·rw [List.mem_map]
   constructor
   ·rintro ⟨i,a,b,rfl⟩
    exact ⟨i,(jbj os _ i).2 ⟨a,b⟩,rfl⟩
   ·rintro ⟨i,a,rfl⟩
    obtain ⟨x,y⟩:=(jbj os _ i).1 a
    exact ⟨i,x,y,rfl⟩
 rw [e,List.length_map]
section
def Sal.more (S:Sal) (o:Ord):Sal:={ S with os:=S.os++[o] }
def Sal.ask (S:Sal) (r:Req):Rep × Sal :=
 if S.C.cap<ja4 S.os 13 r.cust+ja4 S.os 14 r.cust+ja4 S.os 12 r.cust+r.units then (⟨4,0,0,0⟩,S)
 else if S.left<r.units then (⟨5,0,0,0⟩,S)
 else if 4294967296<=S.os.length then (⟨6,0,0,0⟩,S)
 else if ja7 S.os=[]/\r.units<=S.free then
  (⟨2,S.os.length+1,(((S.more ⟨r.cust,r.units,0,0,0,0⟩).holds S.os.length).os.getD S.os.length ja3).cents,S.now+S.C.lease⟩,(S.more ⟨r.cust,r.units,0,0,0,0⟩).holds S.os.length)
 else if ((ja7 S.os).length:Int)=S.C.queue then (⟨6,0,0,0⟩,S)
 else (⟨3,S.os.length+1,0,S.now+S.C.wait⟩,S.more ⟨r.cust,r.units,12,0,S.now+S.C.wait,0⟩)
theorem jxb (os:List Ord) (o:Ord):jbg (os++[o])=jbg os++o.vals:=by simp [jbg]
def jtx (w w':World) (B R:Nat) (S':Sal) (ap:Option Addr) (lp cp:Nat) (vo va:Value):Prop :=
 ∃ vo',saleAt w' B R S' ap lp cp vo' va/\salI S'/\Same (fun b=>b=R\/vo.ownBlock=some b) w w'/\∀ k,vo'.ownBlock=some k->vo.ownBlock=some k\/w.heap.size+2<=k
section
variable {w w':World} {B R:Nat} {S:Sal} {ap:Option Addr} {lp cp:Nat} {vo va:Value}
theorem jr1 (h:saleAt w B R S ap lp cp vo va) {k:Nat} (h1:vo.ownBlock=some k) (h2:va.ownBlock=some k):False:=by
 rcases h.os.2 with ⟨rfl,_⟩|⟨g,c,cur,rfl,_,hh,_⟩
 ·simp [Value.ownBlock] at h1
 ·have e:g=k:=by simpa [Value.ownBlock] using h1
  subst e
  exact jak h.ansL hh (by decide) h2
theorem jh4 {own:Nat->Prop} {ps:List (Int × Int)} (h:tiersAt w ap lp cp ps) (hs:Same own w w') (h4:∀ b off,ap=some (aq b off)->¬ own b):tiersAt w' ap lp cp ps:=by
 obtain ⟨t1,t2,t3,t4,t5⟩:=h
 refine ⟨t1,t2,t3,t4,fun hne=>?_⟩
 obtain ⟨b,off,e,hbw,hc⟩:=t5 hne
 exact ⟨b,off,e,Nat.lt_of_lt_of_le hbw hs.size,fun k hk=>⟨(hs.cell hbw (h4 b off e)).trans (hc k hk).1,(hs.cell hbw (h4 b off e)).trans (hc k hk).2⟩⟩
theorem jlr (h:saleAt w B R S ap lp cp vo va) (hBR:B<=R) {C:Array Value} (hC:w.heap[R]?=some (.cells C 164 (0,0))) (o:Ord) {L:List Value} (hL:L=o.vals) (hp:je7 w w' B R C vo S.os.length (jbg S.os) L) :
 ∃ vo',saleAt w' B R (S.more o) ap lp cp vo' va/\Same (fun b=>b=R\/vo.ownBlock=some b) w w'/\(∀ k,vo'.ownBlock=some k->vo.ownBlock=some k\/w.heap.size+2<=k)/\∃ g c,vo'=.slice (some (aq g 0)) (S.os.length+1) c:=by
 obtain ⟨g,cap,h1,h2,h3,h4⟩:=hp
 have hb:=h.blk
 rw [hC] at hb
 simp only [Option.some.injEq,Obj.cells.injEq,and_true] at hb
 subst hb
 subst hL
 have hRw:R<w.heap.size:=(blt hC)
 refine ⟨.slice (some (aq g 0)) (S.os.length+1) cap,⟨h1,?_,h.low,?_,?_⟩,h3,fun k hk=>?_,g,cap,rfl⟩
 ·refine jh4 h.tiers h3 (fun b off e=>?_)
  have hlow:=h.low b off e
  rintro (e1|e1)
  ·omega
  ·have:=(World.ownsRow.lt h.os b e1).1;omega
 ·show w'.ownsRow B 228 6 _ (S.os++[o]).length (jbg (S.os++[o]))
  rw [jxb]
  simpa using h2
 ·refine jac h.ansL (fun k hk=>h3.block k (World.ownsRow.lt h.ansL k hk).2 ?_)
  rintro (e1|e1)
  ·exact jak h.ansL hC (by decide) (e1▸hk)
  ·exact jr1 h e1 hk
 ·have e:g=k:=by simpa [Value.ownBlock] using hk
  rw [← e]
  exact h4
theorem jf4 (h:saleAt w B R S ap lp cp vo va) (hI:salI S) (hb:Below w.heap.size w w'):jtx w w' B R S ap lp cp vo va :=
 ⟨vo,ja9 h hb,hI,Same.of_below hb,fun _ hk=>.inl hk⟩
end
theorem jzo {S:Sal} (h:salI S) (c u:Int) (hu:1<=u/\u<=4294967296) (hc:ja4 S.os 12 c+u<=4294967296) (t:Int):salI (S.more ⟨c,u,12,0,t,0⟩):=by
 refine ⟨fun x hx=>?_,?_,fun d hd=>?_,h.cfg,h.now,fun x hx=>?_,h.prices⟩
 ·rcases List.mem_append.1 hx with hx|hx
  ·exact h.units x hx
  ·simp at hx;subst hx;exact hu
 ·show ja4 (S.os++[_]) 13 0+ja4 (S.os++[_]) 14 0<=S.C.stock
  rw [jbz,jbz]
  have:=h.stock
  simp [Ord.part,Ord.is]
  omega
 ·show ja4 (S.os++[_]) 12 d<=4294967296
  rw [jbz,jlx hd]
  have:=h.cap d hd
  split
  ·next e=>have e2:d=c:=e.2;subst e2;show ja4 S.os 12 d+u<=_;omega
  ·omega
 ·rcases List.mem_append.1 hx with hx|hx
  ·exact h.ords x hx
  ·simp at hx;subst hx;exact ⟨by simp,by simp⟩
theorem jo4 {S:Sal} (h:salI S) (o:Ord) (hs:o.state=13) (hu:1<=o.units/\o.units<=4294967296) (hf:o.units<=S.free) (ho:(0<=o.cents/\o.cents<=1073741824)/\(0<=o.ended/\o.ended<=4611686018427387904)):salI (S.more o):=by
 refine ⟨fun x hx=>?_,?_,fun d hd=>?_,h.cfg,h.now,fun x hx=>?_,h.prices⟩
 ·rcases List.mem_append.1 hx with hx|hx
  ·exact h.units x hx
  ·simp at hx;subst hx;exact hu
 ·show ja4 (S.os++[_]) 13 0+ja4 (S.os++[_]) 14 0<=S.C.stock
  rw [jbz,jbz]
  unfold Sal.free Sal.left at hf
  simp [Ord.part,Ord.is,hs]
  omega
 ·show ja4 (S.os++[_]) 12 d<=4294967296
  rw [jbz,jlx hd]
  have:=h.cap d hd
  split
  ·next e=>have e1:=e.1;rw [hs] at e1;cases e1
  ·omega
 ·rcases List.mem_append.1 hx with hx|hx
  ·exact h.ords x hx
  ·simp at hx;subst hx;exact ho
theorem jul (os:List Ord) (o p:Ord):(os++[o]).set os.length p=os++[p]:=by
 rw [List.set_append_right (h:=Nat.le_refl _)]
 simp
theorem jhb (S:Sal) (c u:Int):(S.more ⟨c,u,0,0,0,0⟩).holds S.os.length=S.more ⟨c,u,13,(S.more ⟨c,u,13,0,0,0⟩).price,S.now+S.C.lease,0⟩/\(S.more ⟨c,u,13,0,0,0⟩).price=S.price:=by
 have g:(S.more ⟨c,u,0,0,0,0⟩).os.getD S.os.length ja3=⟨c,u,0,0,0,0⟩:=by
  show (S.os++[_]).getD S.os.length ja3=_
  rw [jau (by omega),if_pos rfl]
 constructor
 ·unfold Sal.holds
  rw [g]
  unfold Sal.put
  simp only [Sal.more,jul]
 ·unfold Sal.price
  show jcw S.C.prices (ja4 (S.os++[_]) 14 0) _=_
  rw [jbz]
  simp [Ord.part,Ord.is]
  rfl
section
variable {w w':World} {B R:Nat} {S:Sal} {ap:Option Addr} {lp cp:Nat} {vo va:Value}
theorem qa9 (h:saleAt w B R S ap lp cp vo va) (hI:salI S) (hBR:B<=R) (hcap:S.C.cap<=4294967296) (hqm:1<=S.C.queue) (hl:S.os.length * 48+48<=140737488351232) (r:Req) (hr:1<=r.cust/\1<=r.units/\r.units<=4294967296) :
 Calls Tryz.prog 148 #[pt R 0,r.val] w fun e w'=>e=.returned (S.ask r).1.val/\jtx w w' B R (S.ask r).2 ap lp cp vo va:=by
 have hN:=hI.N hl
 have hRw:R<w.heap.size:=(blt h.blk)
 obtain ⟨_,c1,c2,_,c4,_,_,_,c8,c9,_⟩:=jcf h.blk
 obtain ⟨oo,oc',hvo⟩:=jc7 h.os
 subst hvo
 have hc0:r.cust≠0:=by omega
 have ha:0<=ja4 S.os 13 r.cust/\ja4 S.os 13 r.cust<=4294967296:=⟨jfp hN _ _,hN.held _⟩
 have hb:0<=ja4 S.os 14 r.cust/\ja4 S.os 14 r.cust<=4294967296:=⟨jfp hN _ _,hN.sold _⟩
 have hd:0<=ja4 S.os 12 r.cust/\ja4 S.os 12 r.cust<=4294967296:=⟨jfp hN _ _,hN.waits _ hc0⟩
 have hu:0<=r.units/\r.units<=4294967296:=⟨by omega,hr.2.2⟩
 have HU:Hid (∀ st:Int,(st=13\/st=14\/st=12)->∀ W,Below w.heap.size w W->Calls Tryz.prog 125 #[pt R 0,iv st,iv r.cust] W fun e w'=>e=.returned (iv (ja4 S.os st r.cust))/\Below W.heap.size W w'):=fun st hst=>jce h hN st r.cust (hst.imp id (fun x=>x.imp id (fun x=>⟨x,hc0⟩)))
 have HQ:Hid (∀ W,Below w.heap.size w W->Calls Tryz.prog 123 #[pt R 0] W fun e w'=>∃ oa oc,e=.returned (.slice oa (ja7 S.os).length oc)/\Below W.heap.size W w'):=fun W hW=>(jfz h hN W hW).mono (by
  rintro e w' ⟨out,rfl,ho,hb⟩
  obtain ⟨a,c,rfl⟩:=jc7 ho
  exact ⟨a,c,rfl,hb⟩)
 have HL:=jk8 h hN
 have HFR:=jkl h hN
 have hlow:B<=w.heap.size:=by omega
 unfold Sal.ask
 by_cases g1:S.C.cap<ja4 S.os 13 r.cust+ja4 S.os 14 r.cust+ja4 S.os 12 r.cust+r.units
 ·rw [if_pos g1]
  exact (qco R _ r w (fun st=>ja4 S.os st r.cust) _ c1 ha hb hd hu g1 HU HQ).mono (by rintro e w' ⟨rfl,hb⟩;exact ⟨rfl,jf4 h hI hb⟩)
 rw [if_neg g1]
 by_cases g2:S.left<r.units
 ·rw [if_pos g2]
  exact (qb7 R _ r w (fun st=>ja4 S.os st r.cust) _ _ c1 ha hb hd hu g1 g2 HU HQ HL).mono (by rintro e w' ⟨rfl,hb⟩;exact ⟨rfl,jf4 h hI hb⟩)
 rw [if_neg g2]
 by_cases g3:4294967296<=S.os.length
 ·rw [if_pos g3]
  exact (jy7 R _ r w (fun st=>ja4 S.os st r.cust) _ _ c1 ha hb hd hu g1 g2 oo _ oc' c9 g3 HU HQ HL).mono (by rintro e w' ⟨rfl,hb⟩;exact ⟨rfl,jf4 h hI hb⟩)
 rw [if_neg g3]
 by_cases g4:ja7 S.os=[]/\r.units<=S.free
 ·rw [if_pos g4]
  obtain ⟨m1,m2⟩:=jhb S r.cust r.units
  have hg:((S.more ⟨r.cust,r.units,0,0,0,0⟩).holds S.os.length).os.getD S.os.length ja3=⟨r.cust,r.units,13,S.price,S.now+S.C.lease,0⟩:=by
   rw [m1,m2]
   show (S.os++[_]).getD S.os.length ja3=_
   rw [jau (by omega),if_pos rfl]
  have hI':salI ((S.more ⟨r.cust,r.units,0,0,0,0⟩).holds S.os.length):=by
   rw [m1,m2]
   exact jo4 hI _ rfl hr.2 g4.2 ⟨jdl hI.prices _ _ (Nat.le_refl _),by simp⟩
  have hN1:salN ((S.more ⟨r.cust,r.units,0,0,0,0⟩).put S.os.length { (S.more ⟨r.cust,r.units,0,0,0,0⟩).os.getD S.os.length ja3 with state:=13 }):=by
   have e:(S.more ⟨r.cust,r.units,0,0,0,0⟩).put S.os.length { (S.more ⟨r.cust,r.units,0,0,0,0⟩).os.getD S.os.length ja3 with state:=13 }=S.more ⟨r.cust,r.units,13,0,0,0⟩:=by
      have g:(S.more ⟨r.cust,r.units,0,0,0,0⟩).os.getD S.os.length ja3=⟨r.cust,r.units,0,0,0,0⟩:=by
       show (S.os++[_]).getD S.os.length ja3=_
       rw [jau (by omega),if_pos rfl]
      rw [g]
      unfold Sal.put
      simp only [Sal.more,jul]
   rw [e]
   exact (jo4 hI ⟨r.cust,r.units,13,0,0,0⟩ rfl hr.2 g4.2 ⟨by simp,by simp⟩).N (by simp [Sal.more];omega)
  rw [hg]
  refine (jvk R B _ r w (fun st=>ja4 S.os st r.cust) _ _ _ S.price (S.now+S.C.lease) _ oo _ oc' (jbg S.os) (fun W=>jtx w W B R ((S.more ⟨r.cust,r.units,0,0,0,0⟩).holds S.os.length) ap lp cp (.slice oo S.os.length oc') va) c1 ha hb hd hu g1 g2 c9 (by omega) (by rw [g4.1];rfl) (by omega) h.blk h.os hlow ?_ ?_ HU HQ HL HFR).mono (by rintro e w' ⟨rfl,hq⟩;exact ⟨rfl,hq⟩)
  ·intro W hw1 hW
   obtain ⟨vo',a1,a2,a3,g,c,hvo'⟩:=jlr h hBR h.blk ⟨r.cust,r.units,0,0,0,0⟩ rfl hW
   refine (jlk a1 (i:=S.os.length) (by simp [Sal.more]) hN1 ⟨hI.now.1,hI.now.2,hI.cfg.2.2.1,hI.cfg.2.2.2.1⟩ W (Below.refl _ _)).mono ?_
   rintro e w' ⟨rfl,b1,b2⟩
   have hne:¬ vo'.ownBlock=some (w.heap.size+1):=fun e=>by
      rcases a3 _ e with x|x
      ·have:=(World.ownsRow.lt h.os _ x).2;omega
      ·omega
   have zW:=a2.size
   have z2:=b2.size
   obtain ⟨_,_,_,_,_,_,_,_,_,x9,_⟩:=jcf b1.blk
   obtain ⟨g2,cap2,hv2,hg2,_,_,ho2,_⟩:=jm0 b1 (i:=S.os.length) (by rw [m1];simp [Sal.more])
   rw [hg] at ho2
   refine ⟨rfl,⟨vo',b1,hI',?_,a3⟩,b2.block _ hw1 hne,z2,?_⟩
   ·exact Same.trans a2 b2 (fun k hk e=>e.elim id (fun e=>(a3 k e).elim .inr (fun e=>by omega)))
   ·rw [hv2] at x9
    have hlen:((S.more ⟨r.cust,r.units,0,0,0,0⟩).holds S.os.length).os.length=S.os.length+1:=by rw [m1];simp [Sal.more]
    rw [hlen] at x9
    exact ⟨g2,cap2,x9,ho2.2.2.2.1,ho2.2.2.2.2.1,hg2⟩
  ·rintro W W' ⟨vo',a1,a2,a3,a4⟩ hs
   have hRw':R≠w.heap.size+1:=by omega
   refine ⟨vo',jcq a1 hs hRw' (fun k hk=>?_) (fun k hk=>?_) (fun _ b off e=>?_),a2,Same.trans a3 hs (fun k hk e=>e.elim id (fun e=>by omega)),a4⟩
   ·show k≠w.heap.size+1
    rcases a4 k hk with x|x
    ·have:=(World.ownsRow.lt h.os _ x).2;omega
    ·omega
   ·show k≠w.heap.size+1
    have:=(World.ownsRow.lt h.ansL _ hk).2
    omega
   ·show b≠w.heap.size+1
    have:=h.low b off e
    omega
 rw [if_neg g4]
 have fresh:∀ w',je7 w w' B R #[iv S.C.stock,iv S.C.cap,iv S.C.queue,iv S.C.lease,iv S.C.wait,iv S.C.keep,iv S.C.tokens,.slice ap lp cp,iv S.now,.slice oo S.os.length oc',va] (.slice oo S.os.length oc') S.os.length (jbg S.os) [iv r.cust,iv r.units,iv 12,iv 0,iv (S.now+S.C.wait),iv 0]->jtx w w' B R (S.more ⟨r.cust,r.units,12,0,S.now+S.C.wait,0⟩) ap lp cp (.slice oo S.os.length oc') va:=fun w' hW=>by
  obtain ⟨vo',a1,a2,a3,g,c,hvo'⟩:=jlr h hBR h.blk ⟨r.cust,r.units,12,0,S.now+S.C.wait,0⟩ rfl hW
  exact ⟨vo',a1,jzo hI _ _ hr.2 (by omega) _,a2,a3⟩
 have hnw:0<=S.now/\S.now<=4611686018427387904/\0<=S.C.wait/\S.C.wait<=4294967296:=⟨hI.now.1,hI.now.2,hI.cfg.2.2.2.2.1,hI.cfg.2.2.2.2.2⟩
 by_cases g5:((ja7 S.os).length:Int)=S.C.queue
 ·rw [if_pos g5]
  rw [← g5] at c2
  exact (jyp R _ r w (fun st=>ja4 S.os st r.cust) _ _ c1 ha hb hd hu g1 g2 oo _ oc' c9 (by omega) c2 (by omega) HU HQ HL).mono (by rintro e w' ⟨rfl,hb⟩;exact ⟨rfl,jf4 h hI hb⟩)
 rw [if_neg g5]
 by_cases g6:ja7 S.os=[]
 ·have hf:S.free<r.units:=by
   have:¬ r.units<=S.free:=fun c=>g4 ⟨g6,c⟩
   omega
  refine (jww R B _ r w (fun st=>ja4 S.os st r.cust) _ _ _ _ _ _ _ oo _ oc' (jbg S.os) c1 ha hb hd hu g1 g2 c9 (by omega) c2 (by rw [g6];rfl) (by omega) hf c8 c4 hnw h.blk h.os hlow HU HQ HL HFR).mono ?_
  rintro e w' ⟨rfl,hq⟩
  exact ⟨rfl,fresh w' hq⟩
 ·have hql:0<(ja7 S.os).length:=by
   cases hq:ja7 S.os with
   | nil=>exact absurd hq g6
   | cons a l=>simp
  refine (jv0 R B _ r w (fun st=>ja4 S.os st r.cust) _ _ _ _ _ _ oo _ oc' (jbg S.os) c1 ha hb hd hu g1 g2 c9 (by omega) c2 hql g5 c8 c4 hnw h.blk h.os hlow HU HQ HL).mono ?_
  rintro e w' ⟨rfl,hq⟩
  exact ⟨rfl,fresh w' hq⟩
end
end
theorem jzp (R bl bc:Nat) (ba:Option Addr) (k t c u o err:Int) (w:World) (he:err=2)
 (HUP:Hid (∀ W,Below w.heap.size w W->Calls Tryz.prog 73 #[.slice ba bl bc] W fun e w'=>e=.returned (.tuple #[.agg #[iv k,iv t,iv c,iv u,iv o],iv err])/\Below W.heap.size W w')) :
 Calls Tryz.prog 121 #[pt R 0,.slice ba bl bc] w fun e w'=>e=.returned (.agg #[iv 1,iv 0,iv 0,iv 0])/\Below w.heap.size w w':=by
 subst he
 go_enter Tryz.func121,Tryz.ntmps121
 go_wp2_with fail
 refine (HUP.out _ bL).mono ?_
 rintro e w1 ⟨rfl,b1⟩
 have w01:Below w.heap.size w w1:=Below.trans (show Below w.heap.size w _ from bL) (b1.mono (by simp))
 have n0:w1.heap[w.heap.size]?=some (.cells #[iv 0,iv 0,iv 0,iv 0] 42 (0,0)):=(b1.block _ (by simp)).trans (heap_alloc_new w _)
 have hz:w.heap.size<w1.heap.size:=(blt n0)
 have hne:w1.heap.size≠w.heap.size:=by omega
 obtain ⟨s0,s1,s2,s3⟩:=ja2 n0
 have f0:=ja0 n0 0
 have f1:=ja0 n0 1
 have f2:=ja0 n0 2
 have f3:=ja0 n0 3
 go_wp2
 refine bodyPost_ret (v:=.agg #[iv 1,iv 0,iv 0,iv 0]) (by simp [results,Tryz.results121,go_sem, *]) rfl ⟨rfl,?_⟩
 exact bL
theorem jwp (R bl bc:Nat) (ba:Option Addr) (k t c u o err p0 p1 p2 p3:Int) (w:World) (he:err=0) (hk:k=4)
 (HUP:Hid (∀ W,Below w.heap.size w W->Calls Tryz.prog 73 #[.slice ba bl bc] W fun e w'=>e=.returned (.tuple #[.agg #[iv k,iv t,iv c,iv u,iv o],iv err])/\Below W.heap.size W w'))
 (HPO:Hid (∀ W,Below w.heap.size w W->Calls Tryz.prog 146 #[pt R 0,.agg #[iv 4,iv t,iv c,iv u,iv o]] W fun e w'=>e=.returned (.agg #[iv p0,iv p1,iv p2,iv p3])/\Below W.heap.size W w')) :
 Calls Tryz.prog 121 #[pt R 0,.slice ba bl bc] w fun e w'=>e=.returned (.agg #[iv p0,iv p1,iv p2,iv p3])/\Below w.heap.size w w':=by
 subst he
 subst hk
 go_enter Tryz.func121,Tryz.ntmps121
 go_wp2_with fail
 refine (HUP.out _ bL).mono ?_
 rintro e w1 ⟨rfl,b1⟩
 have w01:Below w.heap.size w w1:=Below.trans (show Below w.heap.size w _ from bL) (b1.mono (by simp))
 have n0:w1.heap[w.heap.size]?=some (.cells #[iv 0,iv 0,iv 0,iv 0] 42 (0,0)):=(b1.block _ (by simp)).trans (heap_alloc_new w _)
 have hz:w.heap.size<w1.heap.size:=(blt n0)
 have hne:w1.heap.size≠w.heap.size:=by omega
 clear b1
 go_wp2_with fail
 refine (HPO.out _ bL).mono ?_
 rintro e w2 ⟨rfl,b2⟩
 have w02:Below w.heap.size w w2:=Below.trans (show Below w.heap.size w _ from bL) (b2.mono (by simp<;>omega))
 have n2:=(b2.block w.heap.size (by simp<;>omega)).trans ((Below.heap_alloc w1 _ _ hz).trans n0)
 have hz2:w.heap.size<w2.heap.size:=(blt n2)
 obtain ⟨s0,s1,s2,s3⟩:=ja2 n2
 have f0:=ja0 n2 0
 have f1:=ja0 n2 1
 have f2:=ja0 n2 2
 have f3:=ja0 n2 3
 clear b2 n0 n2
 go_wp2
 refine bodyPost_ret (v:=.agg #[iv p0,iv p1,iv p2,iv p3]) (by simp [results,Tryz.results121,go_sem, *]) rfl ⟨rfl,?_⟩
 exact bL
section
def Ans.val (a:Ans):Value:=.agg #[.string a.frame,iv a.token,iv a.rep.kind,iv a.rep.order,iv a.rep.cents,iv a.rep.upto,iv a.at']
def Sal.remem (S:Sal) (a:Ans):Bool:=decide (S.now - a.at'<S.C.keep)
def Sal.answers (S:Sal):Nat:=(S.ansL.filter S.remem).length
def jzz (w:World) (g i:Nat) (a:Ans):Prop :=
 w.cell? (aq g (i * 7))=some (.string a.frame)/\w.cell? (aq g (i * 7+1))=some (iv a.token)/\w.cell? (aq g (i * 7+2))=some (iv a.rep.kind)/\w.cell? (aq g (i * 7+3))=some (iv a.rep.order)/\w.cell? (aq g (i * 7+4))=some (iv a.rep.cents)/\w.cell? (aq g (i * 7+5))=some (iv a.rep.upto)/\w.cell? (aq g (i * 7+6))=some (iv a.at')
def jqy (w:World) (v:Value) (l:List Ans):Prop:=∃ a c,v=.slice a l.length c/\(0<l.length->∃ g,a=some (aq g 0)/\g<w.heap.size/\∀ i,i<l.length->jzz w g i (l.getD i jbt))
theorem js4 {w:World} {B:Nat} {v:Value} {l:List Ans} {T:TypeId} (h:w.ownsRow B T 7 v l.length (jin l)):jqy w v l:=by
 rcases h.2 with ⟨rfl,h0⟩|⟨g,cap,cur,rfl,hg,hh,_⟩
 ·exact ⟨none,0,by rw [h0],fun hp=>by omega⟩
 ·refine ⟨_,_,rfl,fun _=>⟨g,rfl,(blt hh),fun i hi=>?_⟩⟩
  have c:∀ j,j<7->∀ u,(l.getD i jbt).vals[j]?=some u->w.cell? (aq g (i * 7+j))=some u:=fun j hj u hu=>by
   have:=h.cells (g:=g) rfl _ _ ((ju8 hi j hj).trans hu)
   rwa [Addr.add_lit,Nat.zero_add] at this
  exact ⟨c 0 (by omega) _ rfl,c 1 (by omega) _ rfl,c 2 (by omega) _ rfl,c 3 (by omega) _ rfl,c 4 (by omega) _ rfl,c 5 (by omega) _ rfl,c 6 (by omega) _ rfl⟩
theorem jop (R:Nat) (now keep:Int) (a:Ans) (w:World) (h8:w.cell? (aq R 8)=some (iv now)) (h5:w.cell? (aq R 5)=some (iv keep)) (hb:0<=now/\now<=4611686018427387904/\0<=a.at'/\a.at'<=4611686018427387904) :
 Calls Tryz.prog 147 #[pt R 0,a.val] w fun e w'=>e=.returned (.bool (decide (now - a.at'<keep)))/\Below w.heap.size w w':=by
 have hRw:R<w.heap.size:=World.block_lt_of_cell? w _ h8
 obtain ⟨f,t,⟨k,o,c,u⟩,at'⟩:=a
 unfold Ans.val
 simp only at hb ⊢
 have hw:IntKind.i64.wrap (now - at')=now - at':=jag (by omega) (by omega)
 go_enter Tryz.func147,Tryz.ntmps147
 go_wp2_with fail
 go_quiet (fail)
 go_wp2
 go_ret
 exact ⟨rfl,bL⟩
theorem jps (R:Nat) (v:Value) (l:List Ans) (p:Ans->Bool) (w:World) (h10:w.cell? (aq R 10)=some v) (hd:jqy w v l) (hl:l.length * 64<=140737488355328)
 (HR:Hid (∀ a∈l,∀ W,Below w.heap.size w W->Calls Tryz.prog 147 #[pt R 0,a.val] W fun e w'=>e=.returned (.bool (p a))/\Below W.heap.size W w')) :
 Calls Tryz.prog 126 #[pt R 0] w fun e w'=>e=.returned (iv (l.filter p).length)/\Below w.heap.size w w':=by
 obtain ⟨a,cp,rfl,hc⟩:=hd
 have hRw:R<w.heap.size:=World.block_lt_of_cell? w _ h10
 have HC:Hid (0<l.length->∃ g,a=some (aq g 0)/\g<w.heap.size/\∀ i,i<l.length->jzz w g i (l.getD i jbt)):=hc
 have H10:Hid (w.cell? (aq R 10)=some (.slice a l.length cp)):=h10
 clear hc h10
 go_enter Tryz.func126,Tryz.ntmps126
 go_wp2_with fail
 go_loopw [3,4] (fun n i wr=>∃ k:Nat,k<=l.length/\i=iv k/\n=iv ((l.take k).filter p).length/\Below w.heap.size w wr) (fun _ i _=>l.length - (intOf i).toNat)
 case atStart=>exact ⟨0,Nat.zero_le _,rfl,rfl,Below.refl _ _⟩
 case round =>
  obtain ⟨k,hk,rfl,rfl,hbel⟩:=hrel
  have c10:=(hbel.cell (p:=(aq R 10)) hRw).trans H10.out
  have hRr:R<wr.heap.size:=Nat.lt_of_lt_of_le hRw hbel.size
  have hz:=hbel.size
  by_cases hlt:k<l.length
  ·obtain ⟨g,rfl,hgw,hcell⟩:=HC.out (by omega)
   obtain ⟨e0,e1,e2,e3,e4,e5,e6⟩:=hcell k hlt
   have hgr:g<wr.heap.size:=Nat.lt_of_lt_of_le hgw hbel.size
   have hmem:l.getD k jbt∈l:=by
    simp only [List.getD,List.getElem?_eq_getElem hlt,Option.getD_some]
    exact List.getElem_mem hlt
   have HRK:Hid (∀ W,Below w.heap.size w W->Calls Tryz.prog 147 #[pt R 0,(l.getD k jbt).val] W fun e w'=>e=.returned (.bool (p (l.getD k jbt)))/\Below W.heap.size W w'):=HR.out _ hmem
   have HN:Hid (((l.take (k+1)).filter p).length=((l.take k).filter p).length+if p (l.getD k jbt) then 1 else 0):=by
    unfold Hid
    rw [List.take_succ_eq_append_getElem hlt,List.filter_append,List.length_append]
    have:l.getD k jbt=l[k]:=by simp [List.getD,List.getElem?_eq_getElem hlt]
    rw [this]
    cases h:p l[k]<;>simp [h]
   have hfl:((l.take k).filter p).length<=k:=Nat.le_trans (List.length_filter_le _ _) (by simp;omega)
   replace e0:=(hbel.cell (p:=(aq g (k * 7))) hgw).trans e0
   replace e1:=(hbel.cell (p:=(aq g (k * 7+1))) hgw).trans e1
   replace e2:=(hbel.cell (p:=(aq g (k * 7+2))) hgw).trans e2
   replace e3:=(hbel.cell (p:=(aq g (k * 7+3))) hgw).trans e3
   replace e4:=(hbel.cell (p:=(aq g (k * 7+4))) hgw).trans e4
   replace e5:=(hbel.cell (p:=(aq g (k * 7+5))) hgw).trans e5
   replace e6:=(hbel.cell (p:=(aq g (k * 7+6))) hgw).trans e6
   have b0:(0:Int)<=(k:Int):=by omega
   have b1:(k:Int)<(l.length:Int):=by omega
   generalize l.getD k jbt=x at e0 e1 e2 e3 e4 e5 e6 HRK HN
   generalize p x=px at HRK HN
   obtain ⟨f,t,⟨kk,oo,cc,uu⟩,at'⟩:=x
   unfold Ans.val at HRK
   simp only at e0 e1 e2 e3 e4 e5 e6 HRK
   generalize hm1:((l.take (k+1)).filter p).length=m1 at HN
   have HK:Hid (((l.take (k+1)).filter p).length=m1):=hm1
   clear hm1
   generalize ((l.take k).filter p).length=m at HN hfl
   clear hcell HC HR
   cases px
   ·have hm2:m1=m:=by simpa using HN.out
    go_wp2_with (go_at_call 147;refine (HRK.out _ bL).mono ?_;rintro e w1 ⟨rfl,b⟩)
    have hb1:Below w.heap.size w w1:=Below.trans (show Below w.heap.size w _ from bL) (b.mono (by omega))
    exact ⟨⟨k+1,by omega,by go_num,by rw [HK.out,hm2],hb1⟩,by simp [intOf];omega⟩
   ·have hm2:m1=m+1:=by simpa using HN.out
    go_wp2_with (go_at_call 147;refine (HRK.out _ bL).mono ?_;rintro e w1 ⟨rfl,b⟩)
    have hb1:Below w.heap.size w w1:=Below.trans (show Below w.heap.size w _ from bL) (b.mono (by omega))
    exact ⟨⟨k+1,by omega,by go_num,by rw [HK.out,hm2];go_num,hb1⟩,by simp [intOf];omega⟩
  ·have hke:k=l.length:=by omega
   subst hke
   go_wp2
   go_ret
   exact ⟨by rw [List.take_length];rfl,hbel⟩
section
variable {w:World} {B R:Nat} {S:Sal} {ap:Option Addr} {lp cp:Nat} {vo va:Value}
theorem jjd (h:saleAt w B R S ap lp cp vo va) (hI:salI S) (hat:∀ a∈S.ansL,0<=a.at'/\a.at'<=4611686018427387904) (hl:S.ansL.length * 64<=140737488355328) :
 ∀ W,Below w.heap.size w W->Calls Tryz.prog 126 #[pt R 0] W fun e w'=>e=.returned (iv S.answers)/\Below W.heap.size W w':=by
 intro W hW
 have h':=ja9 h hW
 refine jps R va S.ansL S.remem W (by rw [Joins.cell_of_block h'.blk];rfl) (js4 h'.ansL) hl (fun a ha W2 h2=>?_)
 have h'':=ja9 h' h2
 obtain ⟨_,_,_,_,_,c5,_,_,c8,_⟩:=jcf h''.blk
 exact jop R S.now S.C.keep a W2 c8 c5 ⟨hI.now.1,hI.now.2,(hat a ha).1,(hat a ha).2⟩
end
end
section
theorem jf3 {w:World} {R:Nat} {c0 c1 c2:Value} {T:TypeId} (h:w.heap[R]?=some (.cells #[c0,c1,c2] T (0,0))):w.cell? (aq R 0)=some c0/\w.cell? (aq R 1)=some c1/\w.cell? (aq R 2)=some c2 :=
 ⟨by rw [Joins.cell_of_block h];rfl,by rw [Joins.cell_of_block h];rfl,by rw [Joins.cell_of_block h];rfl⟩
theorem jt5 (R:Nat) (c:Int) (w:World) (hc:jc3 c=false) :
 Calls Tryz.prog 88 #[pt R 0,iv c] w fun e w'=>e=.returned (.tuple #[.agg #[iv 0,iv 0,iv 0],iv 3])/\Below w.heap.size w w':=by
 have HN:Hid (∀ W,Calls Tryz.prog 92 #[iv c] W fun e w'=>e=.returned (.bool false)/\W=w'):=fun W=>by
  have:=jf0 c W
  rw [hc] at this
  exact this
 go_enter Tryz.func88,Tryz.ntmps88
 go_wp2_with (go_at_call 92;refine (HN.out _).mono ?_;rintro e w1 ⟨rfl,rfl⟩)
 refine bodyPost_ret (v:=.tuple #[.agg #[iv 0,iv 0,iv 0],iv 3]) (by simp [results,Tryz.results88,go_sem]) rfl ⟨rfl,?_⟩
 exact bL
theorem jql (R:Nat) (c a b d:Int) (w:World) (hc:jc3 c=true)
 (HH:Hid (∀ W,Below w.heap.size w W->Calls Tryz.prog 125 #[pt R 0,iv 13,iv c] W fun e w'=>e=.returned (iv a)/\Below W.heap.size W w'))
 (HS:Hid (∀ W,Below w.heap.size w W->Calls Tryz.prog 125 #[pt R 0,iv 14,iv c] W fun e w'=>e=.returned (iv b)/\Below W.heap.size W w'))
 (HW:Hid (∀ W,Below w.heap.size w W->Calls Tryz.prog 125 #[pt R 0,iv 12,iv c] W fun e w'=>e=.returned (iv d)/\Below W.heap.size W w')) :
 Calls Tryz.prog 88 #[pt R 0,iv c] w fun e w'=>e=.returned (.tuple #[.agg #[iv a,iv b,iv d],iv 0])/\Below w.heap.size w w':=by
 have HN:Hid (∀ W,Calls Tryz.prog 92 #[iv c] W fun e w'=>e=.returned (.bool true)/\W=w'):=fun W=>by
  have:=jf0 c W
  rw [hc] at this
  exact this
 go_enter Tryz.func88,Tryz.ntmps88
 go_wp2_with (go_at_call 92;refine (HN.out _).mono ?_;rintro e w1 ⟨rfl,rfl⟩)
 refine (HH.out _ bL).mono ?_
 rintro e w1 ⟨rfl,b1⟩
 have hb1:Below (w.heap.size+1) (w.alloc (.cells #[iv 0,iv 0,iv 0] 87)) w1:=b1.mono (by simp)
 have w01:Below w.heap.size w w1:=Below.trans ((Below.refl _ _).alloc (Nat.le_refl _) _) (hb1.mono (by omega))
 go_wp2_with fail
 refine (HS.out _ w01).mono ?_
 rintro e w2 ⟨rfl,b2⟩
 have z1:w.heap.size+1<=w1.heap.size:=by have:=hb1.size;simpa using this
 have hb2:Below (w.heap.size+1) (w.alloc (.cells #[iv 0,iv 0,iv 0] 87)) w2:=hb1.trans (b2.mono z1)
 have w02:Below w.heap.size w w2:=w01.trans (b2.mono (by omega))
 have z2:=b2.size
 go_wp2_with fail
 refine (HW.out _ w02).mono ?_
 rintro e w3 ⟨rfl,b3⟩
 have hb3:Below (w.heap.size+1) (w.alloc (.cells #[iv 0,iv 0,iv 0] 87)) w3:=hb2.trans (b3.mono (by omega))
 have w03:Below w.heap.size w w3:=w02.trans (b3.mono (by omega))
 have n0:=(hb3.block w.heap.size (by omega)).trans (heap_alloc_new w _)
 obtain ⟨s0,s1,s2⟩:=jf3 n0
 have f0:=ja0 n0 0
 have f1:=ja0 n0 1
 have f2:=ja0 n0 2
 clear b1 b2 b3 hb1 hb2 hb3 n0
 go_wp2
 refine bodyPost_ret (v:=.tuple #[.agg #[iv a,iv b,iv d],iv 0]) (by simp [results,Tryz.results88,go_sem,s0,s1,s2]) rfl ⟨rfl,?_⟩
 exact ((w03.setCell (p:=(aq w.heap.size 0)) (Nat.le_refl _) _).setCell (p:=(aq w.heap.size 1)) (Nat.le_refl _) _).setCell (p:=(aq w.heap.size 2)) (Nat.le_refl _) _
def Sal.account (S:Sal) (c:Int):Int × Int × Int:=(ja4 S.os 13 c,ja4 S.os 14 c,ja4 S.os 12 c)
section
variable {w:World} {B R:Nat} {S:Sal} {ap:Option Addr} {lp cp:Nat} {vo va:Value}
theorem jpx (h:saleAt w B R S ap lp cp vo va) (hN:salN S) (c:Int) :
 Calls Tryz.prog 88 #[pt R 0,iv c] w fun e w'=>e=.returned (.tuple (if jc3 c then #[.agg #[iv (S.account c).1,iv (S.account c).2.1,iv (S.account c).2.2],iv 0] else #[.agg #[iv 0,iv 0,iv 0],iv 3]))/\Below w.heap.size w w':=by
 cases hc:jc3 c with
 | false=>exact jt5 R c w hc
 | true =>
   have hc0:c≠0:=fun e=>by subst e;simp [jc3] at hc
   exact jql R c _ _ _ w hc (jce h hN 13 c (.inl rfl)) (jce h hN 14 c (.inr (.inl rfl))) (jce h hN 12 c (.inr (.inr ⟨rfl,hc0⟩)))
end
theorem jsc (R n:Nat) (f a b d:Int) (w:World)
 (HQ:Hid (∀ W,Below w.heap.size w W->Calls Tryz.prog 123 #[pt R 0] W fun e w'=>∃ oa oc,e=.returned (.slice oa n oc)/\Below W.heap.size W w'))
 (HF:Hid (∀ W,Below w.heap.size w W->Calls Tryz.prog 124 #[pt R 0] W fun e w'=>e=.returned (iv f)/\Below W.heap.size W w'))
 (HH:Hid (∀ W,Below w.heap.size w W->Calls Tryz.prog 125 #[pt R 0,iv 13,iv 0] W fun e w'=>e=.returned (iv a)/\Below W.heap.size W w'))
 (HS:Hid (∀ W,Below w.heap.size w W->Calls Tryz.prog 125 #[pt R 0,iv 14,iv 0] W fun e w'=>e=.returned (iv b)/\Below W.heap.size W w'))
 (HA:Hid (∀ W,Below w.heap.size w W->Calls Tryz.prog 126 #[pt R 0] W fun e w'=>e=.returned (iv d)/\Below W.heap.size W w')) :
 Calls Tryz.prog 87 #[pt R 0] w fun e w'=>e=.returned (.agg #[iv f,iv a,iv b,iv n,iv d])/\Below w.heap.size w w':=by
 go_enter Tryz.func87,Tryz.ntmps87
 go_wp2_with fail
 refine (HQ.out _ bL).mono ?_
 rintro e w1 ⟨oa,oc,rfl,b1⟩
 have hb1:Below (w.heap.size+1) (w.alloc (.cells #[iv 0,iv 0,iv 0,iv 0,iv 0] 78)) w1:=b1.mono (by simp)
 have w01:Below w.heap.size w w1:=Below.trans ((Below.refl _ _).alloc (Nat.le_refl _) _) (hb1.mono (by omega))
 have z1:w.heap.size+1<=w1.heap.size:=by have:=hb1.size;simpa using this
 go_wp2_with fail
 refine (HF.out _ w01).mono ?_
 rintro e w2 ⟨rfl,b2⟩
 have hb2:Below (w.heap.size+1) (w.alloc (.cells #[iv 0,iv 0,iv 0,iv 0,iv 0] 78)) w2:=hb1.trans (b2.mono (by omega))
 have w02:Below w.heap.size w w2:=w01.trans (b2.mono (by omega))
 have z2:=b2.size
 go_wp2_with fail
 refine (HH.out _ w02).mono ?_
 rintro e w3 ⟨rfl,b3⟩
 have hb3:Below (w.heap.size+1) (w.alloc (.cells #[iv 0,iv 0,iv 0,iv 0,iv 0] 78)) w3:=hb2.trans (b3.mono (by omega))
 have w03:Below w.heap.size w w3:=w02.trans (b3.mono (by omega))
 have z3:=b3.size
 go_wp2_with fail
 refine (HS.out _ w03).mono ?_
 rintro e w4 ⟨rfl,b4⟩
 have hb4:Below (w.heap.size+1) (w.alloc (.cells #[iv 0,iv 0,iv 0,iv 0,iv 0] 78)) w4:=hb3.trans (b4.mono (by omega))
 have w04:Below w.heap.size w w4:=w03.trans (b4.mono (by omega))
 have z4:=b4.size
 go_wp2_with fail
 refine (HA.out _ w04).mono ?_
 rintro e w5 ⟨rfl,b5⟩
 have hb5:Below (w.heap.size+1) (w.alloc (.cells #[iv 0,iv 0,iv 0,iv 0,iv 0] 78)) w5:=hb4.trans (b5.mono (by omega))
 have w05:Below w.heap.size w w5:=w04.trans (b5.mono (by omega))
 have z5:=b5.size
 have n0:=(hb5.block w.heap.size (by omega)).trans (heap_alloc_new w _)
 have s0:w5.cell? (aq w.heap.size 0)=some (iv 0):=by rw [Joins.cell_of_block n0];rfl
 have s1:w5.cell? (aq w.heap.size 1)=some (iv 0):=by rw [Joins.cell_of_block n0];rfl
 have s2:w5.cell? (aq w.heap.size 2)=some (iv 0):=by rw [Joins.cell_of_block n0];rfl
 have s3:w5.cell? (aq w.heap.size 3)=some (iv 0):=by rw [Joins.cell_of_block n0];rfl
 have s4:w5.cell? (aq w.heap.size 4)=some (iv 0):=by rw [Joins.cell_of_block n0];rfl
 have f0:=ja0 n0 0
 have f1:=ja0 n0 1
 have f2:=ja0 n0 2
 have f3:=ja0 n0 3
 have f4:=ja0 n0 4
 clear b1 b2 b3 b4 b5 hb1 hb2 hb3 hb4 hb5 n0
 go_wp2
 refine bodyPost_ret (v:=.agg #[iv f,iv a,iv b,iv n,iv d]) (by simp [results,Tryz.results87,go_sem,s0,s1,s2,s3,s4]) rfl ⟨rfl,?_⟩
 exact ((((w05.setCell (p:=(aq w.heap.size 0)) (Nat.le_refl _) _).setCell (p:=(aq w.heap.size 1)) (Nat.le_refl _) _).setCell (p:=(aq w.heap.size 2)) (Nat.le_refl _) _).setCell (p:=(aq w.heap.size 3)) (Nat.le_refl _) _).setCell (p:=(aq w.heap.size 4)) (Nat.le_refl _) _
section
variable {w:World} {B R:Nat} {S:Sal} {ap:Option Addr} {lp cp:Nat} {vo va:Value}
theorem jsh (h:saleAt w B R S ap lp cp vo va) (hI:salI S) (hl:S.os.length * 48+48<=140737488351232) (hat:∀ a∈S.ansL,0<=a.at'/\a.at'<=4611686018427387904) (hla:S.ansL.length * 64<=140737488355328) :
 Calls Tryz.prog 87 #[pt R 0] w fun e w'=>e=.returned (.agg #[iv S.free,iv (ja4 S.os 13 0),iv (ja4 S.os 14 0),iv (ja7 S.os).length,iv S.answers])/\Below w.heap.size w w':=by
 have hN:=hI.N hl
 refine jsc R _ _ _ _ _ w (fun W hW=>(jfz h hN W hW).mono ?_) (jkl h hN) (jce h hN 13 0 (.inl rfl)) (jce h hN 14 0 (.inr (.inl rfl))) (jjd h hI hat hla)
 rintro e w' ⟨out,rfl,ho,hb⟩
 obtain ⟨oa,oc,rfl⟩:=jc7 ho
 exact ⟨oa,oc,rfl,hb⟩
end
end
end Go.Proofs.YtfhncfghblkgeaaGreat
