import Derived.Test.YtfhncfghblkgeaaGreatL10
set_option maxRecDepth 100000
set_option maxHeartbeats 2000000
namespace Go.Proofs.YtfhncfghblkgeaaGreat
open Go.RowKit
def Ord.wt (o:Ord):Nat:=if o.state=12 then 2 else if o.state=13 then 1 else 0
def jby (os:List Ord):Nat:=(os.map Ord.wt).sum
theorem jto {os:List Ord} {i:Nat} (h:i<os.length) (o:Ord):jby (os.set i o)+(os.getD i ja3).wt=jby os+o.wt:=by
 have e:os=os.take i++os.getD i ja3 :: os.drop (i+1):=by
  have:=List.drop_eq_getElem_cons h
  have g:os.getD i ja3=os[i]:=by simp [List.getD,List.getElem?_eq_getElem h]
  rw [g,← this,List.take_append_drop]
 have e1:jby os=jby (os.take i)+((os.getD i ja3).wt+jby (os.drop (i+1))):=by
  conv=>lhs;rw [e]
  simp [jby]
 have e2:jby (os.set i o)=jby (os.take i)+(o.wt+jby (os.drop (i+1))):=by
  rw [List.set_eq_take_append_cons_drop,if_pos h]
  simp [jby]
 omega
theorem qff {o:Ord} {st now:Int} (h:st≠12/\st≠13):({ o with state:=st,ended:=now }:Ord).wt=0:=by
 unfold Ord.wt
 rw [if_neg h.1,if_neg h.2]
theorem jvb {S:Sal} {q:Nat} (hq:q<S.os.length) (hw:(S.os.getD q ja3).state=12):jby (S.holds q).os<jby S.os:=by
 have h1:=jto hq { S.os.getD q ja3 with state:=13,cents:=(S.put q { S.os.getD q ja3 with state:=13 }).price,upto:=S.now+S.C.lease }
 have h2:(S.os.getD q ja3).wt=2:=by unfold Ord.wt;rw [if_pos hw]
 have h3:({ S.os.getD q ja3 with state:=13,cents:=(S.put q { S.os.getD q ja3 with state:=13 }).price,upto:=S.now+S.C.lease }:Ord).wt=1:=by unfold Ord.wt;rw [if_neg (by show ¬ (13:Int)=12;decide),if_pos rfl]
 show jby (S.os.set q _)<_
 omega
theorem jib:∀ (n:Nat) (S:Sal),jby (jak n S).os<jby S.os\/jak n S=S
 | 0,_=>.inr rfl
 | n+1,S=>by
   unfold jak
   split
   ·exact .inr rfl
   ·next q qs hq =>
    split
    ·exact .inr rfl
    ·obtain ⟨_,hql,hqw⟩:=jbh hq ja3 (by decide)
     have h1:=jvb hql hqw
     rcases jib n (S.holds q) with h|h
     ·exact .inl (by omega)
     ·rw [h];exact .inl h1
theorem jku (S:Sal):jby S.promote.os<jby S.os\/S.promote=S:=jib _ S
theorem jic {S:Sal} {i:Nat} (hi:i<S.os.length) {st en:Int} (hst:st=12\/st=13) (hs:(S.os.getD i ja3).state=st) (hen:en≠12/\en≠13):jby (S.ends i en).os<jby S.os:=by
 have h1:=jto hi { S.os.getD i ja3 with state:=en,ended:=S.now }
 have h2:1<=(S.os.getD i ja3).wt:=by
  unfold Ord.wt
  rcases hst with rfl|rfl
  ·rw [if_pos hs];omega
  ·rw [if_neg (by rw [hs];decide),if_pos hs];omega
 rw [qff hen] at h1
 show jby (S.os.set i _)<_
 omega
theorem jk5 (S:Sal) {st en:Int} (hst:st=12\/st=13) (hen:en≠12/\en≠13):∀ k,k<=S.os.length->jby (jbq S st en k).os<jby S.os\/jbq S st en k=S
 | 0,_=>.inr rfl
 | k+1,hk=>by
   have ih:=jk5 S hst hen k (by omega)
   unfold jbq
   split
   ·next hc =>
    have h1:=jic (S:=jbq S st en k) (i:=k) (by rw [jc5];omega) hst hc.1 hen
    rcases ih with h|h
    ·exact .inl (by omega)
    ·rw [h] at h1 ⊢;exact .inl h1
   ·exact ih
theorem jpl {S:Sal} {st en:Int} (hst:st=12\/st=13) (hen:en≠12/\en≠13) {i:Nat} (hi:i<S.os.length) (hs:(S.os.getD i ja3).state=st) (hu:(S.os.getD i ja3).upto=S.now):jby (jbq S st en S.os.length).os<jby S.os:=by
 have key:∀ k,i<k->k<=S.os.length->jby (jbq S st en k).os<jby S.os:=by
  intro k
  induction k with
  | zero=>intro h;omega
  | succ k ih =>
    intro h1 h2
    by_cases e:i<k
    ·have:=ih e (by omega)
     unfold jbq
     split
     ·next hc =>
      have:=jic (S:=jbq S st en k) (i:=k) (by rw [jc5];omega) hst hc.1 hen
      omega
     ·exact this
    ·have e':i=k:=by omega
     subst e'
     rcases jk5 S hst hen i (by omega) with h|h
     ·unfold jbq
      split
      ·next hc =>
       have:=jic (S:=jbq S st en i) (i:=i) (by rw [jc5];omega) hst hc.1 hen
       omega
      ·exact h
     ·unfold jbq
      rw [h,if_pos ⟨hs,hu⟩]
      exact jic hi hst hs hen
 exact key _ hi (Nat.le_refl _)
theorem jrg (S:Sal) {st en:Int} (hst:st=12\/st=13) (hen:en≠12/\en≠13):jby (S.past st en).os<jby S.os\/S.past st en=S:=by
 unfold Sal.past
 rcases jku (jbq S st en S.os.length) with h1|h1<;>rcases jk5 S hst hen _ (Nat.le_refl _) with h2|h2
 ·exact .inl (by omega)
 ·rw [h2] at h1;exact .inl (by rw [h2];exact h1)
 ·rw [h1];exact .inl h2
 ·rw [h1,h2];exact .inr rfl
theorem jkl {S:Sal} {st en:Int} (hst:st=12\/st=13) (hen:en≠12/\en≠13) {i:Nat} (hi:i<S.os.length) (hs:(S.os.getD i ja3).state=st) (hu:(S.os.getD i ja3).upto=S.now):jby (S.past st en).os<jby S.os:=by
 have h2:=jpl hst hen hi hs hu
 unfold Sal.past
 rcases jku (jbq S st en S.os.length) with h1|h1
 ·omega
 ·rw [h1];exact h2
theorem ji6 (os:List Ord) (to:Int):∀ k,k<=os.length->0<=jp5 os to k->∃ i,i<os.length/\((os.getD i ja3).state=13\/(os.getD i ja3).state=12)/\(os.getD i ja3).upto=jp5 os to k/\jp5 os to k<=to
 | 0,_,h=>by simp [jp5] at h
 | k+1,hk,h=>by
   have ih:=ji6 os to k (by omega)
   unfold jp5 at h ⊢
   split
   ·next hc=>exact ⟨k,by omega,hc.1,rfl,hc.2.1⟩
   ·next hc=>rw [if_neg hc] at h;exact ih h
def Sal.round (S:Sal) (t:Int):Sal:=((({ S with now:=t }:Sal).past 13 15).past 12 17)
theorem jp7 {S:Sal} {to:Int} (h:0<=S.due to):jby (S.round (S.due to)).os<jby S.os:=by
 obtain ⟨i,hi,hs,hu,_⟩:=ji6 S.os to S.os.length (Nat.le_refl _) h
 have hu':(S.os.getD i ja3).upto=S.due to:=hu
 generalize S.due to=t at hu'
 unfold Sal.round
 have e2:=jrg (({ S with now:=t }:Sal).past 13 15) (st:=12) (en:=17) (.inl rfl) (by decide)
 rcases hs with hs|hs
 ·have h1:=jkl (S:={ S with now:=t }) (st:=13) (en:=15) (.inr rfl) (by decide) hi hs hu'
  have h1':jby (({ S with now:=t }:Sal).past 13 15).os<jby S.os:=h1
  rcases e2 with h2|h2
  ·omega
  ·rw [h2];exact h1'
 ·rcases jrg ({ S with now:=t }:Sal) (st:=13) (en:=15) (.inr rfl) (by decide) with h1|h1
  ·have h1':jby (({ S with now:=t }:Sal).past 13 15).os<jby S.os:=h1
   rcases e2 with h2|h2
   ·omega
   ·rw [h2];exact h1'
  ·rw [h1]
   exact jkl (S:={ S with now:=t }) (st:=12) (en:=17) (.inl rfl) (by decide) hi hs hu'
def jdw:Nat->Sal->Int->Sal
 | 0,S,to=>{ S with now:=to }
 | n+1,S,to=>if S.due to<0 then { S with now:=to } else jdw n (S.round (S.due to)) to
def Sal.tickTo (S:Sal) (to:Int):Sal:=jdw (jby S.os) S to
theorem jk0:∀ (n:Nat) (S:Sal) (to:Int),jby S.os<=n->jdw n S to=jdw (jby S.os) S to
 | 0,S,to,h=>by
   have e:jby S.os=0:=by omega
   rw [e]
 | n+1,S,to,h=>by
   by_cases hd:S.due to<0
   ·rw [jdw,if_pos hd]
    cases hl:jby S.os with
    | zero=>rfl
    | succ m=>rw [jdw,if_pos hd]
   ·have hlt:=jp7 (S:=S) (to:=to) (by omega)
    cases hl:jby S.os with
    | zero=>omega
    | succ m =>
      rw [jdw,if_neg hd,jdw,if_neg hd,jk0 n _ to (by omega),jk0 m _ to (by omega)]
theorem jz4 {S:Sal} {to:Int} (h:S.due to<0):S.tickTo to={ S with now:=to }:=by
 unfold Sal.tickTo
 cases jby S.os with
 | zero=>rfl
 | succ m=>rw [jdw,if_pos h]
theorem qer {S:Sal} {to:Int} (h:¬ S.due to<0):S.tickTo to=(S.round (S.due to)).tickTo to:=by
 have hlt:=jp7 (S:=S) (to:=to) (by omega)
 unfold Sal.tickTo
 cases hl:jby S.os with
 | zero=>omega
 | succ m=>rw [jdw,if_neg h,jk0 m _ to (by omega)]
theorem jjc (S:Sal) (st en:Int):(S.past st en).os.length=S.os.length:=(je5 _).trans (jc5 S st en _)
theorem jl9 {S:Sal} (h:salI S) (st en:Int) (hen:en≠12/\en≠13/\en≠14):salI (S.past st en):=jg5 _ (jql h st en hen _ (Nat.le_refl _))
def Sal.tick (S:Sal) (n:Int):(Int × Int) × Sal :=
 if n<0 then ((0,3),S)
 else if n<4611686018427387904 - S.now then ((S.now+n,0),S.tickTo (S.now+n))
 else ((4611686018427387904,0),S.tickTo 4611686018427387904)
section
section
variable {w w':World} {B R:Nat} {S:Sal} {ap:Option Addr} {lp cp:Nat} {vo va:Value}
theorem jig (h:salI S) {t:Int} (ht:0<=t/\t<=4611686018427387904):salI { S with now:=t }:=⟨h.units,h.stock,h.cap,h.cfg,ht,h.ords,h.prices⟩
end
section
variable {w wr:World} {B R:Nat} {S S':Sal} {ap:Option Addr} {lp cp:Nat} {vo va:Value} {to:Int}
end
section
variable {w w':World} {B R:Nat} {S:Sal} {ap:Option Addr} {lp cp:Nat} {vo va:Value}
end
end
section
def Sal.account (S:Sal) (c:Int):Int × Int × Int:=(ja4 S.os 13 c,ja4 S.os 14 c,ja4 S.os 12 c)
section
variable {w:World} {B R:Nat} {S:Sal} {ap:Option Addr} {lp cp:Nat} {vo va:Value}
end
section
variable {w:World} {B R:Nat} {S:Sal} {ap:Option Addr} {lp cp:Nat} {vo va:Value}
end
end
end Go.Proofs.YtfhncfghblkgeaaGreat
