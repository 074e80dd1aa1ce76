import Derived.Test.YtfhncfghblkgeaaGreatL02
set_option maxRecDepth 100000
set_option maxHeartbeats 2000000
namespace Go.Proofs.YtfhncfghblkgeaaGreat
open Go.RowKit
structure Ord where
 cust:Int
 units:Int
 state:Int
 cents:Int
 upto:Int
 ended:Int
structure Rep where
 kind:Int
 order:Int
 cents:Int
 upto:Int
structure Ans where
 frame:ByteArray
 token:Int
 rep:Rep
 at':Int
structure Cfg where
 stock:Int
 cap:Int
 queue:Int
 lease:Int
 wait:Int
 keep:Int
 tokens:Int
 prices:List (Int × Int)
structure Sal where
 C:Cfg
 now:Int
 os:List Ord
 ansL:List Ans
def ja3:Ord:=⟨0,0,0,0,0,0⟩
def jks:Rep:=⟨0,0,0,0⟩
def jf6:Ans:=⟨ByteArray.empty,0,jks,0⟩
def Ord.is (o:Ord) (st c:Int):Bool:=o.state==st && (c==0 || o.cust==c)
def ja4 (os:List Ord) (st c:Int):Int:=(os.map (fun o=>if o.is st c then o.units else 0)).sum
theorem jcd {os:List Ord} (st c:Int) (h:∀ o∈os,0<=o.units):0<=ja4 os st c:=by
 induction os with
 | nil=>simp [ja4]
 | cons o os ih =>
   have h1:=ih (fun o ho=>h o (List.mem_cons_of_mem _ ho))
   have h2:=h o (List.mem_cons_self)
   simp only [ja4,List.map_cons,List.sum_cons] at h1 ⊢
   split<;>omega
def Sal.left (S:Sal):Int:=S.C.stock - ja4 S.os 14 0
def Sal.free (S:Sal):Int:=S.left - ja4 S.os 13 0
def jam (os:List Ord):Nat->List Nat
 | 0=>[]
 | k+1=>if (os.getD k ja3).state=12 then jam os k++[k] else jam os k
def ja5 (os:List Ord):List Nat:=jam os os.length
def jc7 (ps:List (Int × Int)) (sold:Int):Nat->Int
 | 0=>0
 | k+1=>if (ps.getD k (0,0)).1<=sold then (ps.getD k (0,0)).2 else jc7 ps sold k
def Sal.price (S:Sal):Int:=jc7 S.C.prices (ja4 S.os 14 0) S.C.prices.length
def Ord.vals (o:Ord):List Value:=[iv o.cust,iv o.units,iv o.state,iv o.cents,iv o.upto,iv o.ended]
def Ans.vals (a:Ans):List Value:=[.string a.frame,iv a.token,iv a.rep.kind,iv a.rep.order,iv a.rep.cents,iv a.rep.upto,iv a.at']
theorem jab {n:Int} (h0:-9223372036854775808<=n) (h1:n<=9223372036854775807):IntKind.i64.wrap n=n:=by
 rw [IntKind.wrap_i64]
 omega
structure salN (S:Sal):Prop where
 units:∀ o∈S.os,0<=o.units/\o.units<=4294967296
 held:∀ c,ja4 S.os 13 c<=4294967296
 sold:∀ c,ja4 S.os 14 c<=4294967296
 waits:∀ c,c≠0->ja4 S.os 12 c<=4294967296
 len:S.os.length * 48+48<=140737488351232
 stock:0<=S.C.stock/\S.C.stock<=4294967296
section
section
variable {w:World} {B R:Nat} {S:Sal} {ap:Option Addr} {lp cp:Nat} {vo va:Value}
end
section
variable {w:World} {B R:Nat} {S:Sal} {ap:Option Addr} {lp cp:Nat} {vo va:Value}
end
theorem Tryz.infoInt:(Tryz.prog.info? 3).map (fun i=>(i.zero,i.size,i.bytes))=some (some (iv 0),1,8):=by kernel_rfl
theorem jf9 (os:List Ord):∀ k,∀ q∈jam os k,q<k
 | 0,q,h=>by simp [jam] at h
 | k+1,q,h=>by
   unfold jam at h
   split at h
   ·rcases List.mem_append.1 h with h|h
    ·have:=jf9 os k q h;omega
    ·simp at h;omega
   ·have:=jf9 os k q h;omega
section
variable {w:World} {B R:Nat} {S:Sal} {ap:Option Addr} {lp cp:Nat} {vo va:Value}
end
section
variable {w:World} {B R:Nat} {S:Sal} {ap:Option Addr} {lp cp:Nat} {vo va:Value}
end
end
section
def Sal.put (S:Sal) (i:Nat) (o:Ord):Sal:={ S with os:=S.os.set i o }
section
variable {w w':World} {B R:Nat} {S:Sal} {ap:Option Addr} {lp cp:Nat} {vo va:Value}
end
def Sal.ends (S:Sal) (i:Nat) (st:Int):Sal:=S.put i { S.os.getD i ja3 with state:=st,ended:=S.now }
section
variable {w w':World} {B R:Nat} {S:Sal} {ap:Option Addr} {lp cp:Nat} {vo va:Value}
end
end
def Ord.part (o:Ord) (st c:Int):Int:=if o.is st c then o.units else 0
theorem jcc {os:List Ord} {i:Nat} (h:i<os.length) (o:Ord) (st c:Int):ja4 (os.set i o) st c=ja4 os st c - (os.getD i ja3).part st c+o.part st c:=by
 have e:os=os.take i++os.getD i ja3 :: os.drop (i+1):=by
  have:=List.drop_eq_getElem_cons h
  have g:os.getD i ja3=os[i]:=by simp [List.getD,List.getElem?_eq_getElem h]
  rw [g,← this,List.take_append_drop]
 have e1:ja4 os st c=ja4 (os.take i) st c+((os.getD i ja3).part st c+ja4 (os.drop (i+1)) st c):=by
  conv=>lhs;rw [e]
  simp [ja4,Ord.part]
 have e2:ja4 (os.set i o) st c=ja4 (os.take i) st c+(o.part st c+ja4 (os.drop (i+1)) st c):=by
  rw [List.set_eq_take_append_cons_drop,if_pos h]
  simp [ja4,Ord.part]
 omega
theorem jca (os:List Ord) (o:Ord) (st c:Int):ja4 (os++[o]) st c=ja4 os st c+o.part st c:=by simp [ja4,Ord.part]
theorem jar {os:List Ord} {i k:Nat} (o:Ord) (h:i<os.length):(os.set i o).getD k ja3=if k=i then o else os.getD k ja3:=by
 simp only [List.getD,List.getElem?_set]
 by_cases e:i=k
 ·subst e
  simp [h]
 ·rw [if_neg e,if_neg (fun c=>e c.symm)]
theorem jb6 (os:List Ord):∀ k q,q∈jam os k↔q<k/\(os.getD q ja3).state=12
 | 0,q=>by simp [jam]
 | k+1,q=>by
   have ih:=jb6 os k q
   unfold jam
   split
   ·next h =>
    rw [List.mem_append,ih]
    constructor
    ·rintro (⟨h1,h2⟩|h1)
     ·exact ⟨by omega,h2⟩
     ·simp at h1;subst h1;exact ⟨by omega,h⟩
    ·rintro ⟨h1,h2⟩
     by_cases e:q=k
     ·exact .inr (by simp [e])
     ·exact .inl ⟨by omega,h2⟩
   ·next h =>
    rw [ih]
    constructor
    ·rintro ⟨h1,h2⟩;exact ⟨by omega,h2⟩
    ·rintro ⟨h1,h2⟩
     refine ⟨?_,h2⟩
     by_cases e:q=k
     ·subst e;exact absurd h2 h
     ·omega
theorem jcp (os:List Ord):∀ k,(jam os k).Pairwise (·<·)
 | 0=>by simp [jam]
 | k+1=>by
   have ih:=jcp os k
   unfold jam
   split
   ·rw [List.pairwise_append]
    exact ⟨ih,by simp,fun a ha b hb=>by
     have hb':b=k:=by simpa using hb
     rw [hb']
     exact jf9 os k a ha⟩
   ·exact ih
theorem jok {os:List Ord} {i:Nat} (o:Ord) (h:i<os.length) (ho:o.state≠12):∀ k,jam (os.set i o) k=(jam os k).filter (· != i)
 | 0=>by simp [jam]
 | k+1=>by
   have ih:=jok o h ho k
   by_cases e:k=i
   ·subst e
    have h1:((os.set k o).getD k ja3).state≠12:=by rw [jar o h,if_pos rfl];exact ho
    have h0:(jam os k).filter (· != k)=jam os k:=by
     rw [List.filter_eq_self]
     intro q hq
     have:=jf9 os k q hq
     simp;omega
    have hl:jam (os.set k o) (k+1)=jam os k:=by rw [jam,if_neg h1,ih,h0]
    rw [hl]
    by_cases hs:(os.getD k ja3).state=12
    ·have hr:jam os (k+1)=jam os k++[k]:=by rw [jam,if_pos hs]
     rw [hr,List.filter_append,h0]
     simp
    ·have hr:jam os (k+1)=jam os k:=by rw [jam,if_neg hs]
     rw [hr,h0]
   ·have h1:((os.set i o).getD k ja3)=os.getD k ja3:=by rw [jar o h,if_neg e]
    by_cases hs:(os.getD k ja3).state=12
    ·have hr:jam os (k+1)=jam os k++[k]:=by rw [jam,if_pos hs]
     have hl:jam (os.set i o) (k+1)=jam (os.set i o) k++[k]:=by rw [jam,h1,if_pos hs]
     rw [hl,hr,List.filter_append,ih]
     simp [e]
    ·have hr:jam os (k+1)=jam os k:=by rw [jam,if_neg hs]
     have hl:jam (os.set i o) (k+1)=jam (os.set i o) k:=by rw [jam,h1,if_neg hs]
     rw [hl,hr,ih]
theorem jj2 {os:List Ord} {i:Nat} (o:Ord) (h:i<os.length) (ho:o.state≠12):ja5 (os.set i o)=(ja5 os).filter (· != i):=by
 unfold ja5
 rw [List.length_set]
 exact jok o h ho _
theorem jbh {os:List Ord} {q:Nat} {qs:List Nat} (hq:ja5 os=q :: qs) (o:Ord) (ho:o.state≠12):ja5 (os.set q o)=qs/\q<os.length/\(os.getD q ja3).state=12:=by
 have hm:q∈ja5 os:=by rw [hq];simp
 obtain ⟨h1,h2⟩:=(jb6 os _ q).1 hm
 refine ⟨?_,h1,h2⟩
 rw [jj2 o h1 ho,hq,List.filter_cons_of_neg (by simp),List.filter_eq_self]
 intro a ha
 have hs:=jcp os os.length
 have hs':(q :: qs).Pairwise (·<·):=by rw [← hq];exact hs
 have:=List.rel_of_pairwise_cons hs' ha
 simp;omega
def Sal.holds (S:Sal) (i:Nat):Sal:=S.put i { S.os.getD i ja3 with state:=13,cents:=(S.put i { S.os.getD i ja3 with state:=13 }).price,upto:=S.now+S.C.lease }
def jak:Nat->Sal->Sal
 | 0,S=>S
 | n+1,S=>match ja5 S.os with
   | []=>S
   | q :: _=>if S.free<(S.os.getD q ja3).units then S else jak n (S.holds q)
def Sal.promote (S:Sal):Sal:=jak (ja5 S.os).length S
theorem jmd {S:Sal} (h:ja5 S.os=[]):S.promote=S:=by unfold Sal.promote;rw [h];rfl
theorem jkn {S:Sal} {q:Nat} {qs:List Nat} (h:ja5 S.os=q :: qs) (hf:S.free<(S.os.getD q ja3).units):S.promote=S:=by
 unfold Sal.promote
 rw [h]
 simp only [List.length_cons,jak,h,if_pos hf]
theorem jg6 {S:Sal} {q:Nat} {qs:List Nat} (h:ja5 S.os=q :: qs):ja5 (S.holds q).os=qs:=(jbh h _ (by simp)).1
theorem jvo {S:Sal} {q:Nat} {qs:List Nat} (h:ja5 S.os=q :: qs) (hf:¬ S.free<(S.os.getD q ja3).units):S.promote=(S.holds q).promote:=by
 unfold Sal.promote
 rw [h,jg6 h]
 simp only [List.length_cons,jak,h,if_neg hf]
structure salI (S:Sal):Prop where
 units:∀ o∈S.os,1<=o.units/\o.units<=4294967296
 stock:ja4 S.os 13 0+ja4 S.os 14 0<=S.C.stock
 cap:∀ c,c≠0->ja4 S.os 12 c<=4294967296
 cfg:0<=S.C.stock/\S.C.stock<=4294967296/\0<=S.C.lease/\S.C.lease<=4294967296/\0<=S.C.wait/\S.C.wait<=4294967296
 now:0<=S.now/\S.now<=4611686018427387904
 ords:∀ o∈S.os,(0<=o.cents/\o.cents<=1073741824)/\(0<=o.ended/\o.ended<=4611686018427387904)
 prices:∀ p∈S.C.prices,0<=p.2/\p.2<=1073741824
theorem jeu {ps:List (Int × Int)} (h:∀ p∈ps,0<=p.2/\p.2<=1073741824) (sold:Int):∀ k,k<=ps.length->0<=jc7 ps sold k/\jc7 ps sold k<=1073741824
 | 0,_=>by simp [jc7]
 | k+1,hk=>by
   have ih:=jeu h sold k (by omega)
   unfold jc7
   split
   ·exact h _ (jes (by omega))
   ·exact ih
theorem qew {o:Ord} (h:0<=o.units) (st c:Int):o.part st c<=o.part st 0:=by
 unfold Ord.part Ord.is
 by_cases e:o.state=st<;>by_cases e2:c=0<;>by_cases e3:o.cust=c<;>simp [e,e2,e3,h]
theorem jld {os:List Ord} (h:∀ o∈os,0<=o.units) (st c:Int):ja4 os st c<=ja4 os st 0:=by
 induction os with
 | nil=>simp [ja4]
 | cons o os ih =>
   have h1:=ih (fun o ho=>h o (List.mem_cons_of_mem _ ho))
   have h2:=qew (h o (List.mem_cons_self)) st c
   have e:∀ c,ja4 (o :: os) st c=o.part st c+ja4 os st c:=fun c=>by simp [ja4,Ord.part]
   rw [e,e]
   omega
theorem salI.N {S:Sal} (h:salI S) (hl:S.os.length * 48+48<=140737488351232):salN S:=by
 have hn:∀ o∈S.os,0<=o.units:=fun o ho=>by have:=(h.units o ho).1;omega
 have h0:=h.stock
 have h1:=h.cfg
 have p1:=jcd (os:=S.os) 13 0 hn
 have p2:=jcd (os:=S.os) 14 0 hn
 refine ⟨fun o ho=>⟨hn o ho,(h.units o ho).2⟩,fun c=>?_,fun c=>?_,h.cap,hl,⟨h1.1,h1.2.1⟩⟩
 ·have:=jld hn 13 c;omega
 ·have:=jld hn 14 c;omega
theorem jfb {os:List Ord} {i:Nat} {o x:Ord} (h:x∈os.set i o):x=o\/x∈os:=by
 rcases List.mem_or_eq_of_mem_set h with h|h
 ·exact .inr h
 ·exact .inl h
theorem jal {os:List Ord} {i:Nat} (h:i<os.length):os.getD i ja3∈os:=by
 simp only [List.getD,List.getElem?_eq_getElem h,Option.getD_some]
 exact List.getElem_mem h
theorem jqx {S:Sal} (h:salI S) {q:Nat} (hq:q<S.os.length) (hw:(S.os.getD q ja3).state=12) (hf:¬ S.free<(S.os.getD q ja3).units) (o:Ord) (h1:o.cust=(S.os.getD q ja3).cust) (h2:o.units=(S.os.getD q ja3).units) (h3:o.state=13) (h4:(0<=o.cents/\o.cents<=1073741824)/\(0<=o.ended/\o.ended<=4611686018427387904)):salI (S.put q o):=by
 have hm:=jal hq
 have hu:=h.units _ hm
 have hst:=h.stock
 have hc:=h.cfg
 refine ⟨fun x hx=>?_,?_,fun c hc0=>?_,h.cfg,h.now,fun x hx=>(jfb hx).elim (fun e=>e▸h4) (h.ords x),h.prices⟩
 ·rcases jfb hx with rfl|hx
  ·rw [h2];exact hu
  ·exact h.units x hx
 ·show ja4 (S.os.set q o) 13 0+ja4 (S.os.set q o) 14 0<=S.C.stock
  rw [jcc hq,jcc hq]
  unfold Sal.free Sal.left at hf
  generalize S.os.getD q ja3=p at hw hf h1 h2 hu
  simp [Ord.part,Ord.is,hw,h3,h2]
  omega
 ·show ja4 (S.os.set q o) 12 c<=4294967296
  rw [jcc hq]
  have:=h.cap c hc0
  have hp:0<=(S.os.getD q ja3).part 12 c:=by unfold Ord.part;split<;>omega
  have ho:o.part 12 c=0:=by simp [Ord.part,Ord.is,h3]
  omega
section
section
variable {w w':World} {B R:Nat} {S:Sal} {ap:Option Addr} {lp cp:Nat} {vo va:Value}
theorem jim (h:salI S) {i:Nat} (hi:i<S.os.length) (st:Int) (hst:st=14\/(st≠12/\st≠13/\st≠14)) (h14:st=14->(S.os.getD i ja3).state=13):salI (S.ends i st):=by
 have hm:=jal hi
 have hu:=h.units _ hm
 have hoo:=h.ords _ hm
 have hs:=h.stock
 refine ⟨fun x hx=>?_,?_,fun c hc0=>?_,h.cfg,h.now,fun x hx=>?_,h.prices⟩
 ·rcases jfb hx with rfl|hx
  ·exact hu
  ·exact h.units x hx
 ·show ja4 (S.os.set i _) 13 0+ja4 (S.os.set i _) 14 0<=S.C.stock
  rw [jcc hi,jcc hi]
  generalize S.os.getD i ja3=p at hu h14
  obtain ⟨pc,pu,ps,pce,pup,pe⟩:=p
  simp only [Ord.part,Ord.is] at *
  rcases hst with rfl|⟨h1,h2,h3⟩
  ·have:=h14 rfl
   subst this
   simp
   omega
  ·have e1:(st==13)=false:=by simpa using h2
   have e2:(st==14)=false:=by simpa using h3
   simp [e1,e2]
   split<;>split<;>omega
 ·show ja4 (S.os.set i _) 12 c<=4294967296
  rw [jcc hi]
  have:=h.cap c hc0
  have hp:0<=(S.os.getD i ja3).part 12 c:=by unfold Ord.part;split<;>omega
  have ho:Ord.part { S.os.getD i ja3 with state:=st,ended:=S.now } 12 c=0:=by
   have e:(st==12)=false:=by
    rcases hst with rfl|⟨h1,_,_⟩
    ·decide
    ·simpa using h1
   simp [Ord.part,Ord.is,e]
  omega
 ·rcases jfb hx with rfl|hx
  ·exact ⟨hoo.1,h.now⟩
  ·exact h.ords x hx
end
end
end Go.Proofs.YtfhncfghblkgeaaGreat
