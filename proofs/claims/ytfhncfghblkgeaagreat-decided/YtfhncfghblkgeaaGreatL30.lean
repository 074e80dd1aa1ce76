import Derived.Test.YtfhncfghblkgeaaGreatL29
set_option maxRecDepth 100000
set_option maxHeartbeats 2000000
namespace Go.Proofs.YtfhncfghblkgeaaGreat
open Go.RowKit
structure rightC (C:Cfg):Prop where
 some:1<=C.prices.length
 first:(C.prices.getD 0 (0,0)).1=0
 cents:∀ p∈C.prices,1<=p.2
theorem jny {ps:List (Int × Int)} (h0:(ps.getD 0 (0,0)).1=0) (h:∀ p∈ps,1<=p.2) {sold:Int} (hs:0<=sold):∀ k,1<=k->k<=ps.length->1<=jc7 ps sold k
 | 0,h1,_=>by omega
 | 1,_,hk=>by
   unfold jc7
   rw [h0,if_pos hs]
   exact h _ (jes (q:=0) (by omega))
 | k+2,_,hk=>by
   have ih:=jny h0 h hs (k+1) (by omega) (by omega)
   rw [jc7]
   split
   ·exact h _ (jes (by omega))
   ·exact ih
def jkz (o:Ord):Prop:=1<=o.units/\(12<=o.state/\o.state<=18)/\((o.state=13\/o.state=14)->1<=o.cents)
theorem jqw {S:Sal} (hC:rightC S.C) (h:∀ o∈S.os,1<=o.units):1<=S.price :=
 jny hC.first hC.cents (jcd 14 0 (fun o ho=>by have:=h o ho;omega)) _ hC.some (Nat.le_refl _)
theorem jt1 {S:Sal} (hC:rightC S.C) (h:∀ o∈S.os,1<=o.units) {i:Nat} (hi:i<S.os.length):1<=(S.put i { S.os.getD i ja3 with state:=13 }).price:=by
 refine jqw (S:=S.put i { S.os.getD i ja3 with state:=13 }) hC (fun o ho=>?_)
 rcases jfb (show o∈S.os.set i _ from ho) with rfl|ho
 ·have:=h _ (jal hi)
  exact this
 ·exact h o ho
theorem jj4:∀ (n:Nat) (S:Sal),rightC S.C->(∀ o∈S.os,jkz o)->∀ o∈(jak n S).os,jkz o
 | 0,_,_,h=>h
 | n+1,S,hC,h=>by
   unfold jak
   split
   ·exact h
   ·next q qs hq =>
    split
    ·exact h
    ·obtain ⟨_,hl,hs⟩:=jbh hq ja3 (by decide)
     refine jj4 n (S.holds q) hC (fun o ho=>?_)
     rcases jfb (show o∈S.os.set q _ from ho) with rfl|ho
     ·have hp:=jt1 hC (fun o ho=>(h o ho).1) hl
      exact ⟨(h _ (jal hl)).1,by show (12:Int)<=13/\(13:Int)<=18;omega,fun _=>hp⟩
     ·exact h o ho
theorem jgm {S:Sal} (hC:rightC S.C) (h:∀ o∈S.os,jkz o):∀ o∈S.promote.os,jkz o:=jj4 _ S hC h
theorem jmi {S:Sal} (h:∀ o∈S.os,jkz o) {i:Nat} (hi:i<S.os.length) {st:Int} (hst:14<=st/\st<=18) (h14:st=14->(S.os.getD i ja3).state=13):∀ o∈(S.ends i st).os,jkz o:=by
 intro o ho
 rcases jfb (show o∈S.os.set i _ from ho) with rfl|ho
 ·obtain ⟨a,b,c⟩:=h _ (jal hi)
  refine ⟨a,by show 12<=st/\st<=18;omega,?_⟩
  rintro (e|e)
  ·have e':st=13:=e;omega
  ·exact c (.inl (h14 e))
 ·exact h o ho
theorem jqi {S:Sal} (h:∀ o∈S.os,jkz o):∀ o∈S.drained.os,jkz o:=by
 intro o ho
 obtain ⟨p,hp,rfl⟩:=List.mem_map.1 (show o∈S.os.map (dry S.left S.now) from ho)
 unfold dry
 split
 ·obtain ⟨a,b,c⟩:=h p hp
  exact ⟨a,by show (12:Int)<=18/\(18:Int)<=18;omega,fun e=>by rcases e with e|e<;>simp at e⟩
 ·exact h p hp
theorem jnn {S:Sal} (h:∀ o∈S.os,jkz o) {st en:Int} (hen:15<=en/\en<=18):∀ n,n<=S.os.length->∀ o∈(jbq S st en n).os,jkz o
 | 0,_=>h
 | n+1,hn=>by
   have ih:=jnn h (st:=st) hen n (by omega)
   unfold jbq
   split
   ·exact jmi ih (by rw [jc5];omega) ⟨by omega,hen.2⟩ (fun e=>by omega)
   ·exact ih
theorem jrj {S:Sal} (hC:rightC S.C) (h:∀ o∈S.os,jkz o) {st en:Int} (hen:15<=en/\en<=18):∀ o∈(S.past st en).os,jkz o :=
 jgm (by rw [(jdp S st en _).1];exact hC) (jnn h hen _ (Nat.le_refl _))
theorem jw5 {S:Sal} (hC:rightC S.C) (h:∀ o∈S.os,jkz o) (t:Int):∀ o∈(S.round t).os,jkz o :=
 jrj (by rw [(jf7 _ 13 15).1];exact hC) (jrj (S:={ S with now:=t }) hC h ⟨by decide,by decide⟩) ⟨by decide,by decide⟩
theorem jnu:∀ (n:Nat) (S:Sal) (to:Int),rightC S.C->(∀ o∈S.os,jkz o)->∀ o∈(jdw n S to).os,jkz o
 | 0,_,_,_,h=>h
 | n+1,S,to,hC,h=>by
   unfold jdw
   split
   ·exact h
   ·exact jnu n _ to (by rw [(jnl S _).1];exact hC) (jw5 hC h _)
def qgw (a:Ans):Prop:=∃ k t c u o:Int,isB k t c u o=true/\k≠4/\a.token=t/\a.frame=strOfNums (jao k (jay k t c u o))/\jxy k o a.rep.kind a.rep.order a.rep.cents a.rep.upto
structure keepI (S:Sal):Prop where
 C:rightC S.C
 os:∀ o∈S.os,jkz o
 an:∀ a∈S.ansL,qgw a
theorem jwm {S:Sal} (h:keepI S) (n:Int):keepI (S.tick n).2:=by
 obtain ⟨a,b,_⟩:=jfu S n
 refine ⟨by rw [a];exact h.C,?_,by rw [b];exact h.an⟩
 unfold Sal.tick
 split
 ·exact h.os
 split<;>exact jnu _ _ _ h.C h.os
theorem qed {S:Sal} (h:keepI S) (hR:restP S) (h0:0<=S.now) (r:Req):jxy 1 r.order (S.ask r).1.kind (S.ask r).1.order (S.ask r).1.cents (S.ask r).1.upto/\(1<=r.units->∀ o∈(S.ask r).2.os,jkz o):=by
 have hl:=hR.R.lease
 have hwt:=hR.R.wait
 unfold Sal.ask
 split
 ·exact ⟨.inl ⟨rfl,.inr (.inr ⟨.inl rfl,rfl,rfl,rfl⟩)⟩,fun _=>h.os⟩
 split
 ·exact ⟨.inl ⟨rfl,.inr (.inr ⟨.inr (.inl rfl),rfl,rfl,rfl⟩)⟩,fun _=>h.os⟩
 split
 ·exact ⟨.inl ⟨rfl,.inr (.inr ⟨.inr (.inr (.inl rfl)),rfl,rfl,rfl⟩)⟩,fun _=>h.os⟩
 split
 ·have hp:1<=S.price:=jqw h.C (fun o ho=>(h.os o ho).1)
  obtain ⟨e1,e2⟩:=jcw S r.cust r.units
  rw [e1,e2]
  have hg:(S.more ⟨r.cust,r.units,13,S.price,S.now+S.C.lease,0⟩).os.getD S.os.length ja3=⟨r.cust,r.units,13,S.price,S.now+S.C.lease,0⟩:=by
   show (S.os++[_]).getD S.os.length ja3=_
   rw [jaw (by omega),if_pos rfl]
  rw [hg]
  refine ⟨.inl ⟨rfl,.inl ⟨rfl,?_,?_,?_⟩⟩,fun hu o ho=>?_⟩
  ·show (0:Int)<(S.os.length:Int)+1;omega
  ·show 0<S.price;omega
  ·show 0<S.now+S.C.lease;omega
  ·rcases List.mem_append.1 (show o∈S.os++[_] from ho) with ho|ho
   ·exact h.os o ho
   ·have e:o=⟨r.cust,r.units,13,S.price,S.now+S.C.lease,0⟩:=by simpa using ho
    rw [e]
    exact ⟨hu,by show (12:Int)<=13/\(13:Int)<=18;omega,fun _=>hp⟩
 split
 ·exact ⟨.inl ⟨rfl,.inr (.inr ⟨.inr (.inr (.inl rfl)),rfl,rfl,rfl⟩)⟩,fun _=>h.os⟩
 ·refine ⟨.inl ⟨rfl,.inr (.inl ⟨rfl,?_,rfl,?_⟩)⟩,fun hu o ho=>?_⟩
  ·show (0:Int)<(S.os.length:Int)+1;omega
  ·show 0<S.now+S.C.wait;omega
  ·rcases List.mem_append.1 (show o∈S.os++[_] from ho) with ho|ho
   ·exact h.os o ho
   ·have e:o=⟨r.cust,r.units,12,0,S.now+S.C.wait,0⟩:=by simpa using ho
    rw [e]
    exact ⟨hu,by show (12:Int)<=12/\(12:Int)<=18;omega,fun c=>by rcases c with c|c<;>simp at c⟩
theorem jt3 {S:Sal} (h:keepI S) (r:Req) (ho:1<=r.order):jxy 2 r.order (S.confirm r).1.kind (S.confirm r).1.order (S.confirm r).1.cents (S.confirm r).1.upto/\∀ o∈(S.confirm r).2.os,jkz o:=by
 unfold Sal.confirm
 split
 ·exact ⟨.inr (.inl ⟨rfl,.inr ⟨.inl rfl,rfl,rfl,rfl⟩⟩),h.os⟩
 ·next i hf =>
  obtain ⟨hi,_,_⟩:=jas ho hf
  split
  ·exact ⟨.inr (.inl ⟨rfl,.inr ⟨.inl rfl,rfl,rfl,rfl⟩⟩),h.os⟩
  ·next hs =>
   have hs':(S.os.getD i ja3).state=13:=Classical.not_not.1 hs
   have h1:=jmi h.os hi (st:=14) (by decide) (fun _=>hs')
   rw [jbj]
   have h2:=jgm (S:=(S.ends i 14).drained) h.C (jqi h1)
   refine ⟨.inr (.inl ⟨rfl,.inl ⟨rfl,rfl,by omega,?_,rfl⟩⟩),h2⟩
   have hg:(S.ends i 14).os.getD i ja3={ S.os.getD i ja3 with state:=14,ended:=S.now }:=by
    have:(S.ends i 14).os.getD i ja3=if i=i then _ else _:=jar _ hi
    rw [if_pos rfl] at this
    exact this
   have e1:(S.ends i 14).drained.os.getD i ja3=(S.ends i 14).os.getD i ja3:=jmy _ (by rw [hg];show ¬ (14:Int)=12;decide)
   have e2:(S.ends i 14).drained.promote.os.getD i ja3=(S.ends i 14).os.getD i ja3:=(jm0 _ (by rw [e1,hg];show ¬ (14:Int)=12;decide)).trans e1
   show 0<((S.ends i 14).drained.promote.os.getD i ja3).units * ((S.ends i 14).drained.promote.os.getD i ja3).cents
   rw [e2,hg]
   obtain ⟨a,b,c⟩:=h.os _ (jal hi)
   have c':=c (.inl hs')
   show 0<(S.os.getD i ja3).units * (S.os.getD i ja3).cents
   exact Int.mul_pos (by omega) (by omega)
theorem jvm {S:Sal} (h:keepI S) (r:Req) (ho:1<=r.order):jxy 3 r.order (S.cancel r).1.kind (S.cancel r).1.order (S.cancel r).1.cents (S.cancel r).1.upto/\∀ o∈(S.cancel r).2.os,jkz o:=by
 unfold Sal.cancel
 split
 ·exact ⟨.inr (.inr (.inl ⟨rfl,.inr ⟨.inl rfl,rfl,rfl,rfl⟩⟩)),h.os⟩
 ·next i hf =>
  obtain ⟨hi,_,_⟩:=jas ho hf
  split
  ·exact ⟨.inr (.inr (.inl ⟨rfl,.inr ⟨.inl rfl,rfl,rfl,rfl⟩⟩)),h.os⟩
  ·refine ⟨.inr (.inr (.inl ⟨rfl,.inl ⟨rfl,rfl,by omega,rfl,rfl⟩⟩)),?_⟩
   exact jgm (S:=S.ends i 16) h.C (jmi h.os hi (st:=16) (by decide) (fun e=>by omega))
theorem qcy {S:Sal} (h:keepI S) (hR:restP S) (h0:0<=S.now) (r:Req) (ho:1<=r.order):jxy 4 r.order (S.poll r).kind (S.poll r).order (S.poll r).cents (S.poll r).upto:=by
 unfold Sal.poll
 split
 ·exact .inr (.inr (.inr ⟨rfl,.inr (.inr (.inr (.inr ⟨rfl,rfl,rfl,rfl⟩)))⟩))
 ·next i hf =>
  obtain ⟨hi,_,_⟩:=jas ho hf
  obtain ⟨a,b,c⟩:=h.os _ (jal hi)
  split
  ·next hs =>
   have:=hR.R.fut _ (jal hi) (.inl hs)
   exact .inr (.inr (.inr ⟨rfl,.inl ⟨rfl,rfl,by omega,rfl,by show 0<(S.os.getD i ja3).upto;omega⟩⟩))
  split
  ·next hs =>
   have:=hR.R.fut _ (jal hi) (.inr hs)
   have:=c (.inl hs)
   exact .inr (.inr (.inr ⟨rfl,.inr (.inl ⟨rfl,rfl,by omega,by show 0<(S.os.getD i ja3).cents;omega,by show 0<(S.os.getD i ja3).upto;omega⟩)⟩))
  split
  ·exact .inr (.inr (.inr ⟨rfl,.inr (.inr (.inr (.inr ⟨rfl,rfl,rfl,rfl⟩)))⟩))
  split
  ·next hs =>
   have:=c (.inr hs)
   exact .inr (.inr (.inr ⟨rfl,.inr (.inr (.inl ⟨rfl,rfl,by omega,Int.mul_pos (by omega) (by omega),rfl⟩))⟩))
  ·next h12 h13 _ h14 =>
   refine .inr (.inr (.inr ⟨rfl,.inr (.inr (.inr (.inl ⟨?_,rfl,by omega,rfl,rfl⟩)))⟩))
   show (S.os.getD i ja3).state=15\/(S.os.getD i ja3).state=16\/(S.os.getD i ja3).state=17\/(S.os.getD i ja3).state=18
   omega
structure Stp where
 n:Int
 k:Int
 t:Int
 c:Int
 u:Int
 o:Int
def Stp.req (p:Stp):Req:=⟨p.k,jcn p.k p.t,p.c,jcs p.k p.u,jcg p.k p.o⟩
def Stp.ok (p:Stp):Bool:=isB p.k (jcn p.k p.t) p.c (jcs p.k p.u) (jcg p.k p.o)
def Stp.bytes (p:Stp):List Int:=jao p.k (jl1 p.k p.t p.c p.u p.o)
def Stp.val (p:Stp):Value:=.agg #[iv p.n,iv p.k,iv p.t,iv p.c,iv p.u,iv p.o]
def inI (n:Int):Prop:=-9223372036854775808<=n/\n<9223372036854775808
def Stp.fine (p:Stp):Prop:=inI p.n/\inI p.k/\inI p.t/\inI p.c/\inI p.u/\inI p.o
theorem Stp.nums {p:Stp} (h:p.ok=true):jay p.k (jcn p.k p.t) p.c (jcs p.k p.u) (jcg p.k p.o)=jl1 p.k p.t p.c p.u p.o:=by
 unfold Stp.ok isB at h
 unfold jay jl1 jcn jcs jcg
 by_cases h1:p.k=1
 ·simp [h1]
 ·by_cases h2:p.k=2\/p.k=3
  ·have h4:p.k≠4:=by omega
   simp [h1,h2,h4]
  ·by_cases h4:p.k=4
   ·simp [h4]
   ·simp [h1,h2,h4] at h
def Sal.sendK (S:Sal) (p:Stp):Rep × Sal:=if p.ok then S.send p.bytes p.req 0 else (⟨1,0,0,0⟩,S)
def Sal.does (S:Sal) (p:Stp):Rep × Sal :=
 if 0<=p.k/\p.k<256 then (if p.k=0 then (jks,(S.tick p.n).2) else S.sendK p) else (jks,S)
theorem jri {k o:Int} (e:k=1\/k=2\/k=3) (pk':Int) (h':pk'=10\/pk'=11):jxy k o pk' 0 0 0:=by
 rcases e with rfl|rfl|rfl
 ·exact .inl ⟨rfl,.inr (.inr ⟨by omega,rfl,rfl,rfl⟩)⟩
 ·exact .inr (.inl ⟨rfl,.inr ⟨by omega,rfl,rfl,rfl⟩⟩)
 ·exact .inr (.inr (.inl ⟨rfl,.inr ⟨by omega,rfl,rfl,rfl⟩⟩))
theorem jhb {k t c u o:Int} (h:isB k t c u o=true):k=1\/k=2\/k=3\/k=4:=by
 unfold isB at h
 by_cases h1:k=1
 ·exact .inl h1
 ·by_cases h2:k=2\/k=3
  ·omega
  ·by_cases h4:k=4
   ·omega
   ·simp [h1,h2,h4] at h
theorem jep {k t c u o:Int} (h:isB k t c u o=true):(k=1/\1<=u/\u<=4294967296/\c≠0)\/(k≠1/\1<=o/\c≠0):=by
 unfold isB jbn at h
 by_cases h1:k=1
 ·simp [h1] at h
  refine .inl ⟨h1,by omega,by omega,by omega⟩
 ·by_cases h2:k=2\/k=3
  ·simp [h1,h2] at h
   exact .inr ⟨h1,by omega,by omega⟩
  ·by_cases h4:k=4
   ·simp [h4] at h
    exact .inr ⟨h1,by omega,by omega⟩
   ·simp [h1,h2,h4] at h
theorem qf4 {S:Sal} (h:keepI S) (hR:restP S) (h0:0<=S.now) (r:Req) (hb:isB r.kind r.token r.cust r.units r.order=true) (h4:r.kind≠4):jxy r.kind r.order (S.doS r).1.kind (S.doS r).1.order (S.doS r).1.cents (S.doS r).1.upto/\∀ o∈(S.doS r).2.os,jkz o:=by
 have hp:=jep hb
 unfold Sal.doS
 rcases jhb hb with e|e|e|e
 ·rw [if_pos e]
  obtain ⟨a,b⟩:=qed h hR h0 r
  rw [e]
  exact ⟨a,b (by omega)⟩
 ·rw [if_neg (by omega),if_pos e]
  have:=jt3 h r (by omega)
  rw [e]
  exact this
 ·rw [if_neg (by omega),if_neg (by omega)]
  have:=jvm h r (by omega)
  rw [e]
  exact this
 ·exact absurd e h4
theorem jl5 {S:Sal} {t:Int} {a:Ans} (h:S.used t=some a):a∈S.ansL/\a.token=t/\S.remem a=true:=by
 unfold Sal.used at h
 have h1:=List.mem_of_find?_eq_some h
 have h2:=List.find?_some h
 simp only [Bool.and_eq_true,beq_iff_eq] at h2
 exact ⟨h1,h2.2,h2.1⟩
theorem jrs {k k' o o' pk po pc pu:Int} (e:k=k') (e':o=o') (h:jxy k o pk po pc pu):jxy k' o' pk po pc pu:=by rw [← e,← e'];exact h
theorem jqs {S:Sal} (h:keepI S) (hR:restP S) (h0:0<=S.now) {p:Stp} (hb:p.ok=true):jxy p.k (jcg p.k p.o) (S.sendK p).1.kind (S.sendK p).1.order (S.sendK p).1.cents (S.sendK p).1.upto/\keepI (S.sendK p).2:=by
 have hb':isB p.k (jcn p.k p.t) p.c (jcs p.k p.u) (jcg p.k p.o)=true:=hb
 have hk:=jhb hb'
 have hpart:=jep hb'
 unfold Sal.sendK
 rw [if_pos hb]
 unfold Sal.send
 rw [if_neg (fun c=>c rfl)]
 split
 ·next h4 =>
  have h4':p.k=4:=h4
  have ho:1<=jcg p.k p.o:=by
   rcases hpart with c|c
   ·omega
   ·exact c.2.1
  exact ⟨jrs h4'.symm rfl (qcy h hR h0 p.req ho),h⟩
 ·next h4 =>
  have h4':p.k≠4:=h4
  have hk3:p.k=1\/p.k=2\/p.k=3:=by omega
  split
  ·next a ha =>
   obtain ⟨m1,m2,m3⟩:=jl5 ha
   split
   ·next hf =>
    obtain ⟨k,t,c,u,o,q1,q2,q3,q4,q5⟩:=h.an a m1
    rw [q4] at hf
    have hbytes:p.bytes=jao p.k (jay p.k (jcn p.k p.t) p.c (jcs p.k p.u) (jcg p.k p.o)):=by unfold Stp.bytes;rw [Stp.nums hb]
    rw [hbytes] at hf
    obtain ⟨e1,_,_,_,e5⟩:=jjb q1 hb' (jsq (jf0 q1) (jf0 hb') hf)
    exact ⟨jrs e1 e5 q5,h⟩
   ·exact ⟨jri hk3 10 (.inl rfl),h⟩
  ·split
   ·exact ⟨jri hk3 11 (.inr rfl),h⟩
   ·obtain ⟨a,b⟩:=qf4 h hR h0 p.req hb' h4'
    obtain ⟨c,_,d⟩:=jew S p.req
    refine ⟨a,⟨by show rightC (S.doS p.req).2.C;rw [c];exact h.C,b,fun x hx=>?_⟩⟩
    rcases List.mem_append.1 (show x∈(S.doS p.req).2.ansL++[_] from hx) with hx|hx
    ·rw [d] at hx;exact h.an x hx
    ·have e:x=⟨strOfNums p.bytes,p.req.token,(S.doS p.req).1,S.now⟩:=by simpa using hx
     rw [e]
     exact ⟨p.k,jcn p.k p.t,p.c,jcs p.k p.u,jcg p.k p.o,hb',h4',rfl,by unfold Stp.bytes;rw [Stp.nums hb],a⟩
theorem Stp.un (p:Stp):(p.ok=true/\UN p.bytes p.k (jcn p.k p.t) p.c (jcs p.k p.u) (jcg p.k p.o) 0)\/(p.ok=false/\UN p.bytes 0 0 0 0 0 2):=by
 cases hb:p.ok
 ·refine .inr ⟨rfl,?_⟩
  unfold Stp.bytes
  rw [jco]
  unfold Stp.ok isB at hb
  have hnb:∀ n:Int,jbn ((n.toNat:Nat):Int)=jbn n:=fun n=>by
   unfold jbn
   by_cases h:0<=n
   ·rw [Int.toNat_of_nonneg h]
   ·have e:n.toNat=0:=by omega
    rw [e]
    have h1:decide (1<=n)=false:=decide_eq_false (by omega)
    rw [h1];rfl
  have hall:∀ l:List Int,((l.map Int.toNat).map fun n:Nat=>(n:Int)).all jbn=l.all jbn:=fun l=>by
   induction l with
   | nil=>rfl
   | cons a l ih=>simp only [List.map_cons,List.all_cons,hnb,ih]
  by_cases h1:p.k=1
  ·have e:jl1 p.k p.t p.c p.u p.o=[p.t,p.c,p.u]:=by unfold jl1;rw [if_neg (by omega),if_pos h1]
   rw [if_pos h1,show jcn p.k p.t=p.t from if_neg (by omega),show jcs p.k p.u=p.u from if_pos h1,show jcg p.k p.o=0 from if_pos h1] at hb
   refine jms (by rw [e,h1];rfl) rfl ?_
   rw [hall,e]
   simp only [List.all_cons,List.all_nil]
   revert hb
   cases jbn p.t<;>cases jbn p.c<;>cases jbn p.u<;>simp
  ·by_cases h2:p.k=2\/p.k=3
   ·have e:jl1 p.k p.t p.c p.u p.o=[p.t,p.c,p.o]:=by unfold jl1;rw [if_neg (by omega),if_neg h1]
    rw [if_neg h1,if_pos h2,show jcn p.k p.t=p.t from if_neg (by omega),show jcs p.k p.u=0 from if_neg h1,show jcg p.k p.o=p.o from if_neg h1] at hb
    refine jms (by rw [e];unfold cnt;rw [if_neg h1,if_pos h2];rfl) rfl ?_
    rw [hall,e]
    simp only [List.all_cons,List.all_nil]
    revert hb
    cases jbn p.t<;>cases jbn p.c<;>cases jbn p.o<;>simp
   ·by_cases h4:p.k=4
    ·have e:jl1 p.k p.t p.c p.u p.o=[p.c,p.o]:=by unfold jl1;rw [if_pos h4]
     rw [if_neg h1,if_neg h2,if_pos h4,show jcn p.k p.t=0 from if_pos h4,show jcs p.k p.u=0 from if_neg h1,show jcg p.k p.o=p.o from if_neg h1] at hb
     refine jms (by rw [e,h4];rfl) rfl ?_
     rw [hall,e]
     simp only [List.all_cons,List.all_nil]
     revert hb
     cases jbn p.c<;>cases jbn p.o<;>simp
    ·exact jzl (by unfold cnt;simp [h1,h2,h4])
 ·refine .inl ⟨rfl,.inl ⟨rfl,hb,?_⟩⟩
  unfold Stp.bytes
  rw [Stp.nums hb]
theorem qbm {S:Sal} (h:salJ S) (r:Req) (hb:isB r.kind r.token r.cust r.units r.order=true):salI (S.doS r).2:=by
 have hp:=jep hb
 have hI:=h.I
 unfold Sal.doS
 split
 ·next hk =>
  have hu:1<=r.units/\r.units<=4294967296/\r.cust≠0:=by omega
  unfold Sal.ask
  split
  ·exact hI
  ·next hcap =>
   split
   ·exact hI
   split
   ·exact hI
   split
   ·next hg =>
    obtain ⟨e1,e2⟩:=jcw S r.cust r.units
    rw [e1,e2]
    have hpr:0<=S.price/\S.price<=1073741824:=jeu hI.prices _ _ (Nat.le_refl _)
    exact jvg hI _ rfl ⟨hu.1,hu.2.1⟩ hg.2 ⟨hpr,by show (0:Int)<=0/\(0:Int)<=4611686018427387904;omega⟩
   split
   ·exact hI
   ·have h13:=jeh hI 13 r.cust
    have h14:=jeh hI 14 r.cust
    have:=h.cap
    exact qa2 hI _ _ ⟨hu.1,hu.2.1⟩ (by omega) _
 split
 ·unfold Sal.confirm
  split
  ·exact hI
  ·next i hf =>
   obtain ⟨hi,_,_⟩:=jas (by omega) hf
   split
   ·exact hI
   ·next hs =>
    have hs':(S.os.getD i ja3).state=13:=Classical.not_not.1 hs
    have h1:=jim hI hi 14 (.inl rfl) (fun _=>hs')
    exact jg5 _ (jjh (n:=(S.ends i 14).os.length) _ _ h1 rfl (fun q hq=>((jb6 _ _ q).1 hq).1)).1
 ·unfold Sal.cancel
  split
  ·exact hI
  ·next i hf =>
   obtain ⟨hi,_,_⟩:=jas (by omega) hf
   split
   ·exact hI
   ·exact jg5 _ (jim hI hi 16 (.inr (by decide)) (fun e=>by omega))
theorem jv6 {S:Sal} (h:salJ S) (p:Stp):salJ (S.sendK p).2:=by
 unfold Sal.sendK
 split
 ·next hb =>
  refine qa0 h _ _ _ ?_
  unfold Sal.send
  rw [if_neg (fun c=>c rfl)]
  split
  ·exact h.I
  ·next h4 =>
   split
   ·split
    ·exact h.I
    ·exact h.I
   ·split
    ·exact h.I
    ·obtain ⟨a,b,c,d,e,f,g⟩:=qbm h p.req hb
     exact ⟨a,b,c,d,e,f,g⟩
 ·exact h
theorem jju:∀ (n:Nat) (S:Sal) (to:Int),salI S->0<=to->to<=4611686018427387904->salI (jdw n S to)
 | 0,_,_,h,h0,h1=>jig h ⟨h0,h1⟩
 | n+1,S,to,h,h0,h1=>by
   unfold jdw
   split
   ·exact jig h ⟨h0,h1⟩
   ·next hd =>
    obtain ⟨_,_,_,_,hle⟩:=ji6 S.os to S.os.length (Nat.le_refl _) (by unfold Sal.due at hd;omega)
    have hle':S.due to<=to:=hle
    exact jju n _ to (jl9 (jl9 (jig h ⟨by omega,by omega⟩) 13 15 (by decide)) 12 17 (by decide)) h0 h1
theorem jwz {S:Sal} (h:salJ S) (n:Int):salJ (S.tick n).2:=by
 refine jzm h n ?_
 have h0:=h.I.now
 unfold Sal.tick
 split
 ·exact h.I
 split
 ·exact jju _ _ _ h.I (by omega) (by omega)
 ·exact jju _ _ _ h.I (by omega) (by omega)
theorem Stp.bytes_byte (p:Stp) (h:0<=p.k/\p.k<256):∀ x∈p.bytes,0<=x/\x<256:=by
 intro x hx
 rcases List.mem_cons.1 hx with rfl|hx
 ·exact h
 ·obtain ⟨n,_,hx⟩:=List.mem_flatMap.1 hx
  exact jq9 _ x hx
def jiy (W:World) (b:Nat):Nat->List Value->World
 | _,[]=>W
 | o,v :: vs=>jiy (W.setCell (aq b o) v) b (o+1) vs
theorem jj0 {P P':World->(Nat->Prop)->Prop} {w W W':World} {own loc:Nat->Prop} (hw:∀ k,own k->k<w.heap.size) (hT:ja7 P w own loc W) (h:∀ o,P W o->jap P' W W' o):ja7 P' w own loc W'/\∀ b,loc b->W'.heap[b]?=W.heap[b]?:=by
 obtain ⟨o1,a1,a2,a3,a4⟩:=hT
 obtain ⟨o2,b1,b2,b3⟩:=h o1 a1
 have z1:=a2.size
 have z2:=b2.size
 refine ⟨⟨o2,b1,Same.trans a2 b2 (fun k hk e=>e.elim id (fun e=>(a3 k e).elim id (fun e=>by omega))),fun k e=>(b3 k e).elim (a3 k) (fun e=>.inr ⟨by omega,fun c=>by have:=(a4 k c).2;omega⟩),fun k e=>⟨(a4 k e).1,by have:=(a4 k e).2;omega⟩⟩,fun b hb=>b2.block b (a4 b hb).2 (fun e=>?_)⟩
 rcases a3 b e with e|e
 ·have:=hw b e;have:=(a4 b hb).1;omega
 ·exact e.2 hb
theorem js6 (x n m j:Nat) (num z0 z1 z2 z3 z4 z5:Int) (w:World) (own:Nat->Prop) (hw:∀ k,own k->k<w.heap.size) (hnm:n=m+1) (hm:m<=4294967296) (hj:j<=m) (P0 P1 P2 P3 P4 P5:World->(Nat->Prop)->Prop) (K0:Keeps P0) (K1:Keeps P1) (K2:Keeps P2) (K4:Keeps P4) (h:P0 w own)
 (HG:Hid (jc2 w own P0 P0 95 #[pt x 11,.agg #[iv num,iv 0]] (.tuple #[iv j,.bool true])))
 (HC:Hid (∀ loc W,ja7 P0 w own loc W->∃ (b cap:Nat) (v0 v1 v2 v3 v4 v5:Value),x<W.heap.size/\b<W.heap.size/\W.cell? (aq x 13)=some (.slice (some (aq b 0)) n cap)/\W.cell? (aq b (m * 6))=some (iv z0)/\W.cell? (aq b (m * 6+1))=some (iv z1)/\W.cell? (aq b (m * 6+2))=some (iv z2)/\W.cell? (aq b (m * 6+3))=some (iv z3)/\W.cell? (aq b (m * 6+4))=some (iv z4)/\W.cell? (aq b (m * 6+5))=some (iv z5)/\W.cell? (aq b (j * 6))=some v0/\W.cell? (aq b (j * 6+1))=some v1/\W.cell? (aq b (j * 6+2))=some v2/\W.cell? (aq b (j * 6+3))=some v3/\W.cell? (aq b (j * 6+4))=some v4/\W.cell? (aq b (j * 6+5))=some v5/\W.frozen? (aq b (j * 6))=false/\W.frozen? (aq b (j * 6+1))=false/\W.frozen? (aq b (j * 6+2))=false/\W.frozen? (aq b (j * 6+3))=false/\W.frozen? (aq b (j * 6+4))=false/\W.frozen? (aq b (j * 6+5))=false/\ja7 P1 w own loc ((((((W.setCell (aq b (j * 6)) (iv z0)).setCell (aq b (j * 6+1)) (iv z1)).setCell (aq b (j * 6+2)) (iv z2)).setCell (aq b (j * 6+3)) (iv z3)).setCell (aq b (j * 6+4)) (iv z4)).setCell (aq b (j * 6+5)) (iv z5))/\∀ k,loc k->((((((W.setCell (aq b (j * 6)) (iv z0)).setCell (aq b (j * 6+1)) (iv z1)).setCell (aq b (j * 6+2)) (iv z2)).setCell (aq b (j * 6+3)) (iv z3)).setCell (aq b (j * 6+4)) (iv z4)).setCell (aq b (j * 6+5)) (iv z5)).heap[k]?=W.heap[k]?))
 (HP:Hid (jc2 w own P1 P2 112 #[pt x 11,.agg #[iv z0,iv 0],iv j] (.tuple #[])))
 (HR:Hid (jc2 w own P2 P3 143 #[pt x 11,.agg #[iv num,iv 0]] (.tuple #[])))
 (HL:Hid (∀ loc W,ja7 P3 w own loc W->∃ (b cap:Nat),x<W.heap.size/\n<=cap/\W.cell? (aq x 13)=some (.slice (some (aq b 0)) n cap)/\W.frozen? (aq x 13)=false/\ja7 P4 w own loc (W.setCell (aq x 13) (.slice (some (aq b 0)) m cap))))
 (HX1:Hid (∀ loc W,ja7 P1 w own loc W->x<W.heap.size)) (HX2:Hid (∀ loc W,ja7 P2 w own loc W->x<W.heap.size))
 (HS:Hid (jc2 w own P4 P5 176 #[pt x 11] (.tuple #[]))) :
 Calls Tryz.prog 160 #[pt x 11,iv num] w fun e w'=>e=.returned (.tuple #[])/\jap P5 w w' own:=by
 have he:wrap64 ((n:Int) - 1)=(m:Int):=by unfold wrap64;omega
 have d0:decide ((j:Int)<0)=false:=by simp
 have d1:decide ((m:Int)<(j:Int))=false:=by simp;omega
 have b0:(0:Int)<=(m:Int):=by omega
 have b1:(m:Int)<(n:Int):=by omega
 have b2:(0:Int)<=(j:Int):=by omega
 have b3:(j:Int)<(n:Int):=by omega
 replace hnm:Hid _:=hnm
 replace hw:Hid _:=hw
 go_enter Tryz.func160,Tryz.ntmps160
 go_wp2_with fail
 have kb:Hid ((w.alloc (.cells #[iv num,iv 0] 178)).heap[w.heap.size]?=some (.cells #[iv num,iv 0] 178 (0,0))):=heap_alloc_new _ _
 have hT0:Hid (ja7 P0 w own (fun k=>k=w.heap.size) (w.alloc (.cells #[iv num,iv 0] 178))):=jah K0 h ((Below.refl _ _).alloc (Nat.le_refl _) _) (by rintro k rfl;exact ⟨Nat.le_refl _,by simp⟩)
 generalize w.alloc (.cells #[iv num,iv 0] 178)=W0 at kb hT0 ⊢
 obtain ⟨y0,y1⟩:=jaa kb.out
 have hz:w.heap.size<W0.heap.size:=(blt kb.out)
 have hxW:x<W0.heap.size:=by
  obtain ⟨b,cap,v0,v1,v2,v3,v4,v5,hx,hb,hl,m0,m1,m2,m3,m4,m5,e0,e1,e2,e3,e4,e5,f0,f1,f2,f3,f4,f5,hs3,hs4⟩:=HC.out _ _ hT0.out
  exact hx
 go_region_held3 (fun w'=>w'.cell? (aq w.heap.size 0)=some (iv num)/\w'.cell? (aq w.heap.size 1)=some (iv 0)) (simp [go_sem, *])
  (first
    | (go_at_call 95;refine (HG.out _ _ (ja2 K0 hT0.out bL)).mono ?_;rintro e W1 ⟨rfl,hT1,hk⟩
       replace hT1:Hid _:=hT1
       have kb1:Hid (W1.heap[w.heap.size]?=some (.cells #[iv num,iv 0] 178 (0,0))):=(hk w.heap.size rfl).trans kb.out
       obtain ⟨q0,q1⟩:=jaa kb1.out
       have hz1:w.heap.size<W1.heap.size:=(blt kb1.out)
       clear hk))
 clear y0 y1 hT0 kb HG hz hxW
 obtain ⟨b,cap,v0,v1,v2,v3,v4,v5,hx,hb,hl,m0,m1,m2,m3,m4,m5,e0,e1,e2,e3,e4,e5,f0,f1,f2,f3,f4,f5,hs3,hs4⟩:=HC.out _ _ hT1.out
 clear e0 f0 e1 f1 e2 f2 e3 f3 e4 f4 e5 f5 hs3 hs4
 go_wp2_with fail
 have lb:Hid ((W1.alloc (.cells #[iv z0,iv z1,iv z2,iv z3,iv z4,iv z5] 184)).heap[W1.heap.size]?=some (.cells #[iv z0,iv z1,iv z2,iv z3,iv z4,iv z5] 184 (0,0))):=heap_alloc_new _ _
 have kb2:Hid ((W1.alloc (.cells #[iv z0,iv z1,iv z2,iv z3,iv z4,iv z5] 184)).heap[w.heap.size]?=some (.cells #[iv num,iv 0] 178 (0,0))):=(Below.heap_alloc _ _ _ hz1).trans kb1.out
 have hT2:Hid (ja7 P0 w own (fun k=>k=w.heap.size\/k=W1.heap.size) (W1.alloc (.cells #[iv z0,iv z1,iv z2,iv z3,iv z4,iv z5] 184))):=jaz K0 hT1.out _
 clear hx hb hl m0 m1 m2 m3 m4 m5 q0 q1 hT1 kb1 hz1
 generalize W1.alloc (.cells #[iv z0,iv z1,iv z2,iv z3,iv z4,iv z5] 184)=W2 at lb kb2 hT2 ⊢
 generalize W1.heap.size=l at lb hT2 ⊢
 obtain ⟨b,cap,v0,v1,v2,v3,v4,v5,hx,hb,hl,m0,m1,m2,m3,m4,m5,e0,e1,e2,e3,e4,e5,f0,f1,f2,f3,f4,f5,hs3,hs4⟩:=HC.out _ _ hT2.out
 obtain ⟨s0,s1,s2,s3,s4,s5⟩:=ja1 lb.out
 have hlz:l<W2.heap.size:=(blt lb.out)
 replace hs3:Hid _:=hs3
 replace hs4:Hid _:=hs4
 clear m0 m1 m2 m3 m4 m5 HC
 go_region
 all_goals
  have hT3:=hs3.out
  have lb3:Hid _:=(hs4.out l (.inr rfl)).trans lb.out
  have kb3:Hid _:=(hs4.out w.heap.size (.inl rfl)).trans kb2.out
  clear hs3 hs4 hx hb hl e0 f0 s0 e1 f1 s1 e2 f2 s2 e3 f3 s3 e4 f4 s4 e5 f5 s5 hT2 lb kb2 hlz
  generalize ((((((W2.setCell (aq b (j * 6)) (iv z0)).setCell (aq b (j * 6+1)) (iv z1)).setCell (aq b (j * 6+2)) (iv z2)).setCell (aq b (j * 6+3)) (iv z3)).setCell (aq b (j * 6+4)) (iv z4)).setCell (aq b (j * 6+5)) (iv z5))=W3 at hT3 lb3 kb3 ⊢
  replace hT3:Hid (ja7 P1 w own (fun k=>k=w.heap.size\/k=l) W3):=hT3
  have u0:W3.cell? (aq l 0)=some (iv z0):=by rw [Joins.cell_of_block lb3.out];rfl
  have hx3:x<W3.heap.size:=HX1.out _ _ hT3.out
  have hlz:l<W3.heap.size:=(blt lb3.out)
  go_wp2_with fail
  go_region_held3 (fun w'=>w'.cell? (aq l 0)=some (iv z0)) (simp [go_sem, *])
   (first
     | (go_at_call 112;refine (HP.out _ _ (ja2 K1 hT3.out bL)).mono ?_;rintro e W4 ⟨rfl,hT4,hk⟩
        replace hT4:Hid _:=hT4
        have kb4:Hid (W4.heap[w.heap.size]?=some (.cells #[iv num,iv 0] 178 (0,0))):=(hk w.heap.size (.inl rfl)).trans kb3.out
        have lb4:Hid (W4.heap[l]?=_):=(hk l (.inr rfl)).trans lb3.out
        have q0:W4.cell? (aq l 0)=some (iv z0):=by rw [Joins.cell_of_block lb4.out];rfl
        clear hk))
  clear u0 hx3 hlz hT3 lb3 kb3 q0 lb4 HP
  obtain ⟨y0,y1⟩:=jaa kb4.out
  have hx4:x<W4.heap.size:=HX2.out _ _ hT4.out
  have hz4:w.heap.size<W4.heap.size:=(blt kb4.out)
  go_wp2_with fail
  go_region_held3 (fun w'=>w'.cell? (aq w.heap.size 0)=some (iv num)/\w'.cell? (aq w.heap.size 1)=some (iv 0)) (simp [go_sem, *])
   (first
     | (go_at_call 143;refine (HR.out _ _ (ja2 K2 hT4.out bL)).mono ?_;rintro e W5 ⟨rfl,hT5,hk⟩
        replace hT5:Hid _:=hT5
        obtain ⟨q0,q1⟩:=jaa ((hk w.heap.size (.inl rfl)).trans kb4.out)
        clear hk))
  clear y0 y1 q0 q1 hx4 hz4 hT4 kb4 HR
  obtain ⟨b5,c5,hx5,hc5,hl5,hf5,hs5⟩:=HL.out _ _ hT5.out
  have b4:(m:Int)<=(c5:Int):=by have:=hnm.out;omega
  replace hs5:Hid _:=hs5
  clear hT5
  go_wp2_with (go_at_call 176;refine (HS.out _ _ (ja2 K4 hs5.out bL)).mono ?_;rintro e W6 ⟨rfl,hT6,hk⟩)
  first|go_end0|refine bodyPost_ret (results_none rfl _ _ _) rfl ?_
  exact ⟨rfl,jan hT6⟩
theorem jrd (x n m j:Nat) (num z0 z1 z2 z3 z4 z5 z6 z7 z8:Int) (w:World) (own:Nat->Prop) (hw:∀ k,own k->k<w.heap.size) (hnm:n=m+1) (hm:m<=4294967296) (hj:j<=m) (P0 P1 P2 P3 P4 P5:World->(Nat->Prop)->Prop) (K0:Keeps P0) (K1:Keeps P1) (K2:Keeps P2) (K4:Keeps P4) (h:P0 w own)
 (HG:Hid (jc2 w own P0 P0 95 #[pt x 24,.agg #[iv num,iv 0]] (.tuple #[iv j,.bool true])))
 (HC:Hid (∀ loc W,ja7 P0 w own loc W->∃ (b cap:Nat) (v0 v1 v2 v3 v4 v5 v6 v7 v8:Value),x<W.heap.size/\b<W.heap.size/\W.cell? (aq x 26)=some (.slice (some (aq b 0)) n cap)/\W.cell? (aq b (m * 9))=some (iv z0)/\W.cell? (aq b (m * 9+1))=some (iv z1)/\W.cell? (aq b (m * 9+2))=some (iv z2)/\W.cell? (aq b (m * 9+3))=some (iv z3)/\W.cell? (aq b (m * 9+4))=some (iv z4)/\W.cell? (aq b (m * 9+5))=some (iv z5)/\W.cell? (aq b (m * 9+6))=some (iv z6)/\W.cell? (aq b (m * 9+7))=some (iv z7)/\W.cell? (aq b (m * 9+8))=some (iv z8)/\W.cell? (aq b (j * 9))=some v0/\W.cell? (aq b (j * 9+1))=some v1/\W.cell? (aq b (j * 9+2))=some v2/\W.cell? (aq b (j * 9+3))=some v3/\W.cell? (aq b (j * 9+4))=some v4/\W.cell? (aq b (j * 9+5))=some v5/\W.cell? (aq b (j * 9+6))=some v6/\W.cell? (aq b (j * 9+7))=some v7/\W.cell? (aq b (j * 9+8))=some v8/\W.frozen? (aq b (j * 9))=false/\W.frozen? (aq b (j * 9+1))=false/\W.frozen? (aq b (j * 9+2))=false/\W.frozen? (aq b (j * 9+3))=false/\W.frozen? (aq b (j * 9+4))=false/\W.frozen? (aq b (j * 9+5))=false/\W.frozen? (aq b (j * 9+6))=false/\W.frozen? (aq b (j * 9+7))=false/\W.frozen? (aq b (j * 9+8))=false/\ja7 P1 w own loc (((((((((W.setCell (aq b (j * 9)) (iv z0)).setCell (aq b (j * 9+1)) (iv z1)).setCell (aq b (j * 9+2)) (iv z2)).setCell (aq b (j * 9+3)) (iv z3)).setCell (aq b (j * 9+4)) (iv z4)).setCell (aq b (j * 9+5)) (iv z5)).setCell (aq b (j * 9+6)) (iv z6)).setCell (aq b (j * 9+7)) (iv z7)).setCell (aq b (j * 9+8)) (iv z8))/\∀ k,loc k->(((((((((W.setCell (aq b (j * 9)) (iv z0)).setCell (aq b (j * 9+1)) (iv z1)).setCell (aq b (j * 9+2)) (iv z2)).setCell (aq b (j * 9+3)) (iv z3)).setCell (aq b (j * 9+4)) (iv z4)).setCell (aq b (j * 9+5)) (iv z5)).setCell (aq b (j * 9+6)) (iv z6)).setCell (aq b (j * 9+7)) (iv z7)).setCell (aq b (j * 9+8)) (iv z8)).heap[k]?=W.heap[k]?))
 (HP:Hid (jc2 w own P1 P2 112 #[pt x 24,.agg #[iv z1,iv 0],iv j] (.tuple #[])))
 (HR:Hid (jc2 w own P2 P3 143 #[pt x 24,.agg #[iv num,iv 0]] (.tuple #[])))
 (HL:Hid (∀ loc W,ja7 P3 w own loc W->∃ (b cap:Nat),x<W.heap.size/\n<=cap/\W.cell? (aq x 26)=some (.slice (some (aq b 0)) n cap)/\W.frozen? (aq x 26)=false/\ja7 P4 w own loc (W.setCell (aq x 26) (.slice (some (aq b 0)) m cap))))
 (HX1:Hid (∀ loc W,ja7 P1 w own loc W->x<W.heap.size)) (HX2:Hid (∀ loc W,ja7 P2 w own loc W->x<W.heap.size))
 (HS:Hid (jc2 w own P4 P5 163 #[pt x 23] (.tuple #[]))) :
 Calls Tryz.prog 138 #[pt x 23,iv num] w fun e w'=>e=.returned (.tuple #[])/\jap P5 w w' own:=by
 have he:wrap64 ((n:Int) - 1)=(m:Int):=by unfold wrap64;omega
 have d0:decide ((j:Int)<0)=false:=by simp
 have d1:decide ((m:Int)<(j:Int))=false:=by simp;omega
 have b0:(0:Int)<=(m:Int):=by omega
 have b1:(m:Int)<(n:Int):=by omega
 have b2:(0:Int)<=(j:Int):=by omega
 have b3:(j:Int)<(n:Int):=by omega
 replace hnm:Hid _:=hnm
 replace hw:Hid _:=hw
 go_enter Tryz.func138,Tryz.ntmps138
 go_wp2_with fail
 have kb:Hid ((w.alloc (.cells #[iv num,iv 0] 178)).heap[w.heap.size]?=some (.cells #[iv num,iv 0] 178 (0,0))):=heap_alloc_new _ _
 have hT0:Hid (ja7 P0 w own (fun k=>k=w.heap.size) (w.alloc (.cells #[iv num,iv 0] 178))):=jah K0 h ((Below.refl _ _).alloc (Nat.le_refl _) _) (by rintro k rfl;exact ⟨Nat.le_refl _,by simp⟩)
 generalize w.alloc (.cells #[iv num,iv 0] 178)=W0 at kb hT0 ⊢
 obtain ⟨y0,y1⟩:=jaa kb.out
 have hz:w.heap.size<W0.heap.size:=(blt kb.out)
 have hxW:x<W0.heap.size:=by
  obtain ⟨b,cap,v0,v1,v2,v3,v4,v5,v6,v7,v8,hx,hb,hl,m0,m1,m2,m3,m4,m5,m6,m7,m8,e0,e1,e2,e3,e4,e5,e6,e7,e8,f0,f1,f2,f3,f4,f5,f6,f7,f8,hs3,hs4⟩:=HC.out _ _ hT0.out
  exact hx
 go_region_held3 (fun w'=>w'.cell? (aq w.heap.size 0)=some (iv num)/\w'.cell? (aq w.heap.size 1)=some (iv 0)) (simp [go_sem, *])
  (first
    | (go_at_call 95;refine (HG.out _ _ (ja2 K0 hT0.out bL)).mono ?_;rintro e W1 ⟨rfl,hT1,hk⟩
       replace hT1:Hid _:=hT1
       have kb1:Hid (W1.heap[w.heap.size]?=some (.cells #[iv num,iv 0] 178 (0,0))):=(hk w.heap.size rfl).trans kb.out
       obtain ⟨q0,q1⟩:=jaa kb1.out
       have hz1:w.heap.size<W1.heap.size:=(blt kb1.out)
       clear hk))
 clear y0 y1 hT0 kb HG hz hxW
 obtain ⟨b,cap,v0,v1,v2,v3,v4,v5,v6,v7,v8,hx,hb,hl,m0,m1,m2,m3,m4,m5,m6,m7,m8,e0,e1,e2,e3,e4,e5,e6,e7,e8,f0,f1,f2,f3,f4,f5,f6,f7,f8,hs3,hs4⟩:=HC.out _ _ hT1.out
 clear e0 f0 e1 f1 e2 f2 e3 f3 e4 f4 e5 f5 e6 f6 e7 f7 e8 f8 hs3 hs4
 go_wp2_with fail
 have lb:Hid ((W1.alloc (.cells #[iv z0,iv z1,iv z2,iv z3,iv z4,iv z5,iv z6,iv z7,iv z8] 188)).heap[W1.heap.size]?=some (.cells #[iv z0,iv z1,iv z2,iv z3,iv z4,iv z5,iv z6,iv z7,iv z8] 188 (0,0))):=heap_alloc_new _ _
 have kb2:Hid ((W1.alloc (.cells #[iv z0,iv z1,iv z2,iv z3,iv z4,iv z5,iv z6,iv z7,iv z8] 188)).heap[w.heap.size]?=some (.cells #[iv num,iv 0] 178 (0,0))):=(Below.heap_alloc _ _ _ hz1).trans kb1.out
 have hT2:Hid (ja7 P0 w own (fun k=>k=w.heap.size\/k=W1.heap.size) (W1.alloc (.cells #[iv z0,iv z1,iv z2,iv z3,iv z4,iv z5,iv z6,iv z7,iv z8] 188))):=jaz K0 hT1.out _
 clear hx hb hl m0 m1 m2 m3 m4 m5 m6 m7 m8 q0 q1 hT1 kb1 hz1
 generalize W1.alloc (.cells #[iv z0,iv z1,iv z2,iv z3,iv z4,iv z5,iv z6,iv z7,iv z8] 188)=W2 at lb kb2 hT2 ⊢
 generalize W1.heap.size=l at lb hT2 ⊢
 obtain ⟨b,cap,v0,v1,v2,v3,v4,v5,v6,v7,v8,hx,hb,hl,m0,m1,m2,m3,m4,m5,m6,m7,m8,e0,e1,e2,e3,e4,e5,e6,e7,e8,f0,f1,f2,f3,f4,f5,f6,f7,f8,hs3,hs4⟩:=HC.out _ _ hT2.out
 obtain ⟨s0,s1,s2,s3,s4,s5,s6,s7,s8⟩:=jbt lb.out
 have hlz:l<W2.heap.size:=(blt lb.out)
 replace hs3:Hid _:=hs3
 replace hs4:Hid _:=hs4
 clear m0 m1 m2 m3 m4 m5 m6 m7 m8 HC
 go_region
 all_goals
  have hT3:=hs3.out
  have lb3:Hid _:=(hs4.out l (.inr rfl)).trans lb.out
  have kb3:Hid _:=(hs4.out w.heap.size (.inl rfl)).trans kb2.out
  clear hs3 hs4 hx hb hl e0 f0 s0 e1 f1 s1 e2 f2 s2 e3 f3 s3 e4 f4 s4 e5 f5 s5 e6 f6 s6 e7 f7 s7 e8 f8 s8 hT2 lb kb2 hlz
  generalize (((((((((W2.setCell (aq b (j * 9)) (iv z0)).setCell (aq b (j * 9+1)) (iv z1)).setCell (aq b (j * 9+2)) (iv z2)).setCell (aq b (j * 9+3)) (iv z3)).setCell (aq b (j * 9+4)) (iv z4)).setCell (aq b (j * 9+5)) (iv z5)).setCell (aq b (j * 9+6)) (iv z6)).setCell (aq b (j * 9+7)) (iv z7)).setCell (aq b (j * 9+8)) (iv z8))=W3 at hT3 lb3 kb3 ⊢
  replace hT3:Hid (ja7 P1 w own (fun k=>k=w.heap.size\/k=l) W3):=hT3
  have u0:W3.cell? (aq l 1)=some (iv z1):=by rw [Joins.cell_of_block lb3.out];rfl
  have hx3:x<W3.heap.size:=HX1.out _ _ hT3.out
  have hlz:l<W3.heap.size:=(blt lb3.out)
  go_wp2_with fail
  go_region_held3 (fun w'=>w'.cell? (aq l 1)=some (iv z1)) (simp [go_sem, *])
   (first
     | (go_at_call 112;refine (HP.out _ _ (ja2 K1 hT3.out bL)).mono ?_;rintro e W4 ⟨rfl,hT4,hk⟩
        replace hT4:Hid _:=hT4
        have kb4:Hid (W4.heap[w.heap.size]?=some (.cells #[iv num,iv 0] 178 (0,0))):=(hk w.heap.size (.inl rfl)).trans kb3.out
        have lb4:Hid (W4.heap[l]?=_):=(hk l (.inr rfl)).trans lb3.out
        have q0:W4.cell? (aq l 1)=some (iv z1):=by rw [Joins.cell_of_block lb4.out];rfl
        clear hk))
  clear u0 hx3 hlz hT3 lb3 kb3 q0 lb4 HP
  obtain ⟨y0,y1⟩:=jaa kb4.out
  have hx4:x<W4.heap.size:=HX2.out _ _ hT4.out
  have hz4:w.heap.size<W4.heap.size:=(blt kb4.out)
  go_wp2_with fail
  go_region_held3 (fun w'=>w'.cell? (aq w.heap.size 0)=some (iv num)/\w'.cell? (aq w.heap.size 1)=some (iv 0)) (simp [go_sem, *])
   (first
     | (go_at_call 143;refine (HR.out _ _ (ja2 K2 hT4.out bL)).mono ?_;rintro e W5 ⟨rfl,hT5,hk⟩
        replace hT5:Hid _:=hT5
        obtain ⟨q0,q1⟩:=jaa ((hk w.heap.size (.inl rfl)).trans kb4.out)
        clear hk))
  clear y0 y1 q0 q1 hx4 hz4 hT4 kb4 HR
  obtain ⟨b5,c5,hx5,hc5,hl5,hf5,hs5⟩:=HL.out _ _ hT5.out
  have b4:(m:Int)<=(c5:Int):=by have:=hnm.out;omega
  replace hs5:Hid _:=hs5
  clear hT5
  go_wp2_with (go_at_call 163;refine (HS.out _ _ (ja2 K4 hs5.out bL)).mono ?_;rintro e W6 ⟨rfl,hT6,hk⟩)
  first|go_end0|refine bodyPost_ret (results_none rfl _ _ _) rfl ?_
  exact ⟨rfl,jan hT6⟩
end Go.Proofs.YtfhncfghblkgeaaGreat
