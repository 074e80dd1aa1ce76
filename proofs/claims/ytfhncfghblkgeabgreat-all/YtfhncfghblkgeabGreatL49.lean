import Derived.Test.YtfhncfghblkgeabGreatL44
set_option maxRecDepth 100000
set_option maxHeartbeats 2000000
namespace Go.Proofs.YtfhncfghblkgeabGreat
open Go.RowKit
section
section
variable {V:PV} {S:Sal} {last:Nat} {K:Nat->Prop}
theorem relO.clock (h:relO V S last K) {t:Int} (ht:V.tn<=t):relO { V with now:=t } { S with now:=t } last K :=
 ⟨h.C,rfl,h.last,ht,h.once,h.tl,h.kin,h.live,h.ls,h.ol,h.turns,h.sizes,h.held,h.sold,h.lu,h.cust⟩
theorem relO.advance (h:relO V S last K) {t:Int} (h1:V.tn<=t) (h2:t<=S.now):relO { V with tn:=t,tl:=mU V.tn t V.tl } S last K:=by
 have he:mU V.tn t V.tl=V.tl.filter (fun p=>decide (t<p.1)):=by
  unfold mU
  rw [uP uO,Yv]
 rw [he]
 refine ⟨h.C,h.now,h.last,h2,vZ _ h.once,fun p=>?_,h.kin,h.live,h.ls,h.ol,h.turns,h.sizes,h.held,h.sold,h.lu,h.cust⟩
 show p∈V.tl.filter (fun p=>decide (t<p.1))↔∃ i,K i/\t<_/\_
 rw [List.mem_filter,h.tl]
 constructor
 ·rintro ⟨⟨i,a,b,rfl⟩,c⟩
  exact ⟨i,a,by simpa using c,rfl⟩
 ·rintro ⟨i,a,b,rfl⟩
  exact ⟨⟨i,a,uO,rfl⟩,by simpa using b⟩
theorem relO.due (h:relO V S last K) {t:Int} (h1:V.tn<=t) (p:Int × Int):p∈fE V.tn t V.tl↔∃ i,K i/\V.tn<(S.os.getD i qD).untl S.C/\(S.os.getD i qD).untl S.C<=t/\p=((S.os.getD i qD).untl S.C,(i:Int)+1):=by
 have he:(fE V.tn t V.tl).Perm (V.tl.filter (fun p=>decide (p.1<=t))):=by
  unfold fE
  rw [uP uO]
  exact (fZ t _ V.tl rfl).2.1
 rw [he.mem_iff,List.mem_filter,h.tl]
 constructor
 ·rintro ⟨⟨i,a,b,rfl⟩,c⟩
  exact ⟨i,a,b,by simpa using c,rfl⟩
 ·rintro ⟨i,a,b,c,rfl⟩
  exact ⟨⟨i,a,b,rfl⟩,by simpa using c⟩
theorem relO.drop (h:relO V S last K) {i:Nat} (ha:¬ (S.os.getD i qD).alive) (hu:(S.os.getD i qD).untl S.C<=V.tn) {j:Nat} {z:POrd} (hj:V.ol[j]?=some (zO S.C i (S.os.getD i qD))) (hz:V.ol[V.ol.length - 1]?=some z) (rm:Int) :
 relO { V with ot:=xC ((i:Int)+1,0) (zD (z.num,0) j V.ot),ol:=oB V.ol j z,orm:=rm } S last (fun k=>K k/\k≠i):=by
 refine ⟨h.C,h.now,h.last,h.tn,h.once,fun p=>?_,fun k hk=>h.kin k hk.1,fun k hk hs=>⟨h.live k hk hs,fun e=>ha (by rw [e] at hs;exact hs)⟩,iT h.ls hj hz,fun o=>?_,h.turns,h.sizes,h.held,h.sold,h.lu,h.cust⟩
 ·refine (h.tl p).trans ?_
  constructor
  ·rintro ⟨k,a,b,rfl⟩
   exact ⟨k,⟨a,fun e=>by rw [e] at b;omega⟩,b,rfl⟩
  ·rintro ⟨k,a,b,rfl⟩
   exact ⟨k,a.1,b,rfl⟩
 ·show o∈oB V.ol j z↔_
  rw [sM h.ls.once hj hz,h.ol]
  constructor
  ·rintro ⟨⟨k,a,rfl⟩,b⟩
   exact ⟨k,⟨a,fun e=>b (by rw [e])⟩,rfl⟩
  ·rintro ⟨k,a,rfl⟩
   exact ⟨⟨k,a.1,rfl⟩,fun c=>a.2 (by simp [zO] at c;omega)⟩
end
theorem relA.forget {an t:Int} {atl:List (Int × Int)} {att att':List Ent} {al al':List PAns} {keep:Int} {ansL:List Ans} (h:relA an atl att al keep ansL) (ht:an<=t) (hls:Listed PAns.t att' al') (hm:∀ a,a∈al'↔a∈al/\∀ d∈fE an t atl,a.t≠d.2) :
 relA t (mU an t atl) att' al' keep ansL:=by
 have he:mU an t atl=atl.filter (fun p=>decide (t<p.1)):=by
  unfold mU
  rw [uP uO,Yv]
 have hd:∀ p,p∈fE an t atl↔∃ j,j<ansL.length/\an<(ansL.getD j zU).at'+keep/\(ansL.getD j zU).at'+keep<=t/\p=((ansL.getD j zU).at'+keep,(ansL.getD j zU).token):=fun p=>by
  have hp:(fE an t atl).Perm (atl.filter (fun p=>decide (p.1<=t))):=by
   unfold fE
   rw [uP uO]
   exact (fZ t _ atl rfl).2.1
  rw [hp.mem_iff,List.mem_filter,h.tl]
  constructor
  ·rintro ⟨⟨i,a,b,rfl⟩,c⟩
   exact ⟨i,a,b,by simpa using c,rfl⟩
  ·rintro ⟨i,a,b,c,rfl⟩
   exact ⟨⟨i,a,b,rfl⟩,by simpa using c⟩
 refine ⟨by rw [he];exact vZ _ h.once,hls,fun j hj hr=>?_,fun i j hi hj h1 h2=>h.uniq i j hi hj uO uO,fun a ha=>?_,fun p=>?_⟩
 ·obtain ⟨a,q1,q2,q3⟩:=h.reqs j hj uO
  refine ⟨a,(hm a).2 ⟨q1,fun d hd' e=>?_⟩,q2,q3⟩
  obtain ⟨i,i1,i2,i3,rfl⟩:=(hd d).1 hd'
  have:=h.uniq i j i1 hj i2 uO (e.symm.trans q2)
  subst this
  omega
 ·obtain ⟨q1,q2⟩:=(hm a).1 ha
  obtain ⟨j,j1,j2,j3⟩:=h.al a q1
  refine ⟨j,j1,?_,j3⟩
  refine Classical.byContradiction fun hn=>q2 _ ((hd _).2 ⟨j,j1,j2,uO,rfl⟩) j3
 ·rw [he,List.mem_filter,h.tl]
  constructor
  ·rintro ⟨⟨i,a,b,rfl⟩,c⟩
   exact ⟨i,a,by simpa using c,rfl⟩
  ·rintro ⟨i,a,b,rfl⟩
   exact ⟨⟨i,a,uO,rfl⟩,by simpa using b⟩
theorem cR {S:Sal} {t:Int} (ht:S.now<=t) (i:Nat):({ S with now:=t }:Sal).knows i↔S.knows i/\((S.os.getD i qD).alive\/t<(S.os.getD i qD).untl S.C):=by
 constructor
 ·rintro ⟨h1,h2⟩
  exact ⟨⟨h1,h2.imp id (fun h=>by have h':t<(S.os.getD i qD).untl S.C:=h;omega)⟩,h2⟩
 ·rintro ⟨⟨h1,_⟩,h2⟩
  exact ⟨h1,h2⟩
end
section
theorem Hy {L L':List (Int × Int)} (h:∀ p,p∈L↔p∈L'):zB L=zB L'/\qN L=qN L':=by
 by_cases e:L=[]
 ·have e':L'=[]:=List.eq_nil_iff_forall_not_mem.2 (fun p hp=>by rw [← h,e] at hp;simp at hp)
  rw [e,e'];exact ⟨rfl,rfl⟩
 ·have e':L'≠[]:=fun c=>e (List.eq_nil_iff_forall_not_mem.2 (fun p hp=>by rw [h,c] at hp;simp at hp))
  obtain ⟨a1,a2,a3⟩:=oY e
  obtain ⟨b1,b2,b3⟩:=oY e'
  exact ⟨a1.trans b1.symm,fG (b3 _ ((h _).1 a2)) (a3 _ ((h _).2 b2))⟩
open Classical in
noncomputable def Sal.kset (S:Sal):List Nat:=(List.range S.os.length).filter (fun i=>decide (S.knows i))
noncomputable def Sal.tset (S:Sal):List (Int × Int):=S.kset.map (fun i=>((S.os.getD i qD).untl S.C,(i:Int)+1))
theorem Db (S:Sal) (i:Nat):i∈S.kset↔S.knows i:=by
 unfold Sal.kset
 rw [List.mem_filter]
 constructor
 ·rintro ⟨_,h⟩;simpa using h
 ·intro h;exact ⟨List.mem_range.2 h.1,by simpa using h⟩
theorem cQ (S:Sal) (p:Int × Int):p∈S.tset↔∃ i,S.knows i/\p=((S.os.getD i qD).untl S.C,(i:Int)+1):=by
 unfold Sal.tset
 rw [List.mem_map]
 constructor
 ·rintro ⟨i,h,rfl⟩;exact ⟨i,(Db S i).1 h,rfl⟩
 ·rintro ⟨i,h,rfl⟩;exact ⟨i,(Db S i).2 h,rfl⟩
theorem rU {S:Sal} (hR:restS S) {i:Nat} (h:S.knows i):S.now<(S.os.getD i qD).untl S.C:=by
 rcases h.2 with ha|ha
 ·rw [kI ha];exact hR.fut _ (zG h.1) ha
 ·exact ha
theorem relO.firstK {V:PV} {S:Sal} {last:Nat} (h:relO V S last S.knows) (hR:restS S):zB V.tl=zB S.tset/\qN V.tl=qN S.tset :=
 Hy (fun p=>by
  rw [h.tl,cQ]
  constructor
  ·rintro ⟨i,a,_,rfl⟩;exact ⟨i,a,rfl⟩
  ·rintro ⟨i,a,rfl⟩
   exact ⟨i,a,by have:=rU hR a;have:=h.tn;omega,rfl⟩)
theorem iP {α:Type} {p q:α->Bool}:∀ {l:List α},(∀ x∈l,q x=true->p x=true)->(∃ x∈l,p x=true/\q x=false)->(l.filter q).length<(l.filter p).length
 | [],_,h=>by obtain ⟨x,hx,_⟩:=h;simp at hx
 | a :: l,h1,h2=>by
   have le:(l.filter q).length<=(l.filter p).length:=by
    clear h2
    induction l with
    | nil=>simp
    | cons b l ih =>
      have ih':=ih (fun x hx=>h1 x (by simp at hx ⊢;rcases hx with rfl|hx<;>simp_all))
      have hb:=h1 b vS
      by_cases hq:q b=true
      ·rw [List.filter_cons_of_pos hq,List.filter_cons_of_pos (hb hq)];simpa using ih'
      ·by_cases hp:p b=true
       ·rw [List.filter_cons_of_neg hq,List.filter_cons_of_pos hp];simp;omega
       ·rw [List.filter_cons_of_neg hq,List.filter_cons_of_neg hp];exact ih'
   by_cases hq:q a=true
   ·rw [List.filter_cons_of_pos hq,List.filter_cons_of_pos (h1 a vS hq)]
    obtain ⟨x,hx,hp,hn⟩:=h2
    have:=iP (p:=p) (q:=q) (l:=l) (fun x hx=>h1 x (List.mem_cons_of_mem _ hx)) ⟨x,by
     rcases List.mem_cons.1 hx with rfl|hx
     ·rw [hq] at hn;cases hn
     ·exact hx,hp,hn⟩
    simpa using this
   ·by_cases hp:p a=true
    ·rw [List.filter_cons_of_neg hq,List.filter_cons_of_pos hp];simp;omega
    ·rw [List.filter_cons_of_neg hq,List.filter_cons_of_neg hp]
     obtain ⟨x,hx,hp',hn⟩:=h2
     exact iP (p:=p) (q:=q) (l:=l) (fun x hx=>h1 x (List.mem_cons_of_mem _ hx)) ⟨x,by
      rcases List.mem_cons.1 hx with rfl|hx
      ·exact absurd hp' hp
      ·exact hx,hp',hn⟩
noncomputable def Sal.todo (S:Sal):Nat:=zM S.os * (S.os.length+1)+S.kset.length
structure stopAt (S:Sal) (t:Int):Prop where
 some:∃ i,S.knows i/\t=(S.os.getD i qD).untl S.C
 min:∀ i,S.knows i->t<=(S.os.getD i qD).untl S.C
theorem mK {S:Sal} (h:zB S.tset=true):stopAt S (qN S.tset).1:=by
 have hn:S.tset≠[]:=fun e=>by rw [e] at h;rw [eQ.2] at h;cases h
 obtain ⟨_,a2,a3⟩:=oY hn
 obtain ⟨i,h1,h2⟩:=(cQ S _).1 a2
 refine ⟨⟨i,h1,by rw [h2]⟩,fun k hk=>?_⟩
 have:=a3 _ ((cQ S _).2 ⟨k,hk,rfl⟩)
 have:=fU.1 this
 have h':((qN S.tset).1<(S.os.getD k qD).untl S.C)\/((qN S.tset).1=(S.os.getD k qD).untl S.C/\_):=this
 omega
theorem Dz {S:Sal} (h:zB S.tset=false) (i:Nat):¬ S.knows i:=fun hk=>by
 have hn:S.tset≠[]:=fun e=>by
  have:=(cQ S _).2 ⟨i,hk,rfl⟩
  rw [e] at this
  simp at this
 rw [(oY hn).1] at h
 cases h
section
variable {S:Sal} {t:Int}
theorem stopAt.alive (h:stopAt S t):∀ o∈S.os,o.alive->t<=o.upto:=fun o ho ha=>by
 obtain ⟨k,hk,rfl⟩:=kF ho
 have:=h.min k ⟨hk,.inl ha⟩
 rwa [kI ha] at this
theorem stopAt.later (h:stopAt S t) (hR:restS S):S.now<t:=by
 obtain ⟨i,h1,rfl⟩:=h.some
 exact rU hR h1
theorem Mp (h:stopAt S t) (hR:restS S) (h0:0<=S.now):(S.round t).todo<S.todo:=by
 have hl:=(dH S t).2.2.2
 have hm:=h.alive
 have hn:=h.later hR
 by_cases hx:∃ o∈S.os,o.alive/\o.upto=t
 ·obtain ⟨o,ho,ha,hu⟩:=hx
  obtain ⟨i,hi,rfl⟩:=kF ho
  have hp:∀ o∈S.os,o.alive->0<=o.upto:=fun o ho ha=>by have:=hR.fut o ho ha;omega
  obtain ⟨d1,d2⟩:=Zb S.os t hp S.os.length (uA _) i hi ha uO
  obtain ⟨k,hk,hs,hku,_⟩:=tZ S.os t S.os.length (uA _) d1
  have:=hm _ (zG hk) hs.symm
  have e:S.due t=t:=by unfold Sal.due;omega
  have hlt:=cW (S:=S) (to:=t) uO
  rw [e] at hlt
  have hks:(S.round t).kset.length<=S.os.length:=by
   unfold Sal.kset
   refine uX (List.length_filter_le _ _) ?_
   rw [List.length_range,hl]
   exact uA _
  have h1:(zM (S.round t).os+1) * (S.os.length+1)<=zM S.os * (S.os.length+1):=Nat.mul_le_mul_right _ hlt
  rw [Nat.add_mul,Nat.one_mul] at h1
  unfold Sal.todo
  rw [hl]
  omega
 ·have hr:=pT (S:=S) (t:=t) hR.stable (fun o ho ha=>by
   have:=hm o ho ha
   have:o.upto≠t:=fun e=>hx ⟨o,ho,ha,e⟩
   omega)
  rw [hr]
  have hlt:({ S with now:=t }:Sal).kset.length<S.kset.length:=by
   unfold Sal.kset
   refine iP (fun i _ hi=>?_) ?_
   ·have hi':({ S with now:=t }:Sal).knows i:=by simpa using hi
    have:=((cR uO i).1 hi').1
    simpa using this
   ·obtain ⟨i,h1,h2⟩:=h.some
    have hno:¬ ({ S with now:=t }:Sal).knows i:=fun c=>by
     rcases ((cR uO i).1 c).2 with ha|ha
     ·exact hx ⟨_,zG h1.1,ha,by rw [h2,kI ha]⟩
     ·omega
    exact ⟨i,List.mem_range.2 h1.1,by simpa using h1,by simpa using hno⟩
  show zM S.os * (S.os.length+1)+_<zM S.os * (S.os.length+1)+_
  omega
theorem tG (S:Sal) {t:Int} (h:S.now<=t) (T:Sal) (hn:T.now=t) (hC:T.C=S.C) (ha:T.ansL=S.ansL):T.answers<=S.answers:=by
 unfold Sal.answers
 rw [ha]
 have:∀ l:List Ans,(l.filter T.remem).length<=(l.filter S.remem).length:=by
  intro l
  induction l with
  | nil=>simp
  | cons a l ih =>
    have hb:T.remem a=true->S.remem a=true:=by
     unfold Sal.remem
     rw [hn,hC]
     simp only [decide_eq_true_eq]
     omega
    by_cases hq:T.remem a=true
    ·rw [List.filter_cons_of_pos hq,List.filter_cons_of_pos (hb hq)];simpa using ih
    ·rw [List.filter_cons_of_neg hq]
     by_cases hp:S.remem a=true
     ·rw [List.filter_cons_of_pos hp];simp;omega
     ·rw [List.filter_cons_of_neg hp];exact ih
 exact this _
theorem sG (S:Sal) (st en:Int) (hen:en≠12):∀ n,n<=S.os.length->(qK (zA S st en n).os).length<=(qK S.os).length
 | 0,_=>uA _
 | n+1,hn=>by
   have ih:=sG S st en hen n uO
   unfold zA
   split
   ·exact uX (rD (by rw [jA];omega) hen) ih
   ·exact ih
theorem Je (S:Sal) (st en:Int) (hen:en≠12):(qK (S.past st en).os).length<=(qK S.os).length :=
 uX (cC _) (sG S st en hen _ (uA _))
theorem Up (h:stopAt S t) (hR:restP S):restP (S.round t):=by
 obtain ⟨a,b,c,d⟩:=dH S t
 have hn:=h.later hR.R
 have h1:=Je ({ S with now:=t }:Sal) 13 15 vO
 have h2:=Je (({ S with now:=t }:Sal).past 13 15) 12 17 vO
 refine ⟨Gp hR.R h.alive,?_,?_⟩
 ·rw [a]
  have:=hR.qlen
  have h3:(qK (S.round t).os).length<=(qK S.os).length:=uX h2 h1
  omega
 ·rw [a]
  have:=tG S (t:=t) uO (S.round t) b a c
  have:=hR.alen
  omega
theorem Lq (hJ:salJ S) (ht:0<=t/\t<=4611686018427387904):salJ (S.round t):=by
 obtain ⟨a,b,c,d⟩:=dH S t
 refine ⟨Uw (Uw (cY hJ.I ht) 13 15 vO) 12 17 vO,by rw [a];exact hJ.cap,by rw [a];exact hJ.queue,by rw [d];exact hJ.len,by rw [c];exact hJ.ats⟩
theorem Gt {to:Int} (hto:S.now<=to) (h:∀ i,S.knows i->to<(S.os.getD i qD).untl S.C):({ S with now:=to }:Sal).knows=S.knows:=by
 funext i
 exact propext ((cR hto i).trans ⟨fun c=>c.1,fun c=>⟨c,.inr (h i c)⟩⟩)
theorem Nn {to:Int} (h:∀ i,S.knows i->to<(S.os.getD i qD).untl S.C):S.tickTo to={ S with now:=to } :=
 Qe (Is (fun o ho ha=>by
  obtain ⟨k,hk,rfl⟩:=kF ho
  have:=h k ⟨hk,.inl ha⟩
  rwa [kI ha] at this))
theorem Gh {to:Int} (hto:S.now<=to) (h:∀ i,S.knows i->to<(S.os.getD i qD).untl S.C) (hR:restP S):restP ({ S with now:=to }:Sal):=by
 refine ⟨⟨fun o ho ha=>?_,hR.R.stable,hR.R.lease,hR.R.wait,hR.R.keep,hR.R.tokens,hR.R.queue⟩,hR.qlen,?_⟩
 ·obtain ⟨k,hk,rfl⟩:=kF ho
  have:=h k ⟨hk,.inl ha⟩
  rwa [kI ha] at this
 ·have:=tG S (t:=to) hto ({ S with now:=to }:Sal) rfl rfl rfl
  have:=hR.alen
  show (_:Int)<=S.C.tokens
  omega
theorem nB {k:Nat}:∀ (n:Nat) (S:Sal),((yJ n S).os.getD k qD).state=12->(yJ n S).os.getD k qD=S.os.getD k qD
 | 0,_,_=>rfl
 | n+1,S,h=>by
   unfold yJ at h ⊢
   split
   ·rfl
   ·next q qs hq =>
    split
    ·rfl
    ·next hf =>
     rw [hq] at h
     simp only at h
     rw [uP hf] at h
     obtain ⟨_,hl,hs⟩:=jY hq qD vO
     have ih:=nB n (S.holds q) h
     rw [ih] at h ⊢
     have hg:(S.holds q).os.getD k qD=if k=q then { S.os.getD q qD with state:=13,cents:=(S.put q { S.os.getD q qD with state:=13 }).price,upto:=S.now+S.C.lease } else S.os.getD k qD:=zK _ hl
     rw [hg] at h ⊢
     by_cases e:k=q
     ·rw [uQ e] at h;exact absurd h (by show ¬ (13:Int)=12;decide)
     ·rw [uP e]
theorem Dr {k:Nat} (S:Sal) (h:((S.past 13 15).os.getD k qD).state=12):(S.past 13 15).os.getD k qD=S.os.getD k qD:=by
 unfold Sal.past at h ⊢
 have e:=nB _ _ h
 have e':(zA S 13 15 S.os.length).promote.os.getD k qD=(zA S 13 15 S.os.length).os.getD k qD:=e
 rw [e'] at h ⊢
 rw [lU S 13 15 _ (uA _)] at h ⊢
 split
 ·next hc=>rw [uQ hc] at h;exact absurd h (by show ¬ (15:Int)=12;decide)
 ·rfl
end
end
