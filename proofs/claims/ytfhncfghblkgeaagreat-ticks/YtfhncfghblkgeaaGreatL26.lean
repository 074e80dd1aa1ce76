import Derived.Test.YtfhncfghblkgeaaGreatL12
set_option maxRecDepth 100000
set_option maxHeartbeats 2000000
namespace Go.Proofs.YtfhncfghblkgeaaGreat
open Go.RowKit
section
def jl8 (os:List Ord) (to:Int):Nat->Int
 | 0=>-1
 | k+1=>if ((os.getD k ja3).state=13\/(os.getD k ja3).state=12)/\(os.getD k ja3).upto<=to/\(jl8 os to k<0\/(os.getD k ja3).upto<jl8 os to k) then (os.getD k ja3).upto else jl8 os to k
def Sal.due (S:Sal) (to:Int):Int:=jl8 S.os to S.os.length
theorem qbe (R:Nat) (v:Value) (os:List Ord) (to:Int) (w:World) (h9:w.cell? (aq R 9)=some v) (hd:jre w v os) (hl:os.length * 48<=140737488355328) :
 Calls Tryz.prog 127 #[pt R 0,iv to] w fun e w'=>e=.returned (iv (jl8 os to os.length))/\Below w.heap.size w w':=by
 obtain ⟨a,cp,rfl,hc⟩:=hd
 have hRw:R<w.heap.size:=World.block_lt_of_cell? w _ h9
 have HC:Hid (0<os.length->∃ g,a=some (aq g 0)/\g<w.heap.size/\∀ i,i<os.length->jib w g i (os.getD i ja3)):=hc
 have H9:Hid (w.cell? (aq R 9)=some (.slice a os.length cp)):=h9
 clear hc h9
 go_enter Tryz.func127,Tryz.ntmps127
 go_wp2_with fail
 go_loopw [5,6] (fun t i wr=>∃ k:Nat,k<=os.length/\i=iv k/\t=iv (jl8 os to k)/\Below w.heap.size w wr) (fun _ i _=>os.length - (intOf i).toNat)
 case atStart=>exact ⟨0,Nat.zero_le _,rfl,rfl,Below.refl _ _⟩
 case round =>
  obtain ⟨k,hk,rfl,rfl,hbel⟩:=hrel
  have c9:=(hbel.cell (p:=(aq R 9)) hRw).trans H9.out
  have hRr:R<wr.heap.size:=Nat.lt_of_lt_of_le hRw hbel.size
  have hz:=hbel.size
  by_cases hlt:k<os.length
  ·obtain ⟨g,rfl,hgw,hcell⟩:=HC.out (by omega)
   obtain ⟨e0,e1,e2,e3,e4,e5⟩:=ji2 (hcell k hlt) hbel hgw
   have hgr:g<wr.heap.size:=Nat.lt_of_lt_of_le hgw hbel.size
   have HN:Hid (jl8 os to (k+1)=if ((os.getD k ja3).state=13\/(os.getD k ja3).state=12)/\(os.getD k ja3).upto<=to/\(jl8 os to k<0\/(os.getD k ja3).upto<jl8 os to k) then (os.getD k ja3).upto else jl8 os to k):=rfl
   have b0:(0:Int)<=(k:Int):=by omega
   have b1:(k:Int)<(os.length:Int):=by omega
   generalize os.getD k ja3=o at e0 e1 e2 e3 e4 e5 HN
   generalize hm1':jl8 os to (k+1)=m1 at HN
   have HK:Hid (jl8 os to (k+1)=m1):=hm1'
   generalize jl8 os to k=m at HN
   clear hm1'
   obtain ⟨ocust,ounits,ostate,ocents,oupto,oended⟩:=o
   simp only at e0 e1 e2 e3 e4 e5 HN
   clear hcell HC
   by_cases h13:ostate=13
   ·subst h13
    by_cases hle:oupto<=to
    ·have d1:decide (oupto<=to)=true:=by simpa using hle
     by_cases hng:m<0
     ·have d2:decide (m<0)=true:=by simpa using hng
      have hm2:m1=oupto:=by have:=HN.out;rw [if_pos ⟨by simp,hle,.inl hng⟩] at this;exact this
      subst hm2
      go_wp2
      exact ⟨⟨k+1,by omega,by go_num,by rw [HK.out],bL⟩,by simp [intOf];omega⟩
     ·have d2:decide (m<0)=false:=by simpa using hng
      by_cases hl2:oupto<m
      ·have d3:decide (oupto<m)=true:=by simpa using hl2
       have hm2:m1=oupto:=by have:=HN.out;rw [if_pos ⟨by simp,hle,.inr hl2⟩] at this;exact this
       subst hm2
       go_wp2
       exact ⟨⟨k+1,by omega,by go_num,by rw [HK.out],bL⟩,by simp [intOf];omega⟩
      ·have d3:decide (oupto<m)=false:=by simpa using hl2
       have hm2:m1=m:=by have:=HN.out;rw [if_neg (fun c=>c.2.2.elim hng hl2)] at this;exact this
       subst hm2
       go_wp2
       exact ⟨⟨k+1,by omega,by go_num,by rw [HK.out],bL⟩,by simp [intOf];omega⟩
    ·have d1:decide (oupto<=to)=false:=by simpa using hle
     have hm2:m1=m:=by have:=HN.out;rw [if_neg (fun c=>hle c.2.1)] at this;exact this
     subst hm2
     go_wp2
     exact ⟨⟨k+1,by omega,by go_num,by rw [HK.out],bL⟩,by simp [intOf];omega⟩
   ·have q13:(ostate==13)=false:=by simpa using h13
    by_cases h12:ostate=12
    ·subst h12
     clear q13 h13
     by_cases hle:oupto<=to
     ·have d1:decide (oupto<=to)=true:=by simpa using hle
      by_cases hng:m<0
      ·have d2:decide (m<0)=true:=by simpa using hng
       have hm2:m1=oupto:=by have:=HN.out;rw [if_pos ⟨by simp,hle,.inl hng⟩] at this;exact this
       subst hm2
       go_wp2
       exact ⟨⟨k+1,by omega,by go_num,by rw [HK.out],bL⟩,by simp [intOf];omega⟩
      ·have d2:decide (m<0)=false:=by simpa using hng
       by_cases hl2:oupto<m
       ·have d3:decide (oupto<m)=true:=by simpa using hl2
        have hm2:m1=oupto:=by have:=HN.out;rw [if_pos ⟨by simp,hle,.inr hl2⟩] at this;exact this
        subst hm2
        go_wp2
        exact ⟨⟨k+1,by omega,by go_num,by rw [HK.out],bL⟩,by simp [intOf];omega⟩
       ·have d3:decide (oupto<m)=false:=by simpa using hl2
        have hm2:m1=m:=by have:=HN.out;rw [if_neg (fun c=>c.2.2.elim hng hl2)] at this;exact this
        subst hm2
        go_wp2
        exact ⟨⟨k+1,by omega,by go_num,by rw [HK.out],bL⟩,by simp [intOf];omega⟩
     ·have d1:decide (oupto<=to)=false:=by simpa using hle
      have hm2:m1=m:=by have:=HN.out;rw [if_neg (fun c=>hle c.2.1)] at this;exact this
      subst hm2
      go_wp2
      exact ⟨⟨k+1,by omega,by go_num,by rw [HK.out],bL⟩,by simp [intOf];omega⟩
    ·have q12:(ostate==12)=false:=by simpa using h12
     have hm2:m1=m:=by have:=HN.out;rw [if_neg (fun c=>c.1.elim h13 h12)] at this;exact this
     subst hm2
     go_wp2
     exact ⟨⟨k+1,by omega,by go_num,by rw [HK.out],bL⟩,by simp [intOf];omega⟩
  ·have hke:k=os.length:=by omega
   subst hke
   go_wp2
   go_ret
   exact ⟨rfl,hbel⟩
section
variable {w:World} {B R:Nat} {S:Sal} {ap:Option Addr} {lp cp:Nat} {vo va:Value}
theorem jqm (h:saleAt w B R S ap lp cp vo va) (hl:S.os.length * 48+48<=140737488351232) (to:Int) :
 ∀ W,Below w.heap.size w W->Calls Tryz.prog 127 #[pt R 0,iv to] W fun e w'=>e=.returned (iv (S.due to))/\Below W.heap.size W w':=by
 intro W hW
 have h':=ja9 h hW
 exact qbe R vo S.os to W (by rw [Joins.cell_of_block h'.blk];rfl) (jed h'.os) (by omega)
end
end
section
def jb9 (S:Sal) (st en:Int):Nat->Sal
 | 0=>S
 | k+1=>if ((jb9 S st en k).os.getD k ja3).state=st/\((jb9 S st en k).os.getD k ja3).upto=S.now then (jb9 S st en k).ends k en else jb9 S st en k
def Sal.past (S:Sal) (st en:Int):Sal:=(jb9 S st en S.os.length).promote
theorem jwv (R n cp:Nat) (a:Option Addr) (st en now:Int) (w:World) (hn:n * 48<=140737488355328) (Q:Nat->World->Prop) (P:World->Prop) (sts ups:Nat->Int) (h0:Q 0 w)
 (HQ:Hid (∀ k W,Q k W->W.cell? (aq R 9)=some (.slice a n cp)/\W.cell? (aq R 8)=some (iv now)/\R<W.heap.size/\(k<n->∃ g,a=some (aq g 0)/\g<W.heap.size/\W.cell? (aq g (k * 6+2))=some (iv (sts k))/\W.cell? (aq g (k * 6+4))=some (iv (ups k)))))
 (HE:Hid (∀ k W,k<n->sts k=st/\ups k=now->Q k W->Calls Tryz.prog 152 #[pt R 0,iv k,iv en] W fun e w'=>e=.returned (.tuple #[])/\Q (k+1) w'))
 (HS:Hid (∀ k W,k<n->¬ (sts k=st/\ups k=now)->Q k W->Q (k+1) W))
 (HD:Hid (∀ k W W',Q k W->Below W.heap.size W W'->Q k W'))
 (HP:Hid (∀ W,Q n W->Calls Tryz.prog 153 #[pt R 0] W fun e w'=>e=.returned (.tuple #[])/\P w')) :
 Calls Tryz.prog 128 #[pt R 0,iv st,iv en] w fun e w'=>e=.returned (.tuple #[])/\P w':=by
 have H0:Hid (Q 0 w):=h0
 clear h0
 go_enter Tryz.func128,Tryz.ntmps128
 go_wp2_with fail
 go_loopw [6] (fun i wr=>∃ k:Nat,k<=n/\i=iv k/\Hid (Q k wr)) (fun i _=>n - (intOf i).toNat)
 case atStart=>exact ⟨0,Nat.zero_le _,rfl,H0⟩
 case round =>
  obtain ⟨k,hk,rfl,hq⟩:=hrel
  obtain ⟨c9,c8,hRr,hcell⟩:=HQ.out k wr hq.out
  by_cases hlt:k<n
  ·obtain ⟨g,rfl,hgr,e2,e4⟩:=hcell hlt
   have b0:(0:Int)<=(k:Int):=by omega
   have b1:(k:Int)<(n:Int):=by omega
   clear hcell
   by_cases hs:sts k=st
   ·have q1:(sts k==st)=true:=by simpa using hs
    by_cases hu:ups k=now
    ·have q2:(ups k==now)=true:=by simpa using hu
     have HEK:Hid (∀ W,Q k W->Calls Tryz.prog 152 #[pt R 0,iv k,iv en] W fun e w'=>e=.returned (.tuple #[])/\Q (k+1) w'):=fun W=>HE.out k W hlt ⟨hs,hu⟩
     clear hs hu
     generalize sts k=sk at e2 q1
     generalize ups k=uk at e4 q2
     go_wp2_with fail
     go_quiet (fail)
     go_wp2_with (go_at_call 152;refine (HEK.out _ (HD.out k wr _ hq.out bL)).mono ?_;rintro e w2 ⟨rfl,hq2⟩)
     exact ⟨⟨k+1,by omega,by go_num,hq2⟩,by simp [intOf];omega⟩
    ·have q2:(ups k==now)=false:=by simpa using hu
     have hq2:=HS.out k wr hlt (fun c=>hu c.2) hq.out
     clear hs hu
     generalize sts k=sk at e2 q1
     generalize ups k=uk at e4 q2
     go_wp2_with fail
     go_quiet (fail)
     go_wp2
     exact ⟨⟨k+1,by omega,by go_num,HD.out _ wr _ hq2 bL⟩,by simp [intOf];omega⟩
   ·have q1:(sts k==st)=false:=by simpa using hs
    have hq2:=HS.out k wr hlt (fun c=>hs c.1) hq.out
    clear hs
    generalize sts k=sk at e2 q1
    go_wp2_with fail
    go_quiet (fail)
    go_wp2
    exact ⟨⟨k+1,by omega,by go_num,HD.out _ wr _ hq2 bL⟩,by simp [intOf];omega⟩
  ·have hke:k=n:=by omega
   subst hke
   clear hcell
   go_wp2_with (go_at_call 153;refine (HP.out _ hq.out).mono ?_;rintro e w2 ⟨rfl,hq2⟩)
   go_end0
   exact ⟨rfl,hq2⟩
theorem jbw (S:Sal) (st en:Int):∀ k,(jb9 S st en k).os.length=S.os.length
 | 0=>rfl
 | k+1=>by
   have ih:=jbw S st en k
   unfold jb9
   split
   ·rw [jch];exact ih
   ·exact ih
theorem je3 (S:Sal) (st en:Int):∀ k,(jb9 S st en k).C=S.C/\(jb9 S st en k).now=S.now/\(jb9 S st en k).ansL=S.ansL
 | 0=>⟨rfl,rfl,rfl⟩
 | k+1=>by
   have ih:=je3 S st en k
   unfold jb9
   split
   ·exact ih
   ·exact ih
theorem jm9 {S:Sal} (h:salI S) (st en:Int) (hen:en≠12/\en≠13/\en≠14):∀ k,k<=S.os.length->salI (jb9 S st en k)
 | 0,_=>h
 | k+1,hk=>by
   have ih:=jm9 h st en hen k (by omega)
   unfold jb9
   split
   ·exact jil ih (by rw [jbw];omega) en (.inr hen) (fun e=>absurd e hen.2.2)
   ·exact ih
section
variable {w:World} {B R:Nat} {S:Sal} {ap:Option Addr} {lp cp:Nat} {vo va:Value}
theorem jo5 (h:saleAt w B R S ap lp cp vo va) (hI:salI S) (hl:S.os.length * 48+48<=140737488351232) (st en:Int) (hen:en≠12/\en≠13/\en≠14) :
 Calls Tryz.prog 128 #[pt R 0,iv st,iv en] w fun e w'=>e=.returned (.tuple #[])/\jd4 w w' B R (S.past st en) ap lp cp vo va S.os.length:=by
 obtain ⟨oo,oc,hvo⟩:=jc7 h.os
 have hnow:∀ k,(jb9 S st en k).now=S.now:=fun k=>(je3 S st en k).2.1
 refine jwv R S.os.length oc oo st en S.now w (by omega) (fun k W=>k<=S.os.length/\jd4 w W B R (jb9 S st en k) ap lp cp vo va S.os.length) _ (fun k=>((jb9 S st en k).os.getD k ja3).state) (fun k=>((jb9 S st en k).os.getD k ja3).upto) ⟨Nat.zero_le _,jdr h hI (Below.refl _ _)⟩ (fun k W hW=>?_) (fun k W hk hc hW=>?_) (fun k W hk hc hW=>?_) (fun k W W' hW hb=>⟨hW.1,jgr hW.2 hb⟩) (fun W hW=>?_)
 ·obtain ⟨_,_,_,_,_,_,_,_,x8,x9,_⟩:=jcf hW.2.1.blk
  rw [hnow] at x8
  rw [hvo] at x9
  refine ⟨x9,x8,World.block_lt_of_cell? W _ x9,fun hk=>?_⟩
  obtain ⟨g,cap,hv,hg,_,_,ho,_⟩:=jm0 hW.2.1 (i:=k) (by rw [jbw];exact hk)
  rw [hvo] at hv
  simp at hv
  exact ⟨g,hv.1,hg,ho.2.2.1,ho.2.2.2.2.1⟩
 ·refine (jhh hW.2.1 (i:=k) (by rw [jbw];exact hk) en W (Below.refl _ _)).mono ?_
  rintro e w' ⟨rfl,a1,a2⟩
  have e1:jb9 S st en (k+1)=(jb9 S st en k).ends k en:=by rw [jb9,if_pos hc]
  rw [← e1] at a1
  exact ⟨rfl,hk,a1,jm9 hI st en hen _ hk,jbw S st en _,Same.trans hW.2.2.2.2 a2 (fun k _ e=>e.elim id id)⟩
 ·have e1:jb9 S st en (k+1)=jb9 S st en k:=by rw [jb9,if_neg hc]
  rw [e1]
  exact ⟨hk,hW.2⟩
 ·obtain ⟨_,b1,b2,b3,b4⟩:=hW
  refine (jg7 B R _ ap lp cp vo va W b1 b2 (by rw [b3];exact hl)).mono ?_
  rintro e w' ⟨rfl,a1,a2,a3⟩
  exact ⟨rfl,a1,a2,(jc4 _).trans b3,Same.trans b4 a3 (fun k _ e=>e.elim id id)⟩
end
end
def Ord.wt (o:Ord):Nat:=if o.state=12 then 2 else if o.state=13 then 1 else 0
def jbn (os:List Ord):Nat:=(os.map Ord.wt).sum
theorem juj {os:List Ord} {i:Nat} (h:i<os.length) (o:Ord):jbn (os.set i o)+(os.getD i ja3).wt=jbn os+o.wt:=by
 have e:os=os.take i++os.getD i ja3 :: os.drop (i+1):=by
  have:=List.drop_eq_getElem_cons h
  have g:os.getD i ja3=os[i]:=by simp [List.getD,List.getElem?_eq_getElem h]
  rw [g,← this,List.take_append_drop]
 have e1:jbn os=jbn (os.take i)+((os.getD i ja3).wt+jbn (os.drop (i+1))):=by
  conv=>lhs;rw [e]
  simp [jbn]
 have e2:jbn (os.set i o)=jbn (os.take i)+(o.wt+jbn (os.drop (i+1))):=by
  rw [List.set_eq_take_append_cons_drop,if_pos h]
  simp [jbn]
 omega
theorem qf6 {o:Ord} {st now:Int} (h:st≠12/\st≠13):({ o with state:=st,ended:=now }:Ord).wt=0:=by
 unfold Ord.wt
 rw [if_neg h.1,if_neg h.2]
theorem jvc {S:Sal} {q:Nat} (hq:q<S.os.length) (hw:(S.os.getD q ja3).state=12):jbn (S.holds q).os<jbn S.os:=by
 have h1:=juj hq { S.os.getD q ja3 with state:=13,cents:=(S.put q { S.os.getD q ja3 with state:=13 }).price,upto:=S.now+S.C.lease }
 have h2:(S.os.getD q ja3).wt=2:=by unfold Ord.wt;rw [if_pos hw]
 have h3:({ S.os.getD q ja3 with state:=13,cents:=(S.put q { S.os.getD q ja3 with state:=13 }).price,upto:=S.now+S.C.lease }:Ord).wt=1:=by unfold Ord.wt;rw [if_neg (by show ¬ (13:Int)=12;decide),if_pos rfl]
 show jbn (S.os.set q _)<_
 omega
theorem jig:∀ (n:Nat) (S:Sal),jbn (jax n S).os<jbn S.os\/jax n S=S
 | 0,_=>.inr rfl
 | n+1,S=>by
   unfold jax
   split
   ·exact .inr rfl
   ·next q qs hq =>
    split
    ·exact .inr rfl
    ·obtain ⟨_,hql,hqw⟩:=jcl hq ja3 (by decide)
     have h1:=jvc hql hqw
     rcases jig n (S.holds q) with h|h
     ·exact .inl (by omega)
     ·rw [h];exact .inl h1
theorem jl4 (S:Sal):jbn S.promote.os<jbn S.os\/S.promote=S:=jig _ S
theorem jjl {S:Sal} {i:Nat} (hi:i<S.os.length) {st en:Int} (hst:st=12\/st=13) (hs:(S.os.getD i ja3).state=st) (hen:en≠12/\en≠13):jbn (S.ends i en).os<jbn S.os:=by
 have h1:=juj hi { S.os.getD i ja3 with state:=en,ended:=S.now }
 have h2:1<=(S.os.getD i ja3).wt:=by
  unfold Ord.wt
  rcases hst with rfl|rfl
  ·rw [if_pos hs];omega
  ·rw [if_neg (by rw [hs];decide),if_pos hs];omega
 rw [qf6 hen] at h1
 show jbn (S.os.set i _)<_
 omega
theorem jkm (S:Sal) {st en:Int} (hst:st=12\/st=13) (hen:en≠12/\en≠13):∀ k,k<=S.os.length->jbn (jb9 S st en k).os<jbn S.os\/jb9 S st en k=S
 | 0,_=>.inr rfl
 | k+1,hk=>by
   have ih:=jkm S hst hen k (by omega)
   unfold jb9
   split
   ·next hc =>
    have h1:=jjl (S:=jb9 S st en k) (i:=k) (by rw [jbw];omega) hst hc.1 hen
    rcases ih with h|h
    ·exact .inl (by omega)
    ·rw [h] at h1 ⊢;exact .inl h1
   ·exact ih
theorem jp6 {S:Sal} {st en:Int} (hst:st=12\/st=13) (hen:en≠12/\en≠13) {i:Nat} (hi:i<S.os.length) (hs:(S.os.getD i ja3).state=st) (hu:(S.os.getD i ja3).upto=S.now):jbn (jb9 S st en S.os.length).os<jbn S.os:=by
 have key:∀ k,i<k->k<=S.os.length->jbn (jb9 S st en k).os<jbn S.os:=by
  intro k
  induction k with
  | zero=>intro h;omega
  | succ k ih =>
    intro h1 h2
    by_cases e:i<k
    ·have:=ih e (by omega)
     unfold jb9
     split
     ·next hc =>
      have:=jjl (S:=jb9 S st en k) (i:=k) (by rw [jbw];omega) hst hc.1 hen
      omega
     ·exact this
    ·have e':i=k:=by omega
     subst e'
     rcases jkm S hst hen i (by omega) with h|h
     ·unfold jb9
      split
      ·next hc =>
       have:=jjl (S:=jb9 S st en i) (i:=i) (by rw [jbw];omega) hst hc.1 hen
       omega
      ·exact h
     ·unfold jb9
      rw [h,if_pos ⟨hs,hu⟩]
      exact jjl hi hst hs hen
 exact key _ hi (Nat.le_refl _)
theorem jrj (S:Sal) {st en:Int} (hst:st=12\/st=13) (hen:en≠12/\en≠13):jbn (S.past st en).os<jbn S.os\/S.past st en=S:=by
 unfold Sal.past
 rcases jl4 (jb9 S st en S.os.length) with h1|h1<;>rcases jkm S hst hen _ (Nat.le_refl _) with h2|h2
 ·exact .inl (by omega)
 ·rw [h2] at h1;exact .inl (by rw [h2];exact h1)
 ·rw [h1];exact .inl h2
 ·rw [h1,h2];exact .inr rfl
theorem jkz {S:Sal} {st en:Int} (hst:st=12\/st=13) (hen:en≠12/\en≠13) {i:Nat} (hi:i<S.os.length) (hs:(S.os.getD i ja3).state=st) (hu:(S.os.getD i ja3).upto=S.now):jbn (S.past st en).os<jbn S.os:=by
 have h2:=jp6 hst hen hi hs hu
 unfold Sal.past
 rcases jl4 (jb9 S st en S.os.length) with h1|h1
 ·omega
 ·rw [h1];exact h2
theorem jjx (os:List Ord) (to:Int):∀ k,k<=os.length->0<=jl8 os to k->∃ i,i<os.length/\((os.getD i ja3).state=13\/(os.getD i ja3).state=12)/\(os.getD i ja3).upto=jl8 os to k/\jl8 os to k<=to
 | 0,_,h=>by simp [jl8] at h
 | k+1,hk,h=>by
   have ih:=jjx os to k (by omega)
   unfold jl8 at h ⊢
   split
   ·next hc=>exact ⟨k,by omega,hc.1,rfl,hc.2.1⟩
   ·next hc=>rw [if_neg hc] at h;exact ih h
def Sal.round (S:Sal) (t:Int):Sal:=((({ S with now:=t }:Sal).past 13 15).past 12 17)
theorem jl9 {S:Sal} {to:Int} (h:0<=S.due to):jbn (S.round (S.due to)).os<jbn S.os:=by
 obtain ⟨i,hi,hs,hu,_⟩:=jjx S.os to S.os.length (Nat.le_refl _) h
 have hu':(S.os.getD i ja3).upto=S.due to:=hu
 generalize S.due to=t at hu'
 unfold Sal.round
 have e2:=jrj (({ S with now:=t }:Sal).past 13 15) (st:=12) (en:=17) (.inl rfl) (by decide)
 rcases hs with hs|hs
 ·have h1:=jkz (S:={ S with now:=t }) (st:=13) (en:=15) (.inr rfl) (by decide) hi hs hu'
  have h1':jbn (({ S with now:=t }:Sal).past 13 15).os<jbn S.os:=h1
  rcases e2 with h2|h2
  ·omega
  ·rw [h2];exact h1'
 ·rcases jrj ({ S with now:=t }:Sal) (st:=13) (en:=15) (.inr rfl) (by decide) with h1|h1
  ·have h1':jbn (({ S with now:=t }:Sal).past 13 15).os<jbn S.os:=h1
   rcases e2 with h2|h2
   ·omega
   ·rw [h2];exact h1'
  ·rw [h1]
   exact jkz (S:={ S with now:=t }) (st:=12) (en:=17) (.inl rfl) (by decide) hi hs hu'
def jg0:Nat->Sal->Int->Sal
 | 0,S,to=>{ S with now:=to }
 | n+1,S,to=>if S.due to<0 then { S with now:=to } else jg0 n (S.round (S.due to)) to
def Sal.tickTo (S:Sal) (to:Int):Sal:=jg0 (jbn S.os) S to
theorem jkj:∀ (n:Nat) (S:Sal) (to:Int),jbn S.os<=n->jg0 n S to=jg0 (jbn S.os) S to
 | 0,S,to,h=>by
   have e:jbn S.os=0:=by omega
   rw [e]
 | n+1,S,to,h=>by
   by_cases hd:S.due to<0
   ·rw [jg0,if_pos hd]
    cases hl:jbn S.os with
    | zero=>rfl
    | succ m=>rw [jg0,if_pos hd]
   ·have hlt:=jl9 (S:=S) (to:=to) (by omega)
    cases hl:jbn S.os with
    | zero=>omega
    | succ m =>
      rw [jg0,if_neg hd,jg0,if_neg hd,jkj n _ to (by omega),jkj m _ to (by omega)]
theorem js2 {S:Sal} {to:Int} (h:S.due to<0):S.tickTo to={ S with now:=to }:=by
 unfold Sal.tickTo
 cases jbn S.os with
 | zero=>rfl
 | succ m=>rw [jg0,if_pos h]
theorem qab {S:Sal} {to:Int} (h:¬ S.due to<0):S.tickTo to=(S.round (S.due to)).tickTo to:=by
 have hlt:=jl9 (S:=S) (to:=to) (by omega)
 unfold Sal.tickTo
 cases hl:jbn S.os with
 | zero=>omega
 | succ m=>rw [jg0,if_neg h,jkj m _ to (by omega)]
theorem jjc (S:Sal) (st en:Int):(S.past st en).os.length=S.os.length:=(jc4 _).trans (jbw S st en _)
theorem juq {S:Sal} (h:salI S) (st en:Int) (hen:en≠12/\en≠13/\en≠14):salI (S.past st en):=ji4 _ (jm9 h st en hen _ (Nat.le_refl _))
def Sal.tick (S:Sal) (n:Int):(Int × Int) × Sal :=
 if n<0 then ((0,3),S)
 else if n<4611686018427387904 - S.now then ((S.now+n,0),S.tickTo (S.now+n))
 else ((4611686018427387904,0),S.tickTo 4611686018427387904)
section
section
variable {w w':World} {B R:Nat} {S:Sal} {ap:Option Addr} {lp cp:Nat} {vo va:Value}
theorem jug (h:saleAt w B R S ap lp cp vo va) (hBR:B<=R) (t:Int):saleAt (w.setCell (aq R 8) (iv t)) B R { S with now:=t } ap lp cp vo va/\Same (fun b=>b=R) w (w.setCell (aq R 8) (iv t)):=by
 have hs:Same (fun b=>b=R) w (w.setCell (aq R 8) (iv t)):=⟨rfl,rfl,rfl,by simp [World.setCell],fun k _ hn=>Below.heap_setCell _ (aq R 8) _ _ hn⟩
 refine ⟨⟨Joins.block_setCell h.blk _,jh4 h.tiers hs (fun b off e=>?_),h.low,jac h.os (fun k hk=>hs.block k (World.ownsRow.lt h.os k hk).2 (fun e=>jak h.os h.blk (by decide) (e▸hk))),jac h.ansL (fun k hk=>hs.block k (World.ownsRow.lt h.ansL k hk).2 (fun e=>jak h.ansL h.blk (by decide) (e▸hk)))⟩,hs⟩
 have:=h.low b off e
 show b≠R
 omega
theorem jlg (h:salI S) {t:Int} (ht:0<=t/\t<=4611686018427387904):salI { S with now:=t }:=⟨h.units,h.stock,h.cap,h.cfg,ht,h.ords,h.prices⟩
end
open Classical in
noncomputable def liveAt (B R:Nat) (ap:Option Addr) (lp cp:Nat) (vo va:Value) (w:World):Nat:=if h:∃ S:Sal,saleAt w B R S ap lp cp vo va then jbn (Classical.choose h).os else 0
theorem jqh {w:World} {B R:Nat} {S:Sal} {ap:Option Addr} {lp cp:Nat} {vo va:Value} (h:saleAt w B R S ap lp cp vo va):liveAt B R ap lp cp vo va w=jbn S.os:=by
 have hx:∃ S:Sal,saleAt w B R S ap lp cp vo va:=⟨S,h⟩
 unfold liveAt
 rw [dif_pos hx,jy2 (Classical.choose_spec hx) h]
def jmj (w wr:World) (B R:Nat) (S S':Sal) (to:Int) (ap:Option Addr) (lp cp:Nat) (vo va:Value):Prop :=
 saleAt wr B R S' ap lp cp vo va/\salI S'/\S'.tickTo to=S.tickTo to/\S'.os.length=S.os.length/\Same (fun b=>b=R\/vo.ownBlock=some b) w wr
def jgt (w w':World) (B R:Nat) (S':Sal) (ap:Option Addr) (lp cp:Nat) (vo va:Value) (n:Nat):Prop :=
 saleAt w' B R S' ap lp cp vo va/\salI S'/\S'.os.length=n/\Same (fun b=>b=R\/vo.ownBlock=some b) w w'
section
variable {w wr:World} {B R:Nat} {S S':Sal} {ap:Option Addr} {lp cp:Nat} {vo va:Value} {to:Int}
theorem jup (h:jmj w wr B R S S' to ap lp cp vo va) (hBR:B<=R) (hto:0<=to/\to<=4611686018427387904) (hd:S'.due to<0):∀ W,Below wr.heap.size wr W->jgt w (W.setCell (aq R 8) (iv to)) B R (S.tickTo to) ap lp cp vo va S.os.length:=fun W hW=>by
 obtain ⟨h1,h2,h3,h4,h5⟩:=h
 rw [← h3,js2 hd]
 obtain ⟨a,b⟩:=jug (ja9 h1 hW) hBR to
 exact ⟨a,jlg h2 hto,h4,Same.trans (Same.trans h5 (Same.of_below (own:=fun _=>False) hW) (fun k _ e=>e.elim id False.elim)) b (fun k _ e=>e.elim id .inl)⟩
theorem ju9 (h:jmj w wr B R S S' to ap lp cp vo va) (hBR:B<=R) (hto:0<=to/\to<=4611686018427387904) (hl:S.os.length * 48+48<=140737488351232) (hd:¬ S'.due to<0) :
 ∃ A1 A2:World->Prop,(∀ W,Below wr.heap.size wr W->Calls Tryz.prog 128 #[pt R 0,iv 13,iv 15] (W.setCell (aq R 8) (iv (S'.due to))) fun e w'=>e=.returned (.tuple #[])/\A1 w')/\(∀ W,A1 W->Calls Tryz.prog 128 #[pt R 0,iv 12,iv 17] W fun e w'=>e=.returned (.tuple #[])/\A2 w')/\∀ W,A2 W->jmj w W B R S (S'.round (S'.due to)) to ap lp cp vo va/\liveAt B R ap lp cp vo va W<liveAt B R ap lp cp vo va wr:=by
 obtain ⟨h1,h2,h3,h4,h5⟩:=h
 obtain ⟨_,_,_,_,hle⟩:=jjx S'.os to S'.os.length (Nat.le_refl _) (show 0<=S'.due to by omega)
 have hle':S'.due to<=to:=hle
 have hlt:=jl9 (S:=S') (to:=to) (by omega)
 have hgo:=qab (S:=S') (to:=to) hd
 generalize S'.due to=t at hd hle' hlt hgo
 have hI1:salI { S' with now:=t }:=jlg h2 ⟨by omega,by omega⟩
 refine ⟨fun W=>jgt w W B R (({ S' with now:=t }:Sal).past 13 15) ap lp cp vo va S.os.length,fun W=>jgt w W B R (S'.round t) ap lp cp vo va S.os.length,fun W hW=>?_,fun W hW=>?_,fun W hW=>?_⟩
 ·obtain ⟨a,b⟩:=jug (ja9 h1 hW) hBR t
  refine (jo5 a hI1 (by show S'.os.length * 48+48<=_;omega) 13 15 (by decide)).mono ?_
  rintro e w' ⟨rfl,c1,c2,c3,c4⟩
  exact ⟨rfl,c1,c2,c3.trans h4,Same.trans (Same.trans (Same.trans h5 (Same.of_below (own:=fun _=>False) hW) (o:=fun b=>b=R\/vo.ownBlock=some b) (fun k _ e=>e.elim id False.elim)) b (o:=fun b=>b=R\/vo.ownBlock=some b) (fun k _ e=>e.elim id .inl)) c4 (fun k _ e=>e.elim id .inr)⟩
 ·obtain ⟨c1,c2,c3,c4⟩:=hW
  refine (jo5 c1 c2 (by rw [c3];exact hl) 12 17 (by decide)).mono ?_
  rintro e w' ⟨rfl,d1,d2,d3,d4⟩
  exact ⟨rfl,d1,d2,d3.trans c3,Same.trans c4 d4 (fun k _ e=>e.elim id .inr)⟩
 ·obtain ⟨c1,c2,c3,c4⟩:=hW
  refine ⟨⟨c1,c2,by rw [← hgo];exact h3,c3,c4⟩,?_⟩
  rw [jqh c1,jqh h1]
  exact hlt
end
theorem jyk (R:Nat) (n:Int) (w:World) (hn:n<0) :
 Calls Tryz.prog 89 #[pt R 0,iv n] w fun e w'=>e=.returned (.tuple #[iv 0,iv 3])/\Below w.heap.size w w':=by
 have hd:decide (n<0)=true:=by simpa using hn
 go_enter Tryz.func89,Tryz.ntmps89
 go_wp2
 refine bodyPost_ret (v:=.tuple #[iv 0,iv 3]) (by simp [results,Tryz.results89,go_sem]) rfl ⟨rfl,?_⟩
 exact Below.refl _ _
theorem jwt (B R:Nat) (S:Sal) (ap:Option Addr) (lp cp:Nat) (vo va:Value) (w:World) (n to:Int) (h:saleAt w B R S ap lp cp vo va) (hI:salI S) (hBR:B<=R) (hl:S.os.length * 48+48<=140737488351232) (hn:¬ n<0) (hn2:n<=9223372036854775807) (hlt:n<4611686018427387904 - S.now) (hto:to=S.now+n) :
 Calls Tryz.prog 89 #[pt R 0,iv n] w fun e w'=>e=.returned (.tuple #[iv to,iv 0])/\jgt w w' B R (S.tickTo to) ap lp cp vo va S.os.length:=by
 have hd0:decide (n<0)=false:=by simpa using hn
 obtain ⟨_,_,_,_,_,_,_,_,c8,_⟩:=jcf h.blk
 have hRw:R<w.heap.size:=(blt h.blk)
 have hnow:=hI.now
 have hw1:IntKind.i64.wrap (4611686018427387904 - S.now)=4611686018427387904 - S.now:=jag (by omega) (by omega)
 subst hto
 have hd1:decide (n<4611686018427387904 - S.now)=true:=by simpa using hlt
 have hw2:IntKind.i64.wrap (S.now+n)=S.now+n:=jag (by omega) (by omega)
 have hto:0<=S.now+n/\S.now+n<=4611686018427387904:=by omega
 have H0:Hid (jmj w w B R S S (S.now+n) ap lp cp vo va):=⟨h,hI,rfl,rfl,⟨rfl,rfl,rfl,Nat.le_refl _,fun _ _ _=>rfl⟩⟩
 clear h hI
 go_enter Tryz.func89,Tryz.ntmps89
 go_wp2_with fail
 clear c8 hw1 hd0 hd1 hw2
 go_loopw [7] (fun _ wr=>∃ S':Sal,Hid (jmj w wr B R S S' (S.now+n) ap lp cp vo va)) (fun _ wr=>liveAt B R ap lp cp vo va wr)
 case atStart=>exact ⟨S,H0⟩
 case round =>
  obtain ⟨S',HS⟩:=hrel
  have r8:=(jcf HS.out.1.blk).2.2.2.2.2.2.2.2.1
  have hRr:R<wr.heap.size:=(blt HS.out.1.blk)
  have HDU:Hid (∀ W,Below wr.heap.size wr W->Calls Tryz.prog 127 #[pt R 0,iv (S.now+n)] W fun e w'=>e=.returned (iv (S'.due (S.now+n)))/\Below W.heap.size W w'):=jqm HS.out.1 (by rw [HS.out.2.2.2.1];exact hl) (S.now+n)
  have HBK:Hid (∀ W,Below wr.heap.size wr W->W.frozen? (aq R 8)=false/\W.cell? (aq R 8)=some (iv S'.now)):=fun W hW=>⟨ja0 ((hW.block R hRr).trans HS.out.1.blk) 8,(hW.cell (p:=(aq R 8)) hRr).trans r8⟩
  by_cases hd:S'.due (S.now+n)<0
  ·have HE:Hid (∀ W,Below wr.heap.size wr W->jgt w (W.setCell (aq R 8) (iv (S.now+n))) B R (S.tickTo (S.now+n)) ap lp cp vo va S.os.length):=jup HS.out hBR hto hd
   generalize S'.due (S.now+n)=t at hd HDU
   have hdt:decide (t<0)=true:=by simpa using hd
   clear HS r8
   go_wp2_with (first
    | (go_at_call 127;refine (HDU.out _ bL).mono ?_;rintro e w2 ⟨rfl,b2⟩
       obtain ⟨fz,cz⟩:=HBK.out w2 b2
       have hR2:R<w2.heap.size:=Nat.lt_of_lt_of_le hRr b2.size))
   refine bodyPost_ret (v:=.tuple #[iv (S.now+n),iv 0]) (by simp [results,Tryz.results89,go_sem]) rfl ⟨rfl,?_⟩
   exact HE.out w2 b2
  ·obtain ⟨A1,A2,HP1,HP2,HA2⟩:=ju9 HS.out hBR hto hl hd
   replace HP1:Hid _:=HP1
   replace HP2:Hid _:=HP2
   replace HA2:Hid _:=HA2
   generalize S'.round (S'.due (S.now+n))=S2 at HA2
   generalize S'.due (S.now+n)=t at hd HDU HP1
   have hdt:decide (t<0)=false:=by simpa using hd
   clear HS r8
   go_wp2_with (first
    | (go_at_call 127;refine (HDU.out _ bL).mono ?_;rintro e w2 ⟨rfl,b2⟩
       obtain ⟨fz,cz⟩:=HBK.out w2 b2
       have hR2:R<w2.heap.size:=Nat.lt_of_lt_of_le hRr b2.size)
    | (go_at_call 128;refine (HP1.out w2 b2).mono ?_;rintro e w3 ⟨rfl,a3⟩
       clear HP1)
    | (go_at_call 128;refine (HP2.out w3 a3).mono ?_;rintro e w4 ⟨rfl,a4⟩))
   exact ⟨⟨S2,(HA2.out w4 a4).1⟩,(HA2.out w4 a4).2⟩
theorem qa4 (B R:Nat) (S:Sal) (ap:Option Addr) (lp cp:Nat) (vo va:Value) (w:World) (n to:Int) (h:saleAt w B R S ap lp cp vo va) (hI:salI S) (hBR:B<=R) (hl:S.os.length * 48+48<=140737488351232) (hn:¬ n<0) (hlt:¬ n<4611686018427387904 - S.now) (hto:to=4611686018427387904) :
 Calls Tryz.prog 89 #[pt R 0,iv n] w fun e w'=>e=.returned (.tuple #[iv to,iv 0])/\jgt w w' B R (S.tickTo to) ap lp cp vo va S.os.length:=by
 have hd0:decide (n<0)=false:=by simpa using hn
 obtain ⟨_,_,_,_,_,_,_,_,c8,_⟩:=jcf h.blk
 have hRw:R<w.heap.size:=(blt h.blk)
 have hnow:=hI.now
 have hw1:IntKind.i64.wrap (4611686018427387904 - S.now)=4611686018427387904 - S.now:=jag (by omega) (by omega)
 subst hto
 have hd1:decide (n<4611686018427387904 - S.now)=false:=by simpa using hlt
 have hto:(0:Int)<=4611686018427387904/\(4611686018427387904:Int)<=4611686018427387904:=by omega
 have H0:Hid (jmj w w B R S S 4611686018427387904 ap lp cp vo va):=⟨h,hI,rfl,rfl,⟨rfl,rfl,rfl,Nat.le_refl _,fun _ _ _=>rfl⟩⟩
 clear h hI
 go_enter Tryz.func89,Tryz.ntmps89
 go_wp2_with fail
 clear c8 hw1 hd0 hd1
 go_loopw [7] (fun _ wr=>∃ S':Sal,Hid (jmj w wr B R S S' 4611686018427387904 ap lp cp vo va)) (fun _ wr=>liveAt B R ap lp cp vo va wr)
 case atStart=>exact ⟨S,H0⟩
 case round =>
  obtain ⟨S',HS⟩:=hrel
  have r8:=(jcf HS.out.1.blk).2.2.2.2.2.2.2.2.1
  have hRr:R<wr.heap.size:=(blt HS.out.1.blk)
  have HDU:Hid (∀ W,Below wr.heap.size wr W->Calls Tryz.prog 127 #[pt R 0,iv 4611686018427387904] W fun e w'=>e=.returned (iv (S'.due 4611686018427387904))/\Below W.heap.size W w'):=jqm HS.out.1 (by rw [HS.out.2.2.2.1];exact hl) 4611686018427387904
  have HBK:Hid (∀ W,Below wr.heap.size wr W->W.frozen? (aq R 8)=false/\W.cell? (aq R 8)=some (iv S'.now)):=fun W hW=>⟨ja0 ((hW.block R hRr).trans HS.out.1.blk) 8,(hW.cell (p:=(aq R 8)) hRr).trans r8⟩
  by_cases hd:S'.due 4611686018427387904<0
  ·have HE:Hid (∀ W,Below wr.heap.size wr W->jgt w (W.setCell (aq R 8) (iv 4611686018427387904)) B R (S.tickTo 4611686018427387904) ap lp cp vo va S.os.length):=jup HS.out hBR hto hd
   generalize S'.due 4611686018427387904=t at hd HDU
   have hdt:decide (t<0)=true:=by simpa using hd
   clear HS r8
   go_wp2_with (first
    | (go_at_call 127;refine (HDU.out _ bL).mono ?_;rintro e w2 ⟨rfl,b2⟩
       obtain ⟨fz,cz⟩:=HBK.out w2 b2
       have hR2:R<w2.heap.size:=Nat.lt_of_lt_of_le hRr b2.size))
   refine bodyPost_ret (v:=.tuple #[iv 4611686018427387904,iv 0]) (by simp [results,Tryz.results89,go_sem]) rfl ⟨rfl,?_⟩
   exact HE.out w2 b2
  ·obtain ⟨A1,A2,HP1,HP2,HA2⟩:=ju9 HS.out hBR hto hl hd
   replace HP1:Hid _:=HP1
   replace HP2:Hid _:=HP2
   replace HA2:Hid _:=HA2
   generalize S'.round (S'.due 4611686018427387904)=S2 at HA2
   generalize S'.due 4611686018427387904=t at hd HDU HP1
   have hdt:decide (t<0)=false:=by simpa using hd
   clear HS r8
   go_wp2_with (first
    | (go_at_call 127;refine (HDU.out _ bL).mono ?_;rintro e w2 ⟨rfl,b2⟩
       obtain ⟨fz,cz⟩:=HBK.out w2 b2
       have hR2:R<w2.heap.size:=Nat.lt_of_lt_of_le hRr b2.size)
    | (go_at_call 128;refine (HP1.out w2 b2).mono ?_;rintro e w3 ⟨rfl,a3⟩
       clear HP1)
    | (go_at_call 128;refine (HP2.out w3 a3).mono ?_;rintro e w4 ⟨rfl,a4⟩))
   exact ⟨⟨S2,(HA2.out w4 a4).1⟩,(HA2.out w4 a4).2⟩
section
variable {w w':World} {B R:Nat} {S:Sal} {ap:Option Addr} {lp cp:Nat} {vo va:Value}
theorem jwc (h:saleAt w B R S ap lp cp vo va) (hI:salI S) (hBR:B<=R) (hl:S.os.length * 48+48<=140737488351232) (n:Int) (hn:n<=9223372036854775807) :
 Calls Tryz.prog 89 #[pt R 0,iv n] w fun e w'=>e=.returned (.tuple #[iv (S.tick n).1.1,iv (S.tick n).1.2])/\jgt w w' B R (S.tick n).2 ap lp cp vo va S.os.length:=by
 unfold Sal.tick
 by_cases h0:n<0
 ·rw [if_pos h0]
  exact (jyk R n w h0).mono (by rintro e w' ⟨rfl,hb⟩;exact ⟨rfl,ja9 h hb,hI,rfl,Same.of_below hb⟩)
 rw [if_neg h0]
 by_cases h1:n<4611686018427387904 - S.now
 ·rw [if_pos h1]
  exact jwt B R S ap lp cp vo va w n _ h hI hBR hl h0 hn h1 rfl
 ·rw [if_neg h1]
  exact qa4 B R S ap lp cp vo va w n _ h hI hBR hl h0 h1 rfl
end
end
end Go.Proofs.YtfhncfghblkgeaaGreat
