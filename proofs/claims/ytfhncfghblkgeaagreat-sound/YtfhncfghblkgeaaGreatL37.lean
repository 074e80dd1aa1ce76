import Derived.Test.YtfhncfghblkgeaaGreatL35
import Derived.Test.YtfhncfghblkgeaaGreatL36
set_option maxRecDepth 100000
set_option maxHeartbeats 2000000
namespace Go.Proofs.YtfhncfghblkgeaaGreat
open Go.RowKit
section
section
variable {w:World} {x:Nat} {own:Nat->Prop} {S:Sal} {last:Nat} {an:Int}
theorem saleK.put {S:Sal} (h:saleK S) {i:Nat} {o:Ord} (hI:salI (S.put i o)):saleK (S.put i o):=⟨hI,by show (S.os.set i o).length<=_;simpa using h.len,h.lease,h.wait,h.keep⟩
theorem jw0 (h:psx an x S last w own) (hK:saleK S) :
 Calls Tryz.prog 58 #[pt x 0] w fun e w'=>e=.returned (iv S.free)/\Below w.heap.size w w':=by
 obtain ⟨V,hm,hr,_⟩:=h
 have hB:=hr.bounds hK.I hK.len
 have:=qcd hm hB.stock hB.sold hB.held
 rw [hr.C,hr.sold,hr.held] at this
 exact this
theorem qa6 (h:psx an x S last w own) (hK:saleK S) :
 Calls Tryz.prog 154 #[pt x 0] w fun e w'=>e=.returned (iv S.left)/\Below w.heap.size w w':=by
 obtain ⟨V,hm,hr,_⟩:=h
 have hB:=hr.bounds hK.I hK.len
 have:=qd3 hm hB.stock hB.sold
 rw [hr.C,hr.sold] at this
 exact this
theorem jva (h:psx an x S last w own) :
 Calls Tryz.prog 178 #[pt x 0] w fun e w'=>e=.returned (iv S.price)/\Below w.heap.size w w':=by
 obtain ⟨V,hm,hr,_⟩:=h
 have:=qaz hm
 rw [hr.C,hr.sold] at this
 exact this
theorem jvn (h:psx an x S last w own) {i:Nat} (hi:S.knows i) :
 Calls Tryz.prog 131 #[pt x 11,iv ((i:Int)+1)] w fun e w'=>e=.returned (.tuple #[(jbp S.C i (S.os.getD i ja2)).val,.bool true])/\Below w.heap.size w w':=by
 obtain ⟨V,hm,hr,_⟩:=h
 obtain ⟨j,h1,h2⟩:=hr.known hi
 exact jn7 hm hr.ls.srt h2 h1
theorem jnc (h:psx an x S last w own) {num:Int} (hi:∀ i,S.knows i->num≠(i:Int)+1) :
 Calls Tryz.prog 131 #[pt x 11,iv num] w fun e w'=>e=.returned (.tuple #[pord0.val,.bool false])/\Below w.heap.size w w':=by
 obtain ⟨V,hm,hr,_⟩:=h
 exact jve hm hr.ls.srt (hr.strange hi)
theorem jmj (S:Sal) {i:Nat} (hi:i<S.os.length) (hs:(S.os.getD i ja2).state≠14):(S.put i { S.os.getD i ja2 with state:=13 }).price=S.price:=by
 unfold Sal.price
 show jd0 S.C.prices (ja3 (S.os.set i _) 14 0) _=_
 rw [jc5 hi,jlz,jlz,if_neg hs,if_neg (show ¬ (13:Int)=14 by decide)]
 rw [show ja3 S.os 14 0 - 0+0=ja3 S.os 14 0 by omega]
 rfl
theorem qd4 (h:psx an x S last w own) (hK:saleK S) {i:Nat} (hi:S.knows i) (hs:(S.os.getD i ja2).state=12) :
 Calls Tryz.prog 162 #[pt x 0,(jbp S.C i (S.os.getD i ja2)).val] w fun e w'=>e=.returned (POrd.val ⟨(i:Int)+1,(S.os.getD i ja2).cust,(S.os.getD i ja2).units,13,S.price,S.now+S.C.lease⟩)/\jar (psx an x (S.holds i) last) w w' own:=by
 have hw:=(jb6 an x S last).lt h
 refine qah x own (psx an x S last) (psx an x (S.holds i) last) (jb6 _ _ _ _) (jb6 _ _ _ _) _ _ _ _ _ _ S.price (S.now+S.C.lease) w hw h (fun W hW=>jfb (jb6 _ _ _ _) hw (fun W o hp=>jva hp) W hW) (fun W hW=>jcb hw (fun W o hp=>?_) W hW)
 have e:S.holds i=S.put i { S.os.getD i ja2 with state:=13,cents:=S.price,upto:=S.now+S.C.lease }:=by
  unfold Sal.holds
  rw [jmj S hi.1 (by rw [hs];decide)]
 rw [e]
 exact qa8 hp hK hi ⟨(i:Int)+1,(S.os.getD i ja2).cust,(S.os.getD i ja2).units,(S.os.getD i ja2).state,S.price,(S.os.getD i ja2).untl S.C⟩ rfl rfl rfl rfl 13 (by decide) _ rfl rfl rfl rfl (by unfold Ord.untl jao;rw [if_pos (.inr rfl),if_pos rfl])
def Sal.firstW (S:Sal):Option POrd:=match ja5 S.os with
 | []=>none
 | q :: _=>some (jbp S.C q (S.os.getD q ja2))
theorem qc6 (h:psx an x S last w own) :
 Calls Tryz.prog 161 #[pt x 0] w fun e w'=>e=.returned (.tuple #[(S.firstW.getD pord0).val,.bool S.firstW.isSome])/\Below w.heap.size w w':=by
 have K:=jb6 an x S last
 have hb:∀ W,Below w.heap.size w W->psx an x S last W own:=fun W hW=>K.keep h hW.size (fun k e=>hW.block k (K.lt h k e))
 cases hq:ja5 S.os with
 | nil =>
   have e:S.firstW=none:=by unfold Sal.firstW;rw [hq]
   rw [e]
   refine jxl x 0 w (fun W hW=>?_)
   obtain ⟨V,⟨g,hm⟩,hr,_⟩:=hb W hW
   have:=jn5 x 15 g.qt W (hm.cell 15 _ rfl) hm.qt.1
   rw [jer,hm.qt.2,(jkr hr.turns).2 hq] at this
   exact this
 | cons q qs =>
   have e:S.firstW=some (jbp S.C q (S.os.getD q ja2)):=by unfold Sal.firstW;rw [hq]
   obtain ⟨_,h1,h2⟩:=jcc hq ja2 (by decide)
   have hk:S.knows q:=⟨h1,.inl (.inl h2)⟩
   rw [e]
   refine jt4 x ((q:Int)+1) _ _ _ _ _ _ w (fun W hW=>?_) (fun W hW=>jvn (hb W hW) hk)
   obtain ⟨V,⟨g,hm⟩,hr,_⟩:=hb W hW
   have:=jn5 x 15 g.qt W (hm.cell 15 _ rfl) hm.qt.1
   have hn:V.qt≠[]:=fun c=>by
    have:=(jkr hr.turns).1 c
    rw [hq] at this
    cases this
   rw [jer,hm.qt.2,jp2 hr.turns hq,decide_eq_true hn] at this
   exact this
theorem jg8 (h:psx an x S last w own) (hK:saleK S) :
 Calls Tryz.prog 137 #[pt x 0] w fun e w'=>e=.returned (.tuple #[])/\jar (psx an x S.promote last) w w' own:=by
 have hsome:∀ (S:Sal) p,S.firstW=some p->∃ q qs,ja5 S.os=q :: qs/\p=jbp S.C q (S.os.getD q ja2)/\q<S.os.length/\(S.os.getD q ja2).state=12:=by
  intro S p e
  unfold Sal.firstW at e
  cases hq:ja5 S.os with
  | nil=>rw [hq] at e;cases e
  | cons q qs =>
    rw [hq] at e
    simp only [Option.some.injEq] at e
    obtain ⟨_,h1,h2⟩:=jcc hq ja2 (by decide)
    exact ⟨q,qs,rfl,e.symm,h1,h2⟩
 refine jqd x (fun S=>psx an x S last) (fun S=>jb6 an x S last) saleK Sal.firstW Sal.free (fun S=>S.holds ((ja5 S.os).headD 0)) Sal.promote (fun S=>(ja5 S.os).length) (fun S=>POrd.val ⟨((((ja5 S.os).headD 0:Nat):Int))+1,(S.os.getD ((ja5 S.os).headD 0) ja2).cust,(S.os.getD ((ja5 S.os).headD 0) ja2).units,13,S.price,S.now+S.C.lease⟩) (fun S p=>p.units<=S.free) (fun _ _=>Iff.rfl) (fun S _ W o hp=>qc6 hp) (fun S hK W o hp=>jw0 hp hK) (fun S p hK e hle W o hp=>?_) (fun S p hK e hle=>?_) (fun S hK hle=>?_) S w own hK h
 ·obtain ⟨q,qs,hq,rfl,h1,h2⟩:=hsome S p e
  simp only [hq,List.headD_cons]
  exact qd4 hp hK ⟨h1,.inl (.inl h2)⟩ h2
 ·obtain ⟨q,qs,hq,rfl,h1,h2⟩:=hsome S p e
  have hf:¬ S.free<(S.os.getD q ja2).units:=by
   have:(S.os.getD q ja2).units<=S.free:=hle
   omega
  simp only [hq,List.headD_cons]
  have hpr:0<=S.price/\S.price<=1073741824:=je8 hK.I.prices _ _ (Nat.le_refl _)
  have ho:=hK.I.ords _ (jb2 h1)
  refine ⟨hK.put (jov hK.I h1 h2 hf _ rfl rfl rfl ⟨?_,ho.2⟩),?_,(ju0 hq hf).symm⟩
  ·rw [jmj S h1 (by rw [h2];decide)];exact hpr
  ·rw [jfn hq];simp
 ·cases hq:ja5 S.os with
  | nil=>exact jlh hq
  | cons q qs =>
    refine jjs hq ?_
    have:=hle (jbp S.C q (S.os.getD q ja2)) (by unfold Sal.firstW;rw [hq])
    have:¬ (S.os.getD q ja2).units<=S.free:=this
    omega
theorem jjo {Z Z':List Ent} {os:List Ord} (h:jbr Z os) (h':jbr Z' os):Z=Z':=jrw h.1 h'.1 (fun e=>(h.2 e).trans (h'.2 e).symm)
def qc0:List Ent->Option Nat
 | []=>none
 | e :: _=>some (e.1.2 - 1).toNat
open Classical in
noncomputable def Sal.greatI (S:Sal):Option Nat:=if h:∃ Z,jbr Z S.os then qc0 (Classical.choose h) else none
noncomputable def Sal.greatW (S:Sal):Option POrd:=S.greatI.map (fun q=>jbp S.C q (S.os.getD q ja2))
theorem jok {Z:List Ent} (h:jbr Z S.os):S.greatI=qc0 Z:=by
 unfold Sal.greatI
 have hx:∃ Z,jbr Z S.os:=⟨Z,h⟩
 rw [dif_pos hx,jjo (Classical.choose_spec hx) h]
theorem jj2 {Z:List Ent} (h:jbr Z S.os):(ja5 S.os=[]/\Z=[]/\S.greatI=none)\/∃ i,S.greatI=some i/\Z≠[]/\i<S.os.length/\(S.os.getD i ja2).state=12/\Z.headD ((0,0),0)=((-(S.os.getD i ja2).units,(i:Int)+1),0)/\∀ j,j<S.os.length->(S.os.getD j ja2).state=12->(S.os.getD j ja2).units<=(S.os.getD i ja2).units:=by
 by_cases hz:Z=[]
 ·exact .inl ⟨(jlm h).1 hz,hz,by rw [jok h,hz];rfl⟩
 ·obtain ⟨i,a,b,c,d⟩:=jos h hz
  refine .inr ⟨i,?_,hz,a,b,c,d⟩
  rw [jok h]
  cases Z with
  | nil=>exact absurd rfl hz
  | cons e l =>
    have c':e=((-(S.os.getD i ja2).units,(i:Int)+1),0):=c
    rw [c']
    simp [qc0]
theorem qc8 (h:psx an x S last w own) :
 Calls Tryz.prog 175 #[pt x 0] w fun e w'=>e=.returned (.tuple #[(S.greatW.getD pord0).val,.bool S.greatW.isSome])/\Below w.heap.size w w':=by
 have K:=jb6 an x S last
 have hb:∀ W,Below w.heap.size w W->psx an x S last W own:=fun W hW=>K.keep h hW.size (fun k e=>hW.block k (K.lt h k e))
 obtain ⟨V0,_,hr0,_⟩:=h
 rcases jj2 hr0.sizes with ⟨hq,hz,hg⟩|⟨i,hg,hz,h1,h2,h3,_⟩
 ·have e:S.greatW=none:=by unfold Sal.greatW;rw [hg];rfl
  rw [e]
  refine jx8 x 0 w (fun W hW=>?_)
  obtain ⟨V,⟨g,hm⟩,hr,_⟩:=hb W hW
  have:=jhs x 15 g.qz W (hm.cell 17 _ rfl) hm.qz.1
  rw [jer,hm.qz.2,(jlm hr.sizes).2 hq] at this
  exact this
 ·have e:S.greatW=some (jbp S.C i (S.os.getD i ja2)):=by unfold Sal.greatW;rw [hg];rfl
  have hk:S.knows i:=⟨h1,.inl (.inl h2)⟩
  rw [e]
  refine jtu x ((i:Int)+1) _ _ _ _ _ _ w (fun W hW=>?_) (fun W hW=>jvn (hb W hW) hk)
  obtain ⟨V,⟨g,hm⟩,hr,_⟩:=hb W hW
  have:=jhs x 15 g.qz W (hm.cell 17 _ rfl) hm.qz.1
  have hv:V.qz=V0.qz:=jjo hr.sizes hr0.sizes
  rw [jer,hm.qz.2,hv,h3,decide_eq_true hz] at this
  exact this
theorem jpg (h:psx an x S last w own) (hK:saleK S) {i:Nat} (hi:S.knows i) (st:Int) (hst:st≠12/\st≠13) :
 Calls Tryz.prog 157 #[pt x 0,(jbp S.C i (S.os.getD i ja2)).val,iv st] w fun e w'=>e=.returned (POrd.val ⟨(i:Int)+1,(S.os.getD i ja2).cust,(S.os.getD i ja2).units,st,(S.os.getD i ja2).cents,S.now+S.C.keep⟩)/\jar (psx an x (S.ends i st) last) w w' own:=by
 have hsp:jao S.C st=S.C.keep:=by unfold jao;rw [if_neg hst.2,if_neg hst.1]
 have:=qa8 h hK hi (jbp S.C i (S.os.getD i ja2)) rfl rfl rfl rfl st hst.1 { S.os.getD i ja2 with state:=st,ended:=S.now } rfl rfl rfl rfl (by rw [hsp];exact jj7 (fun c=>c.elim hst.1 hst.2))
 rw [hsp] at this
 exact this
theorem saleK.ends {S:Sal} (h:saleK S) {i:Nat} (hi:i<S.os.length) (st:Int) (hst:st=14\/(st≠12/\st≠13/\st≠14)) (h14:st=14->(S.os.getD i ja2).state=13):saleK (S.ends i st):=h.put (jij h.I hi st hst h14)
theorem qbw (h:psx an x S last w own) (hK:saleK S) :
 Calls Tryz.prog 158 #[pt x 0] w fun e w'=>e=.returned (.tuple #[])/\jar (psx an x S.drained last) w w' own:=by
 obtain ⟨V0,_,hr0,_⟩:=id h
 have hz0:∃ Z,jbr Z S.os:=⟨_,hr0.sizes⟩
 clear hr0
 have hsome:∀ (S:Sal) p,(∃ Z,jbr Z S.os)->S.greatW=some p->∃ q,S.greatI=some q/\p=jbp S.C q (S.os.getD q ja2)/\q<S.os.length/\(S.os.getD q ja2).state=12/\∀ j,j<S.os.length->(S.os.getD j ja2).state=12->(S.os.getD j ja2).units<=(S.os.getD q ja2).units:=by
  rintro S p ⟨Z,hZ⟩ e
  rcases jj2 hZ with ⟨_,_,hg⟩|⟨i,hg,_,h1,h2,_,h4⟩
  ·unfold Sal.greatW at e;rw [hg] at e;cases e
  ·unfold Sal.greatW at e
   rw [hg] at e
   simp only [Option.map_some,Option.some.injEq] at e
   exact ⟨i,hg,e.symm,h1,h2,h4⟩
 refine jup x (fun S=>psx an x S last) (fun S=>jb6 an x S last) (fun S=>saleK S/\∃ Z,jbr Z S.os) Sal.greatW Sal.left (fun S=>S.ends (S.greatI.getD 0) 18) Sal.drained (fun S=>(ja5 S.os).length) (fun S=>POrd.val ⟨((S.greatI.getD 0:Nat):Int)+1,(S.os.getD (S.greatI.getD 0) ja2).cust,(S.os.getD (S.greatI.getD 0) ja2).units,18,(S.os.getD (S.greatI.getD 0) ja2).cents,S.now+S.C.keep⟩) (fun S p=>S.left<p.units) (fun _ _=>Iff.rfl) (fun S _ W o hp=>qc8 hp) (fun S hK W o hp=>qa6 hp hK.1) (fun S p hK e hle W o hp=>?_) (fun S p hK e hle=>?_) (fun S hK hle=>?_) S w own ⟨hK,hz0⟩ h
 ·obtain ⟨q,hg,rfl,h1,h2,_⟩:=hsome S p hK.2 e
  simp only [hg,Option.getD_some]
  exact jpg hp hK.1 ⟨h1,.inl (.inl h2)⟩ 18 (by decide)
 ·obtain ⟨q,hg,rfl,h1,h2,_⟩:=hsome S p hK.2 e
  have hlt:S.left<(S.os.getD q ja2).units:=hle
  simp only [hg,Option.getD_some]
  obtain ⟨Z,hZ⟩:=hK.2
  refine ⟨⟨hK.1.ends h1 18 (.inr (by decide)) (fun c=>absurd c (by decide)),_,joh hZ h1 _ (show (18:Int)≠12 by decide)⟩,?_,jk0 h1 h2 hlt⟩
  show (ja5 (S.os.set q _)).length<_
  rw [jhu _ h1 (show (18:Int)≠12 by decide)]
  refine List.length_filter_lt_length_iff_exists.2 ⟨q,(jbc S.os _ q).2 ⟨h1,h2⟩,by simp⟩
 ·obtain ⟨Z,hZ⟩:=hK.2
  refine jjz (fun o ho hs=>?_)
  obtain ⟨j,hj,rfl⟩:=jd6 ho
  rcases jj2 hZ with ⟨hq,_,_⟩|⟨i,hg,_,h1,h2,_,h4⟩
  ·have:=(jbc S.os _ j).2 ⟨hj,hs⟩
   have hq':jal S.os S.os.length=[]:=hq
   rw [hq'] at this
   cases this
  ·have:=h4 j hj hs
   have h5:=hle (jbp S.C i (S.os.getD i ja2)) (by unfold Sal.greatW;rw [hg];rfl)
   have h6:¬ S.left<(S.os.getD i ja2).units:=h5
   omega
end
end
section
section
variable {w:World} {x:Nat} {own:Nat->Prop} {S:Sal} {last:Nat} {an:Int}
theorem jba {W:World} (h:psx an x S last w own) (hW:Below w.heap.size w W):psx an x S last W own:=(jb6 an x S last).keep h hW.size (fun k e=>hW.block k ((jb6 an x S last).lt h k e))
theorem jbw {os:List Ord} {c o:Int} {i:Nat} (ho:1<=o) (h:jgt os c o=some i):i<os.length/\(os.getD i ja2).cust=c/\o=(i:Int)+1:=by
 unfold jgt at h
 split at h
 ·next hc =>
  simp only [Option.some.injEq] at h
  subst h
  exact ⟨by omega,hc.2,by omega⟩
 ·cases h
theorem jue {os:List Ord} {c:Int} {i:Nat} (hi:i<os.length) (h:jgt os c ((i:Int)+1)=none):(os.getD i ja2).cust≠c:=by
 intro e
 unfold jgt at h
 rw [if_pos] at h
 ·cases h
 ·refine ⟨by omega,?_⟩
  rw [show ((i:Int)+1 - 1).toNat=i by omega]
  exact e
theorem jxt (r:Req) (ho:1<=r.order) :
 (∃ i,jgt S.os r.cust r.order=some i/\S.knows i/\r.order=(i:Int)+1/\∀ W o,psx an x S last W o->Calls Tryz.prog 99 #[pt x 0,r.val] W fun e w'=>e=.returned (.tuple #[(jbp S.C i (S.os.getD i ja2)).val,.bool true])/\Below W.heap.size W w') ∨
 ((∀ i,jgt S.os r.cust r.order=some i->¬ S.knows i)/\∀ W o,psx an x S last W o->Calls Tryz.prog 99 #[pt x 0,r.val] W fun e w'=>e=.returned (.tuple #[pord0.val,.bool false])/\Below W.heap.size W w'):=by
 by_cases hk:∃ i,S.knows i/\r.order=(i:Int)+1
 ·obtain ⟨i,hi,he⟩:=hk
  cases hf:jgt S.os r.cust r.order with
  | some j =>
    obtain ⟨_,h2,h3⟩:=jbw ho hf
    have e:j=i:=by omega
    subst e
    refine .inl ⟨j,rfl,hi,he,fun W o hp=>?_⟩
    have e:(jbp S.C j (S.os.getD j ja2)).val=.agg #[iv ((j:Int)+1),iv r.cust,iv (S.os.getD j ja2).units,iv (S.os.getD j ja2).state,iv (S.os.getD j ja2).cents,iv ((S.os.getD j ja2).untl S.C)]:=by rw [← h2];rfl
    rw [e]
    refine qa4 x r.kind r.token r.cust r.units r.order _ _ _ _ _ W (fun W' hW'=>?_)
    have:=jvn (jba hp hW') hi
    rw [e] at this
    rw [he]
    exact this
  | none =>
    refine .inr ⟨fun i e=>(by cases e),fun W o hp=>?_⟩
    refine jt2 x r.kind r.token r.cust r.units r.order ((i:Int)+1) (S.os.getD i ja2).cust (S.os.getD i ja2).units (S.os.getD i ja2).state (S.os.getD i ja2).cents ((S.os.getD i ja2).untl S.C) W (jue hi.1 (he▸hf)) (fun W' hW'=>?_)
    have:=jvn (jba hp hW') hi
    rw [he]
    exact this
 ·refine .inr ⟨fun i e c=>hk ⟨i,c,(jbw ho e).2.2⟩,fun W o hp=>?_⟩
  exact qbg x r.kind r.token r.cust r.units r.order W (fun W' hW'=>jnc (jba hp hW') (fun i hi e=>hk ⟨i,hi,e⟩))
theorem qd0 (h:psx an x S last w own) (hK:saleK S) (r:Req) (ho:1<=r.order) :
 Calls Tryz.prog 63 #[pt x 0,r.val] w fun e w'=>e=.returned (S.poll r).val/\Below w.heap.size w w':=by
 rcases jxt (x:=x) (last:=last) (S:=S) (an:=an) r ho with ⟨i,hf,hi,he,H⟩|⟨hn,H⟩
 ·have H':∀ W,Below w.heap.size w W->Calls Tryz.prog 99 #[pt x 0,r.val] W fun e w'=>e=.returned (.tuple #[(jbp S.C i (S.os.getD i ja2)).val,.bool true])/\Below W.heap.size W w':=fun W hW=>H W own (jba h hW)
  have hu:=hK.I.units _ (jb2 hi.1)
  have hc:=(hK.I.ords _ (jb2 hi.1)).1
  have hp:S.poll r=if (S.os.getD i ja2).state=12 then ⟨12,r.order,0,(S.os.getD i ja2).upto⟩
   else if (S.os.getD i ja2).state=13 then ⟨13,r.order,(S.os.getD i ja2).cents,(S.os.getD i ja2).upto⟩
   else if S.C.keep<=S.now - (S.os.getD i ja2).ended then { jse with kind:=19 }
   else if (S.os.getD i ja2).state=14 then ⟨14,r.order,(S.os.getD i ja2).units * (S.os.getD i ja2).cents,0⟩
   else ⟨(S.os.getD i ja2).state,r.order,0,0⟩:=by unfold Sal.poll;rw [hf]
  rw [hp,he]
  unfold jbp at H'
  by_cases h12:(S.os.getD i ja2).state=12
  ·rw [if_pos h12]
   rw [h12,jdb (.inl h12)] at H'
   exact jvy x r.kind r.token r.cust r.units r.order _ _ _ _ _ w H'
  ·rw [if_neg h12]
   by_cases h13:(S.os.getD i ja2).state=13
   ·rw [if_pos h13]
    rw [h13,jdb (.inr h13)] at H'
    exact jvq x r.kind r.token r.cust r.units r.order _ _ _ _ _ w H'
   ·have hna:¬ (S.os.getD i ja2).alive:=fun c=>c.elim h12 h13
    have hlt:=hi.2.resolve_left hna
    rw [jj7 hna] at hlt
    rw [if_neg h13,if_neg (by omega)]
    by_cases h14:(S.os.getD i ja2).state=14
    ·rw [if_pos h14]
     rw [h14] at H'
     have hm0:0<=(S.os.getD i ja2).units * (S.os.getD i ja2).cents:=Int.mul_nonneg (by omega) hc.1
     have hm1:(S.os.getD i ja2).units * (S.os.getD i ja2).cents<=4294967296 * 1073741824:=Int.mul_le_mul hu.2 hc.2 hc.1 (by omega)
     exact jww x r.kind r.token r.cust r.units r.order _ _ _ _ _ _ w (jag (by omega) (by omega)) H'
    ·rw [if_neg h14]
     exact jsz x r.kind r.token r.cust r.units r.order _ _ _ _ _ _ w (by simpa using h12) (by simpa using h13) (by simpa using h14) H'
 ·have hp:S.poll r={ jse with kind:=19 }:=by
   unfold Sal.poll
   cases hf:jgt S.os r.cust r.order with
   | none=>rfl
   | some i =>
     have hk:=hn i hf
     obtain ⟨h1,_,_⟩:=jbw ho hf
     have hna:¬ (S.os.getD i ja2).alive:=fun c=>hk ⟨h1,.inl c⟩
     have hlt:¬ S.now<(S.os.getD i ja2).untl S.C:=fun c=>hk ⟨h1,.inr c⟩
     rw [jj7 hna] at hlt
     simp only
     rw [if_neg (fun c=>hna (.inl c)),if_neg (fun c=>hna (.inr c)),if_pos (by omega)]
  rw [hp]
  exact jy5 x r.kind r.token r.cust r.units r.order w (fun W hW=>H W own (jba h hW))
theorem jjx {k:Nat}:∀ (n:Nat) (S:Sal),(S.os.getD k ja2).state≠12->(jam n S).os.getD k ja2=S.os.getD k ja2
 | 0,_,_=>rfl
 | n+1,S,h=>by
   unfold jam
   split
   ·rfl
   ·next q qs hq =>
    split
    ·rfl
    ·obtain ⟨_,hl,hs⟩:=jcc hq ja2 (by decide)
     have hne:k≠q:=fun e=>h (e▸hs)
     have hg:(S.holds q).os.getD k ja2=S.os.getD k ja2:=by
      show (S.os.set q _).getD k ja2=_
      rw [jb4 _ hl,if_neg hne]
     rw [jjx n _ (by rw [hg];exact h),hg]
theorem jlb {k:Nat} (S:Sal) (h:(S.os.getD k ja2).state≠12):S.promote.os.getD k ja2=S.os.getD k ja2:=jjx _ S h
theorem jkt {k:Nat} (S:Sal) (h:(S.os.getD k ja2).state≠12):S.drained.os.getD k ja2=S.os.getD k ja2:=by
 show (S.os.map (dry S.left S.now)).getD k ja2=_
 by_cases hk:k<S.os.length
 ·have e1:S.os[k]?=some (S.os.getD k ja2):=by simp [List.getD,List.getElem?_eq_getElem hk]
  have e2:(S.os.map (dry S.left S.now)).getD k ja2=dry S.left S.now (S.os.getD k ja2):=by
   simp only [List.getD,List.getElem?_map]
   rw [show S.os[k]?=some (S.os[k]?.getD ja2) from e1]
   rfl
  rw [e2]
  unfold dry
  rw [if_neg (fun c=>h c.1)]
 ·simp [List.getD,List.getElem?_eq_none (Nat.le_of_not_lt hk)]
theorem saleK.drained {S:Sal} (h:saleK S):saleK S.drained:=by
 have:=jhi (n:=S.os.length) (ja5 S.os) S h.I rfl (fun q hq=>(jf9 S.os _ q hq))
 rw [jc6] at this
 exact ⟨this.1,by rw [this.2];exact h.len,h.lease,h.wait,h.keep⟩
theorem saleK.promote {S:Sal} (h:saleK S):saleK S.promote:=by
 obtain ⟨a,_,_⟩:=je6 S
 exact ⟨jft S h.I,by rw [jdy];exact h.len,by rw [a];exact h.lease,by rw [a];exact h.wait,by rw [a];exact h.keep⟩
theorem jxh (h:psx an x S last w own) (hK:saleK S) (r:Req) (ho:1<=r.order) :
 Calls Tryz.prog 133 #[pt x 0,r.val] w fun e w'=>e=.returned (S.confirm r).1.val/\jar (psx an x (S.confirm r).2 last) w w' own:=by
 have K:=jb6 an x S last
 have hw:=K.lt h
 have stay:S.confirm r=(⟨9,0,0,0⟩,S)->∀ (e:Ending) (w':World),e=.returned (.agg #[iv 9,iv 0,iv 0,iv 0])/\Below w.heap.size w w'->e=.returned (S.confirm r).1.val/\jar (psx an x (S.confirm r).2 last) w w' own:=by
  rintro hc e w' ⟨rfl,hb⟩
  rw [hc]
  exact ⟨rfl,jbb K h hb⟩
 rcases jxt (x:=x) (last:=last) (S:=S) (an:=an) r ho with ⟨i,hf,hi,he,H⟩|⟨hn,H⟩
 ·by_cases h13:(S.os.getD i ja2).state=13
  ·have hu:=hK.I.units _ (jb2 hi.1)
   have hc:=(hK.I.ords _ (jb2 hi.1)).1
   have hm0:0<=(S.os.getD i ja2).units * (S.os.getD i ja2).cents:=Int.mul_nonneg (by omega) hc.1
   have hm1:(S.os.getD i ja2).units * (S.os.getD i ja2).cents<=4294967296 * 1073741824:=Int.mul_le_mul hu.2 hc.2 hc.1 (by omega)
   have K1:=hK.ends hi.1 14 (.inl rfl) (fun _=>h13)
   have hend:((S.ends i 14).drained.promote.os.getD i ja2)={ S.os.getD i ja2 with state:=14,ended:=S.now }:=by
    have e1:(S.ends i 14).os.getD i ja2={ S.os.getD i ja2 with state:=14,ended:=S.now }:=by
     show (S.os.set i _).getD i ja2=_
     rw [jb4 _ hi.1,if_pos rfl]
    have e2:=jkt (k:=i) (S.ends i 14) (by rw [e1];exact (show (14:Int)≠12 by decide))
    rw [jlb _ (by rw [e2,e1];exact (show (14:Int)≠12 by decide)),e2,e1]
   have hcf:S.confirm r=(⟨7,(i:Int)+1,(S.os.getD i ja2).units * (S.os.getD i ja2).cents,0⟩,(S.ends i 14).drained.promote):=by
    unfold Sal.confirm
    rw [hf]
    simp only
    rw [if_neg (fun c=>c h13),jc6,hend,he]
   rw [hcf]
   have ep:jbp S.C i (S.os.getD i ja2)=⟨(i:Int)+1,(S.os.getD i ja2).cust,(S.os.getD i ja2).units,13,(S.os.getD i ja2).cents,(S.os.getD i ja2).untl S.C⟩:=by rw [← h13];rfl
   refine jqk x own (psx an x S last) (psx an x (S.ends i 14) last) (psx an x (S.ends i 14).drained last) (psx an x (S.ends i 14).drained.promote last) K (jb6 _ _ _ _) r.kind r.token r.cust r.units r.order ((i:Int)+1) (S.os.getD i ja2).cust (S.os.getD i ja2).units (S.os.getD i ja2).cents ((S.os.getD i ja2).untl S.C) (S.now+S.C.keep) _ w (jag (by omega) (by omega)) hw h (fun loc W hW=>?_) (fun loc W hW=>?_) (fun loc W hW=>ja6 hw (fun W o hp=>qbw hp K1) W hW) (fun loc W hW=>ja6 hw (fun W o hp=>jg8 hp K1.drained) W hW)
   ·refine jf8 K hw (fun W o hp=>?_) W hW
    have:=H W o hp
    rw [ep] at this
    exact this
   ·refine ja6 hw (fun W o hp=>?_) W hW
    have:=jpg hp hK hi 14 (by decide)
    rw [ep] at this
    exact this
  ·have hcf:S.confirm r=(⟨9,0,0,0⟩,S):=by
    unfold Sal.confirm
    rw [hf]
    simp only
    rw [if_pos h13]
   exact (jou x r.kind r.token r.cust r.units r.order _ _ _ _ _ _ w (bne_iff_ne.2 h13) (fun W hW=>H W own (jba h hW))).mono (stay hcf)
 ·have hcf:S.confirm r=(⟨9,0,0,0⟩,S):=by
   unfold Sal.confirm
   cases hf:jgt S.os r.cust r.order with
   | none=>rfl
   | some i =>
     obtain ⟨h1,_,_⟩:=jbw ho hf
     simp only
     rw [if_pos (fun c=>hn i hf ⟨h1,.inl (.inr c)⟩)]
  exact (jpz x r.kind r.token r.cust r.units r.order w (fun W hW=>H W own (jba h hW))).mono (stay hcf)
theorem qa2 (h:psx an x S last w own) (hK:saleK S) (r:Req) (ho:1<=r.order) :
 Calls Tryz.prog 134 #[pt x 0,r.val] w fun e w'=>e=.returned (S.cancel r).1.val/\jar (psx an x (S.cancel r).2 last) w w' own:=by
 have K:=jb6 an x S last
 have hw:=K.lt h
 have stay:S.cancel r=(⟨9,0,0,0⟩,S)->∀ (e:Ending) (w':World),e=.returned (.agg #[iv 9,iv 0,iv 0,iv 0])/\Below w.heap.size w w'->e=.returned (S.cancel r).1.val/\jar (psx an x (S.cancel r).2 last) w w' own:=by
  rintro hc e w' ⟨rfl,hb⟩
  rw [hc]
  exact ⟨rfl,jbb K h hb⟩
 rcases jxt (x:=x) (last:=last) (S:=S) (an:=an) r ho with ⟨i,hf,hi,he,H⟩|⟨hn,H⟩
 ·by_cases hal:(S.os.getD i ja2).state≠13/\(S.os.getD i ja2).state≠12
  ·have hcf:S.cancel r=(⟨9,0,0,0⟩,S):=by
    unfold Sal.cancel
    rw [hf]
    simp only
    rw [if_pos hal]
   exact (jqq x r.kind r.token r.cust r.units r.order _ _ _ _ _ _ w (bne_iff_ne.2 hal.1) (bne_iff_ne.2 hal.2) (fun W hW=>H W own (jba h hW))).mono (stay hcf)
  ·have K1:=hK.ends hi.1 16 (.inr (by decide)) (fun c=>absurd c (by decide))
   have hcf:S.cancel r=(⟨8,(i:Int)+1,0,0⟩,(S.ends i 16).promote):=by
    unfold Sal.cancel
    rw [hf]
    simp only
    rw [if_neg hal,he]
   rw [hcf]
   by_cases h13:(S.os.getD i ja2).state=13
   ·have ep:jbp S.C i (S.os.getD i ja2)=⟨(i:Int)+1,(S.os.getD i ja2).cust,(S.os.getD i ja2).units,13,(S.os.getD i ja2).cents,(S.os.getD i ja2).untl S.C⟩:=by rw [← h13];rfl
    refine jr6 x own (psx an x S last) (psx an x (S.ends i 16) last) (psx an x (S.ends i 16).promote last) K (jb6 _ _ _ _) r.kind r.token r.cust r.units r.order ((i:Int)+1) (S.os.getD i ja2).cust (S.os.getD i ja2).units (S.os.getD i ja2).cents ((S.os.getD i ja2).untl S.C) (S.now+S.C.keep) w hw h (fun loc W hW=>?_) (fun loc W hW=>?_) (fun loc W hW=>ja6 hw (fun W o hp=>jg8 hp K1) W hW)
    ·refine jf8 K hw (fun W o hp=>?_) W hW
     have:=H W o hp
     rw [ep] at this
     exact this
    ·refine ja6 hw (fun W o hp=>?_) W hW
     have:=jpg hp hK hi 16 (by decide)
     rw [ep] at this
     exact this
   ·have h12:(S.os.getD i ja2).state=12:=Classical.byContradiction (fun c=>hal ⟨h13,c⟩)
    have ep:jbp S.C i (S.os.getD i ja2)=⟨(i:Int)+1,(S.os.getD i ja2).cust,(S.os.getD i ja2).units,12,(S.os.getD i ja2).cents,(S.os.getD i ja2).untl S.C⟩:=by rw [← h12];rfl
    refine jrj x own (psx an x S last) (psx an x (S.ends i 16) last) (psx an x (S.ends i 16).promote last) K (jb6 _ _ _ _) r.kind r.token r.cust r.units r.order ((i:Int)+1) (S.os.getD i ja2).cust (S.os.getD i ja2).units (S.os.getD i ja2).cents ((S.os.getD i ja2).untl S.C) (S.now+S.C.keep) w hw h (fun loc W hW=>?_) (fun loc W hW=>?_) (fun loc W hW=>ja6 hw (fun W o hp=>jg8 hp K1) W hW)
    ·refine jf8 K hw (fun W o hp=>?_) W hW
     have:=H W o hp
     rw [ep] at this
     exact this
    ·refine ja6 hw (fun W o hp=>?_) W hW
     have:=jpg hp hK hi 16 (by decide)
     rw [ep] at this
     exact this
 ·have hcf:S.cancel r=(⟨9,0,0,0⟩,S):=by
   unfold Sal.cancel
   cases hf:jgt S.os r.cust r.order with
   | none=>rfl
   | some i =>
     obtain ⟨h1,_,_⟩:=jbw ho hf
     simp only
     rw [if_pos ⟨fun c=>hn i hf ⟨h1,.inl (.inr c)⟩,fun c=>hn i hf ⟨h1,.inl (.inl c)⟩⟩]
  exact (jrp x r.kind r.token r.cust r.units r.order w (fun W hW=>H W own (jba h hW))).mono (stay hcf)
end
end
theorem jmh {P:World->(Nat->Prop)->Prop} {w W:World} {own loc:Nat->Prop} (K:Keeps P) (h:ja9 P w own loc W) (hw:∀ k,own k->k<w.heap.size) {b:Nat} (hb:loc b) (v0 v1 v2 v3 v4 v5:Value):ja9 P w own loc ((((((W.setCell (aq b 0) v0).setCell (aq b 1) v1).setCell (aq b 2) v2).setCell (aq b 3) v3).setCell (aq b 4) v4).setCell (aq b 5) v5) :=
 jaq K (jaq K (jaq K (jaq K (jaq K (jaq K h hw hb v0) hw hb v1) hw hb v2) hw hb v3) hw hb v4) hw hb v5
theorem qba (x:Nat) (own:Nat->Prop) (P0 P1 P2:World->(Nat->Prop)->Prop) (K0:Keeps P0) (K1:Keeps P1) (K2:Keeps P2) (k t c u o num pr up:Int) (w:World) (hw:∀ k,own k->k<w.heap.size) (h:P0 w own)
 (HN:Hid (jc2 w own P0 P1 169 #[pt x 0,.agg #[iv k,iv t,iv c,iv u,iv o]] (.agg #[iv num,iv c,iv u,iv 0,iv 0,iv 0])))
 (H0:Hid (jc2 w own P1 P2 162 #[pt x 0,.agg #[iv num,iv c,iv u,iv 0,iv 0,iv 0]] (.agg #[iv num,iv c,iv u,iv 13,iv pr,iv up]))) :
 Calls Tryz.prog 155 #[pt x 0,.agg #[iv k,iv t,iv c,iv u,iv o]] w fun e w'=>e=.returned (.agg #[iv 2,iv num,iv pr,iv up])/\jar P2 w w' own:=by
 replace hw:Hid _:=hw
 go_enter Tryz.func155,Tryz.ntmps155
 have hT0:Hid (ja9 P0 w own (fun j=>j=w.heap.size\/j=w.heap.size+1) ((w.alloc (.cells #[iv k,iv t,iv c,iv u,iv o] 46)).alloc (.cells #[iv 0,iv 0,iv 0,iv 0] 42))):=jaj K0 h (((Below.refl _ _).alloc (Nat.le_refl _) _).alloc (by simp) _) (fun j e=>by rcases e with e|e<;>(subst e;simp;try omega))
 have rb0:Hid (((w.alloc (.cells #[iv k,iv t,iv c,iv u,iv o] 46)).alloc (.cells #[iv 0,iv 0,iv 0,iv 0] 42)).heap[w.heap.size+1]?=some (.cells #[iv 0,iv 0,iv 0,iv 0] 42 (0,0))):=by
  have h:=heap_alloc_new (w.alloc (.cells #[iv k,iv t,iv c,iv u,iv o] 46)) (.cells #[iv 0,iv 0,iv 0,iv 0] 42)
  rwa [show (w.alloc (.cells #[iv k,iv t,iv c,iv u,iv o] 46)).heap.size=w.heap.size+1 by simp] at h
 clear h
 go_wp2_with fail
 generalize (w.alloc (.cells #[iv k,iv t,iv c,iv u,iv o] 46)).alloc (.cells #[iv 0,iv 0,iv 0,iv 0] 42)=W0 at hT0 rb0 ⊢
 refine (HN.out _ _ hT0.out).mono ?_
 rintro e W1 ⟨rfl,hT1,hk⟩
 have rb1:Hid (W1.heap[w.heap.size+1]?=some (.cells #[iv 0,iv 0,iv 0,iv 0] 42 (0,0))):=(hk _ (.inr rfl)).trans rb0.out
 have lv1:w.heap.size+1<W1.heap.size:=(blt rb1.out)
 have hT2:Hid (ja9 P1 w own (fun j=>(j=w.heap.size\/j=w.heap.size+1)\/j=W1.heap.size) (W1.alloc (.cells #[iv num,iv c,iv u,iv 0,iv 0,iv 0] 184))):=jaf K1 hT1 _
 have ob2:Hid ((W1.alloc (.cells #[iv num,iv c,iv u,iv 0,iv 0,iv 0] 184)).heap[W1.heap.size]?=some (.cells #[iv num,iv c,iv u,iv 0,iv 0,iv 0] 184 (0,0))):=heap_alloc_new W1 _
 have rb2:Hid ((W1.alloc (.cells #[iv num,iv c,iv u,iv 0,iv 0,iv 0] 184)).heap[w.heap.size+1]?=some (.cells #[iv 0,iv 0,iv 0,iv 0] 42 (0,0))):=(Below.heap_alloc _ _ _ lv1).trans rb1.out
 clear hk hT0 hT1 rb0 rb1 lv1
 go_wp2_with fail
 refine (H0.out _ _ hT2.out).mono ?_
 rintro e W2 ⟨rfl,hT3,hk⟩
 have ob3:=(hk _ (.inr rfl)).trans ob2.out
 have rb3:Hid (W2.heap[w.heap.size+1]?=some (.cells #[iv 0,iv 0,iv 0,iv 0] 42 (0,0))):=(hk _ (.inl (.inr rfl))).trans rb2.out
 have lo:W1.heap.size<W2.heap.size:=(blt ob3)
 have lv:w.heap.size+1<W2.heap.size:=(blt rb3.out)
 have lne:w.heap.size+1≠W1.heap.size:=by
  intro e
  have:=(hk (w.heap.size+1) (.inl (.inr rfl))).trans rb2.out
  rw [e,ob3] at this
  simp at this
 have HE:Hid (∀ a0 a1 a2 a3 a4 a5 v0 v1 v2 v3,jar P2 w (((((((((((W2.setCell (aq W1.heap.size 0) a0).setCell (aq W1.heap.size 1) a1).setCell (aq W1.heap.size 2) a2).setCell (aq W1.heap.size 3) a3).setCell (aq W1.heap.size 4) a4).setCell (aq W1.heap.size 5) a5).setCell (aq (w.heap.size+1) 0) v0).setCell (aq (w.heap.size+1) 1) v1).setCell (aq (w.heap.size+1) 2) v2).setCell (aq (w.heap.size+1) 3) v3)) own):=fun a0 a1 a2 a3 a4 a5 v0 v1 v2 v3=>jb7 (jbi K2 (jmh K2 hT3 hw.out (.inr rfl) a0 a1 a2 a3 a4 a5) hw.out (.inl (.inr rfl)) v0 v1 v2 v3)
 obtain ⟨r0,r1,r2,r3⟩:=ja8 rb3.out
 obtain ⟨s0,s1,s2,s3,s4,s5⟩:=ja1 ob3
 have g0:=ja0 rb3.out 0
 have g1:=ja0 rb3.out 1
 have g2:=ja0 rb3.out 2
 have g3:=ja0 rb3.out 3
 have f0:=ja0 ob3 0
 have f1:=ja0 ob3 1
 have f2:=ja0 ob3 2
 have f3:=ja0 ob3 3
 have f4:=ja0 ob3 4
 have f5:=ja0 ob3 5
 clear hk hT3 hT2 ob2 rb2 ob3
 go_wp2
 refine bodyPost_ret (v:=.agg #[iv 2,iv num,iv pr,iv up]) (by simp [results,Tryz.results155,go_sem,r0,r1,r2,r3]) rfl ⟨rfl,?_⟩
 exact HE.out _ _ _ _ _ _ _ _ _ _
theorem jxq (x:Nat) (own:Nat->Prop) (P0 P1 P2:World->(Nat->Prop)->Prop) (K0:Keeps P0) (K1:Keeps P1) (K2:Keeps P2) (k t c u o num up:Int) (w:World) (hw:∀ k,own k->k<w.heap.size) (h:P0 w own)
 (HN:Hid (jc2 w own P0 P1 169 #[pt x 0,.agg #[iv k,iv t,iv c,iv u,iv o]] (.agg #[iv num,iv c,iv u,iv 0,iv 0,iv 0])))
 (H0:Hid (jc2 w own P1 P2 157 #[pt x 0,.agg #[iv num,iv c,iv u,iv 0,iv 0,iv 0],iv 12] (.agg #[iv num,iv c,iv u,iv 12,iv 0,iv up]))) :
 Calls Tryz.prog 156 #[pt x 0,.agg #[iv k,iv t,iv c,iv u,iv o]] w fun e w'=>e=.returned (.agg #[iv 3,iv num,iv 0,iv up])/\jar P2 w w' own:=by
 replace hw:Hid _:=hw
 go_enter Tryz.func156,Tryz.ntmps156
 have hT0:Hid (ja9 P0 w own (fun j=>j=w.heap.size\/j=w.heap.size+1) ((w.alloc (.cells #[iv k,iv t,iv c,iv u,iv o] 46)).alloc (.cells #[iv 0,iv 0,iv 0,iv 0] 42))):=jaj K0 h (((Below.refl _ _).alloc (Nat.le_refl _) _).alloc (by simp) _) (fun j e=>by rcases e with e|e<;>(subst e;simp;try omega))
 have rb0:Hid (((w.alloc (.cells #[iv k,iv t,iv c,iv u,iv o] 46)).alloc (.cells #[iv 0,iv 0,iv 0,iv 0] 42)).heap[w.heap.size+1]?=some (.cells #[iv 0,iv 0,iv 0,iv 0] 42 (0,0))):=by
  have h:=heap_alloc_new (w.alloc (.cells #[iv k,iv t,iv c,iv u,iv o] 46)) (.cells #[iv 0,iv 0,iv 0,iv 0] 42)
  rwa [show (w.alloc (.cells #[iv k,iv t,iv c,iv u,iv o] 46)).heap.size=w.heap.size+1 by simp] at h
 clear h
 go_wp2_with fail
 generalize (w.alloc (.cells #[iv k,iv t,iv c,iv u,iv o] 46)).alloc (.cells #[iv 0,iv 0,iv 0,iv 0] 42)=W0 at hT0 rb0 ⊢
 refine (HN.out _ _ hT0.out).mono ?_
 rintro e W1 ⟨rfl,hT1,hk⟩
 have rb1:Hid (W1.heap[w.heap.size+1]?=some (.cells #[iv 0,iv 0,iv 0,iv 0] 42 (0,0))):=(hk _ (.inr rfl)).trans rb0.out
 have lv1:w.heap.size+1<W1.heap.size:=(blt rb1.out)
 have hT2:Hid (ja9 P1 w own (fun j=>(j=w.heap.size\/j=w.heap.size+1)\/j=W1.heap.size) (W1.alloc (.cells #[iv num,iv c,iv u,iv 0,iv 0,iv 0] 184))):=jaf K1 hT1 _
 have ob2:Hid ((W1.alloc (.cells #[iv num,iv c,iv u,iv 0,iv 0,iv 0] 184)).heap[W1.heap.size]?=some (.cells #[iv num,iv c,iv u,iv 0,iv 0,iv 0] 184 (0,0))):=heap_alloc_new W1 _
 have rb2:Hid ((W1.alloc (.cells #[iv num,iv c,iv u,iv 0,iv 0,iv 0] 184)).heap[w.heap.size+1]?=some (.cells #[iv 0,iv 0,iv 0,iv 0] 42 (0,0))):=(Below.heap_alloc _ _ _ lv1).trans rb1.out
 clear hk hT0 hT1 rb0 rb1 lv1
 go_wp2_with fail
 refine (H0.out _ _ hT2.out).mono ?_
 rintro e W2 ⟨rfl,hT3,hk⟩
 have ob3:=(hk _ (.inr rfl)).trans ob2.out
 have rb3:Hid (W2.heap[w.heap.size+1]?=some (.cells #[iv 0,iv 0,iv 0,iv 0] 42 (0,0))):=(hk _ (.inl (.inr rfl))).trans rb2.out
 have lo:W1.heap.size<W2.heap.size:=(blt ob3)
 have lv:w.heap.size+1<W2.heap.size:=(blt rb3.out)
 have lne:w.heap.size+1≠W1.heap.size:=by
  intro e
  have:=(hk (w.heap.size+1) (.inl (.inr rfl))).trans rb2.out
  rw [e,ob3] at this
  simp at this
 have HE:Hid (∀ a0 a1 a2 a3 a4 a5 v0 v1 v2 v3,jar P2 w (((((((((((W2.setCell (aq W1.heap.size 0) a0).setCell (aq W1.heap.size 1) a1).setCell (aq W1.heap.size 2) a2).setCell (aq W1.heap.size 3) a3).setCell (aq W1.heap.size 4) a4).setCell (aq W1.heap.size 5) a5).setCell (aq (w.heap.size+1) 0) v0).setCell (aq (w.heap.size+1) 1) v1).setCell (aq (w.heap.size+1) 2) v2).setCell (aq (w.heap.size+1) 3) v3)) own):=fun a0 a1 a2 a3 a4 a5 v0 v1 v2 v3=>jb7 (jbi K2 (jmh K2 hT3 hw.out (.inr rfl) a0 a1 a2 a3 a4 a5) hw.out (.inl (.inr rfl)) v0 v1 v2 v3)
 obtain ⟨r0,r1,r2,r3⟩:=ja8 rb3.out
 obtain ⟨s0,s1,s2,s3,s4,s5⟩:=ja1 ob3
 have g0:=ja0 rb3.out 0
 have g1:=ja0 rb3.out 1
 have g2:=ja0 rb3.out 2
 have g3:=ja0 rb3.out 3
 have f0:=ja0 ob3 0
 have f1:=ja0 ob3 1
 have f2:=ja0 ob3 2
 have f3:=ja0 ob3 3
 have f4:=ja0 ob3 4
 have f5:=ja0 ob3 5
 clear hk hT3 hT2 ob2 rb2 ob3
 go_wp2
 refine bodyPost_ret (v:=.agg #[iv 3,iv num,iv 0,iv up]) (by simp [results,Tryz.results156,go_sem,r0,r1,r2,r3]) rfl ⟨rfl,?_⟩
 exact HE.out _ _ _ _ _ _ _ _ _ _
theorem qdc (x:Nat) (own:Nat->Prop) (P0 P1:World->(Nat->Prop)->Prop) (K0:Keeps P0) (K1:Keeps P1) (t c u o a0 a1 a2 a3:Int) (w:World) (hw:∀ k,own k->k<w.heap.size) (h:P0 w own)
 (H0:Hid (jc2 w own P0 P1 132 #[pt x 0,.agg #[iv 1,iv t,iv c,iv u,iv o]] (.agg #[iv a0,iv a1,iv a2,iv a3]))) :
 Calls Tryz.prog 101 #[pt x 0,.agg #[iv 1,iv t,iv c,iv u,iv o]] w fun e w'=>e=.returned (.agg #[iv a0,iv a1,iv a2,iv a3])/\jar P1 w w' own:=by
 replace hw:Hid _:=hw
 go_enter Tryz.func101,Tryz.ntmps101
 have hT0:Hid (ja9 P0 w own (fun j=>j=w.heap.size\/j=w.heap.size+1) ((w.alloc (.cells #[iv 1,iv t,iv c,iv u,iv o] 46)).alloc (.cells #[iv 0,iv 0,iv 0,iv 0] 42))):=jaj K0 h (((Below.refl _ _).alloc (Nat.le_refl _) _).alloc (by simp) _) (fun j e=>by rcases e with e|e<;>(subst e;simp;try omega))
 have rb0:Hid (((w.alloc (.cells #[iv 1,iv t,iv c,iv u,iv o] 46)).alloc (.cells #[iv 0,iv 0,iv 0,iv 0] 42)).heap[w.heap.size+1]?=some (.cells #[iv 0,iv 0,iv 0,iv 0] 42 (0,0))):=by
  have h:=heap_alloc_new (w.alloc (.cells #[iv 1,iv t,iv c,iv u,iv o] 46)) (.cells #[iv 0,iv 0,iv 0,iv 0] 42)
  rwa [show (w.alloc (.cells #[iv 1,iv t,iv c,iv u,iv o] 46)).heap.size=w.heap.size+1 by simp] at h
 clear h
 go_wp2_with fail
 generalize (w.alloc (.cells #[iv 1,iv t,iv c,iv u,iv o] 46)).alloc (.cells #[iv 0,iv 0,iv 0,iv 0] 42)=W0 at hT0 rb0 ⊢
 refine (H0.out _ _ hT0.out).mono ?_
 rintro e W1 ⟨rfl,hT1,hk⟩
 have rb1:Hid (W1.heap[w.heap.size+1]?=some (.cells #[iv 0,iv 0,iv 0,iv 0] 42 (0,0))):=(hk _ (.inr rfl)).trans rb0.out
 have lv:w.heap.size+1<W1.heap.size:=(blt rb1.out)
 have HE:Hid (∀ v0 v1 v2 v3,jar P1 w ((((W1.setCell (aq (w.heap.size+1) 0) v0).setCell (aq (w.heap.size+1) 1) v1).setCell (aq (w.heap.size+1) 2) v2).setCell (aq (w.heap.size+1) 3) v3) own):=fun v0 v1 v2 v3=>jb7 (jbi K1 hT1 hw.out (.inr rfl) v0 v1 v2 v3)
 obtain ⟨r0,r1,r2,r3⟩:=ja8 rb1.out
 have g0:=ja0 rb1.out 0
 have g1:=ja0 rb1.out 1
 have g2:=ja0 rb1.out 2
 have g3:=ja0 rb1.out 3
 clear hk hT0 hT1 rb0
 go_wp2
 refine bodyPost_ret (v:=.agg #[iv a0,iv a1,iv a2,iv a3]) (by simp [results,Tryz.results101,go_sem,r0,r1,r2,r3]) rfl ⟨rfl,?_⟩
 exact HE.out _ _ _ _
theorem juj (x:Nat) (own:Nat->Prop) (P0 P1:World->(Nat->Prop)->Prop) (K0:Keeps P0) (K1:Keeps P1) (t c u o a0 a1 a2 a3:Int) (w:World) (hw:∀ k,own k->k<w.heap.size) (h:P0 w own)
 (H0:Hid (jc2 w own P0 P1 133 #[pt x 0,.agg #[iv 2,iv t,iv c,iv u,iv o]] (.agg #[iv a0,iv a1,iv a2,iv a3]))) :
 Calls Tryz.prog 101 #[pt x 0,.agg #[iv 2,iv t,iv c,iv u,iv o]] w fun e w'=>e=.returned (.agg #[iv a0,iv a1,iv a2,iv a3])/\jar P1 w w' own:=by
 replace hw:Hid _:=hw
 go_enter Tryz.func101,Tryz.ntmps101
 have hT0:Hid (ja9 P0 w own (fun j=>j=w.heap.size\/j=w.heap.size+1) ((w.alloc (.cells #[iv 2,iv t,iv c,iv u,iv o] 46)).alloc (.cells #[iv 0,iv 0,iv 0,iv 0] 42))):=jaj K0 h (((Below.refl _ _).alloc (Nat.le_refl _) _).alloc (by simp) _) (fun j e=>by rcases e with e|e<;>(subst e;simp;try omega))
 have rb0:Hid (((w.alloc (.cells #[iv 2,iv t,iv c,iv u,iv o] 46)).alloc (.cells #[iv 0,iv 0,iv 0,iv 0] 42)).heap[w.heap.size+1]?=some (.cells #[iv 0,iv 0,iv 0,iv 0] 42 (0,0))):=by
  have h:=heap_alloc_new (w.alloc (.cells #[iv 2,iv t,iv c,iv u,iv o] 46)) (.cells #[iv 0,iv 0,iv 0,iv 0] 42)
  rwa [show (w.alloc (.cells #[iv 2,iv t,iv c,iv u,iv o] 46)).heap.size=w.heap.size+1 by simp] at h
 clear h
 go_wp2_with fail
 generalize (w.alloc (.cells #[iv 2,iv t,iv c,iv u,iv o] 46)).alloc (.cells #[iv 0,iv 0,iv 0,iv 0] 42)=W0 at hT0 rb0 ⊢
 refine (H0.out _ _ hT0.out).mono ?_
 rintro e W1 ⟨rfl,hT1,hk⟩
 have rb1:Hid (W1.heap[w.heap.size+1]?=some (.cells #[iv 0,iv 0,iv 0,iv 0] 42 (0,0))):=(hk _ (.inr rfl)).trans rb0.out
 have lv:w.heap.size+1<W1.heap.size:=(blt rb1.out)
 have HE:Hid (∀ v0 v1 v2 v3,jar P1 w ((((W1.setCell (aq (w.heap.size+1) 0) v0).setCell (aq (w.heap.size+1) 1) v1).setCell (aq (w.heap.size+1) 2) v2).setCell (aq (w.heap.size+1) 3) v3) own):=fun v0 v1 v2 v3=>jb7 (jbi K1 hT1 hw.out (.inr rfl) v0 v1 v2 v3)
 obtain ⟨r0,r1,r2,r3⟩:=ja8 rb1.out
 have g0:=ja0 rb1.out 0
 have g1:=ja0 rb1.out 1
 have g2:=ja0 rb1.out 2
 have g3:=ja0 rb1.out 3
 clear hk hT0 hT1 rb0
 go_wp2
 refine bodyPost_ret (v:=.agg #[iv a0,iv a1,iv a2,iv a3]) (by simp [results,Tryz.results101,go_sem,r0,r1,r2,r3]) rfl ⟨rfl,?_⟩
 exact HE.out _ _ _ _
theorem jxg (x:Nat) (own:Nat->Prop) (P0 P1:World->(Nat->Prop)->Prop) (K0:Keeps P0) (K1:Keeps P1) (k t c u o a0 a1 a2 a3:Int) (w:World) (q1:(k==1)=false) (q2:(k==2)=false) (hw:∀ k,own k->k<w.heap.size) (h:P0 w own)
 (H0:Hid (jc2 w own P0 P1 134 #[pt x 0,.agg #[iv k,iv t,iv c,iv u,iv o]] (.agg #[iv a0,iv a1,iv a2,iv a3]))) :
 Calls Tryz.prog 101 #[pt x 0,.agg #[iv k,iv t,iv c,iv u,iv o]] w fun e w'=>e=.returned (.agg #[iv a0,iv a1,iv a2,iv a3])/\jar P1 w w' own:=by
 replace hw:Hid _:=hw
 go_enter Tryz.func101,Tryz.ntmps101
 have hT0:Hid (ja9 P0 w own (fun j=>j=w.heap.size\/j=w.heap.size+1) ((w.alloc (.cells #[iv k,iv t,iv c,iv u,iv o] 46)).alloc (.cells #[iv 0,iv 0,iv 0,iv 0] 42))):=jaj K0 h (((Below.refl _ _).alloc (Nat.le_refl _) _).alloc (by simp) _) (fun j e=>by rcases e with e|e<;>(subst e;simp;try omega))
 have rb0:Hid (((w.alloc (.cells #[iv k,iv t,iv c,iv u,iv o] 46)).alloc (.cells #[iv 0,iv 0,iv 0,iv 0] 42)).heap[w.heap.size+1]?=some (.cells #[iv 0,iv 0,iv 0,iv 0] 42 (0,0))):=by
  have h:=heap_alloc_new (w.alloc (.cells #[iv k,iv t,iv c,iv u,iv o] 46)) (.cells #[iv 0,iv 0,iv 0,iv 0] 42)
  rwa [show (w.alloc (.cells #[iv k,iv t,iv c,iv u,iv o] 46)).heap.size=w.heap.size+1 by simp] at h
 clear h
 go_wp2_with fail
 generalize (w.alloc (.cells #[iv k,iv t,iv c,iv u,iv o] 46)).alloc (.cells #[iv 0,iv 0,iv 0,iv 0] 42)=W0 at hT0 rb0 ⊢
 refine (H0.out _ _ hT0.out).mono ?_
 rintro e W1 ⟨rfl,hT1,hk⟩
 have rb1:Hid (W1.heap[w.heap.size+1]?=some (.cells #[iv 0,iv 0,iv 0,iv 0] 42 (0,0))):=(hk _ (.inr rfl)).trans rb0.out
 have lv:w.heap.size+1<W1.heap.size:=(blt rb1.out)
 have HE:Hid (∀ v0 v1 v2 v3,jar P1 w ((((W1.setCell (aq (w.heap.size+1) 0) v0).setCell (aq (w.heap.size+1) 1) v1).setCell (aq (w.heap.size+1) 2) v2).setCell (aq (w.heap.size+1) 3) v3) own):=fun v0 v1 v2 v3=>jb7 (jbi K1 hT1 hw.out (.inr rfl) v0 v1 v2 v3)
 obtain ⟨r0,r1,r2,r3⟩:=ja8 rb1.out
 have g0:=ja0 rb1.out 0
 have g1:=ja0 rb1.out 1
 have g2:=ja0 rb1.out 2
 have g3:=ja0 rb1.out 3
 clear hk hT0 hT1 rb0
 go_wp2
 refine bodyPost_ret (v:=.agg #[iv a0,iv a1,iv a2,iv a3]) (by simp [results,Tryz.results101,go_sem,r0,r1,r2,r3]) rfl ⟨rfl,?_⟩
 exact HE.out _ _ _ _
section
section
variable {w:World} {x:Nat} {own:Nat->Prop} {S:Sal} {last:Nat} {an:Int}
theorem jn0 (h:psx an x S last w own) (hl:last<=4294967296) (r:Req) :
 Calls Tryz.prog 169 #[pt x 0,r.val] w fun e w'=>e=.returned (POrd.val ⟨(last:Int)+1,r.cust,r.units,0,0,0⟩)/\jar (psx an x S (last+1)) w w' own:=by
 obtain ⟨V,hm,hr,ha,han⟩:=h
 have hv:=hr.last
 refine (jul r.kind r.token r.cust r.units r.order hm (by rw [hv];omega)).mono ?_
 rintro e w' ⟨rfl,hq⟩
 rw [hv] at hq
 refine ⟨by rw [hv],jef hq ⟨hr.C,hr.now,?_,hr.tn,hr.once,hr.tl,hr.kin,hr.live,hr.ls,hr.ol,hr.turns,hr.sizes,hr.held,hr.sold,hr.lu,hr.cust⟩ ha han⟩
 show (last:Int)+1=((last+1:Nat):Int)
 omega
theorem jvu (h:psx an x S (S.os.length+1) w own) (hK:saleK S) (c u:Int) (hc:c≠0) (hu:1<=u/\u<=4294967296) :
 Calls Tryz.prog 162 #[pt x 0,POrd.val ⟨(S.os.length:Int)+1,c,u,0,0,0⟩] w fun e w'=>e=.returned (POrd.val ⟨(S.os.length:Int)+1,c,u,13,S.price,S.now+S.C.lease⟩)/\jar (psx an x (S.more ⟨c,u,13,S.price,S.now+S.C.lease,0⟩) (S.os.length+1)) w w' own:=by
 have hw:=(jb6 an x S (S.os.length+1)).lt h
 refine qah x own (psx an x S (S.os.length+1)) (psx an x (S.more ⟨c,u,13,S.price,S.now+S.C.lease,0⟩) (S.os.length+1)) (jb6 _ _ _ _) (jb6 _ _ _ _) _ _ _ _ _ _ S.price (S.now+S.C.lease) w hw h (fun W hW=>jfb (jb6 _ _ _ _) hw (fun W o hp=>jva hp) W hW) (fun W hW=>jcb hw (fun W o hp=>?_) W hW)
 exact jor hp hK ⟨(S.os.length:Int)+1,c,u,0,S.price,0⟩ rfl rfl hc hu 13 (.inr rfl) _ rfl rfl rfl rfl (by unfold Ord.untl jao;rw [if_pos (.inr rfl),if_pos rfl])
theorem qbc (h:psx an x S S.os.length w own) (hK:saleK S) (r:Req) (hc:r.cust≠0) (hu:1<=r.units/\r.units<=4294967296) :
 Calls Tryz.prog 155 #[pt x 0,r.val] w fun e w'=>e=.returned (Rep.val ⟨2,(S.os.length:Int)+1,S.price,S.now+S.C.lease⟩)/\jar (psx an x (S.more ⟨r.cust,r.units,13,S.price,S.now+S.C.lease,0⟩) (S.os.length+1)) w w' own:=by
 have hw:=(jb6 an x S S.os.length).lt h
 exact qba x own (psx an x S S.os.length) (psx an x S (S.os.length+1)) (psx an x (S.more ⟨r.cust,r.units,13,S.price,S.now+S.C.lease,0⟩) (S.os.length+1)) (jb6 _ _ _ _) (jb6 _ _ _ _) (jb6 _ _ _ _) r.kind r.token r.cust r.units r.order ((S.os.length:Int)+1) S.price (S.now+S.C.lease) w hw h (fun loc W hW=>ja6 hw (fun W o hp=>jn0 hp hK.len r) W hW) (fun loc W hW=>ja6 hw (fun W o hp=>jvu hp hK r.cust r.units hc hu) W hW)
theorem jvo (h:psx an x S S.os.length w own) (hK:saleK S) (r:Req) (hc:r.cust≠0) (hu:1<=r.units/\r.units<=4294967296) :
 Calls Tryz.prog 156 #[pt x 0,r.val] w fun e w'=>e=.returned (Rep.val ⟨3,(S.os.length:Int)+1,0,S.now+S.C.wait⟩)/\jar (psx an x (S.more ⟨r.cust,r.units,12,0,S.now+S.C.wait,0⟩) (S.os.length+1)) w w' own:=by
 have hw:=(jb6 an x S S.os.length).lt h
 refine jxq x own (psx an x S S.os.length) (psx an x S (S.os.length+1)) (psx an x (S.more ⟨r.cust,r.units,12,0,S.now+S.C.wait,0⟩) (S.os.length+1)) (jb6 _ _ _ _) (jb6 _ _ _ _) (jb6 _ _ _ _) r.kind r.token r.cust r.units r.order ((S.os.length:Int)+1) (S.now+S.C.wait) w hw h (fun loc W hW=>ja6 hw (fun W o hp=>jn0 hp hK.len r) W hW) (fun loc W hW=>ja6 hw (fun W o hp=>?_) W hW)
 have:=jor hp hK ⟨(S.os.length:Int)+1,r.cust,r.units,0,0,0⟩ rfl rfl hc hu 12 (.inl rfl) ⟨r.cust,r.units,12,0,S.now+S.C.wait,0⟩ rfl rfl rfl rfl (by unfold Ord.untl jao;rw [if_pos (.inl rfl),if_neg (show ¬ (12:Int)=13 by decide),if_pos rfl])
 rw [show jao S.C 12=S.C.wait by unfold jao;rw [if_neg (show ¬ (12:Int)=13 by decide),if_pos rfl]] at this
 exact this
theorem jq7 (h:psx an x S last w own) (c:Int) (hc:c≠0) :
 Calls Tryz.prog 61 #[pt x 19,iv c] w fun e w'=>e=.returned (.agg #[iv (ja3 S.os 13 c),iv (ja3 S.os 14 c),iv (ja3 S.os 12 c)])/\Below w.heap.size w w':=by
 obtain ⟨V,⟨g,hm⟩,hr,_⟩:=h
 have:=ju3 x 19 g.lu c w (hm.cell 21 _ rfl) hm.lu.1 (by rw [hm.lu.2];exact hr.lu.1)
 rw [hm.lu.2,jht hr.lu hc (.inr (.inl rfl)),jht hr.lu hc (.inr (.inr rfl)),jht hr.lu hc (.inl rfl)] at this
 exact this
theorem jw8 (h:psx an x S last w own) :
 Calls Tryz.prog 59 #[pt x 15] w fun e w'=>e=.returned (iv (ja5 S.os).length)/\Below w.heap.size w w':=by
 obtain ⟨V,⟨g,hm⟩,hr,_⟩:=h
 have:=jvx x 15 V.qt.length w (hm.cell 16 _ rfl)
 rw [jwe hr.turns] at this
 exact this
theorem jen (h:psx an x S last w own):w.cell? (aq x 1)=some (iv S.C.cap)/\w.cell? (aq x 2)=some (iv S.C.queue)/\w.cell? (aq x 9)=some (iv last)/\w.cell? (aq x 8)=some (iv S.now)/\w.cell? (aq x 5)=some (iv S.C.keep)/\w.cell? (aq x 6)=some (iv S.C.tokens)/\w.cell? (aq x 19)=some (iv (ja3 S.os 13 0))/\w.cell? (aq x 20)=some (iv (ja3 S.os 14 0)):=by
 obtain ⟨V,⟨g,hm⟩,hr,_⟩:=h
 have e1:=hm.cell 1 (iv V.C.cap) rfl
 have e2:=hm.cell 2 (iv V.C.queue) rfl
 have e9:=hm.cell 9 (iv V.last) rfl
 have e8:=hm.cell 8 (iv V.now) rfl
 have e5:=hm.cell 5 (iv V.C.keep) rfl
 have e6:=hm.cell 6 (iv V.C.tokens) rfl
 have e19:=hm.cell 19 (iv V.held) rfl
 have e20:=hm.cell 20 (iv V.sold) rfl
 rw [hr.C] at e1 e2 e5 e6
 rw [hr.last] at e9
 rw [hr.now] at e8
 rw [hr.held] at e19
 rw [hr.sold] at e20
 exact ⟨e1,e2,e9,e8,e5,e6,e19,e20⟩
theorem qdk (h:psx an x S S.os.length w own) (hK:saleK S) (hq:((ja5 S.os).length:Int)<=S.C.queue) (r:Req) (hc:r.cust≠0) (hu:1<=r.units/\r.units<=4294967296) :
 Calls Tryz.prog 132 #[pt x 0,r.val] w fun e w'=>e=.returned (S.ask r).1.val/\jar (psx an x (S.ask r).2 (S.ask r).2.os.length) w w' own:=by
 have K:=jb6 an x S S.os.length
 have hw:=K.lt h
 obtain ⟨x1,x2,x9,_⟩:=jen h
 have b13:=jgr hK.I (st:=13) (c:=r.cust) (.inr (.inl rfl)) (.inl hc)
 have b14:=jgr hK.I (st:=14) (c:=r.cust) (.inr (.inr rfl)) (.inl hc)
 have b12:=jgr hK.I (st:=12) (c:=r.cust) (.inl rfl) (.inl hc)
 have l13:=je1 hK.I 13 r.cust
 have l14:=je1 hK.I 14 r.cust
 have l12:=je1 hK.I 12 r.cust
 have hqn:((ja5 S.os).length:Int)=0↔ja5 S.os=[]:=by
  rw [← List.length_eq_zero_iff];omega
 have H:=qa1 x own (psx an x S S.os.length) (psx an x (S.more ⟨r.cust,r.units,13,S.price,S.now+S.C.lease,0⟩) (S.os.length+1)) (psx an x (S.more ⟨r.cust,r.units,12,0,S.now+S.C.wait,0⟩) (S.os.length+1)) K (jb6 _ _ _ _) (jb6 _ _ _ _)
  (fun v W=>v=(S.ask r).1.val/\jar (psx an x (S.ask r).2 (S.ask r).2.os.length) w W own)
  r.kind r.token r.cust r.units r.order (ja3 S.os 13 r.cust) (ja3 S.os 14 r.cust) (ja3 S.os 12 r.cust) (ja5 S.os).length S.left S.free S.C.cap S.os.length S.C.queue 2 ((S.os.length:Int)+1) S.price (S.now+S.C.lease) 3 ((S.os.length:Int)+1) 0 (S.now+S.C.wait) w
  (jag (by omega) (by omega)) (jag (by omega) (by omega)) (jag (by omega) (by omega)) hw h x1 x2 x9
  (S.C.cap<ja3 S.os 13 r.cust+ja3 S.os 14 r.cust+ja3 S.os 12 r.cust+r.units) (S.left<r.units) (4294967296<=S.os.length) (ja5 S.os=[]/\r.units<=S.free) (((ja5 S.os).length:Int)=S.C.queue)
  Iff.rfl Iff.rfl (show _↔_ by omega) (show _↔_ by rw [hqn]) (show _↔_ by omega)
  (fun W hW=>jq7 (jba h hW) r.cust hc) (fun W hW=>jw8 (jba h hW)) (fun W hW=>qa6 (jba h hW) hK) (fun W hW=>jw0 (jba h hW) hK)
  (fun c1 W hW=>by
    have e:S.ask r=(⟨4,0,0,0⟩,S):=by unfold Sal.ask;rw [if_pos c1]
    rw [e];exact ⟨rfl,jbb K h hW⟩)
  (fun c1 c2 W hW=>by
    have e:S.ask r=(⟨5,0,0,0⟩,S):=by unfold Sal.ask;rw [if_neg c1,if_pos c2]
    rw [e];exact ⟨rfl,jbb K h hW⟩)
  (fun c1 c2 c3 W hW=>by
    have e:S.ask r=(⟨6,0,0,0⟩,S):=by unfold Sal.ask;rw [if_neg c1,if_neg c2,if_pos c3]
    rw [e];exact ⟨rfl,jbb K h hW⟩)
  (fun c1 c2 c3 c4=>⟨fun loc W hW=>ja6 hw (fun W o hp=>qbc hp hK r hc hu) W hW,fun W ha=>by
    obtain ⟨e1,e2⟩:=jdu S r.cust r.units
    rw [e2] at e1
    have e:S.ask r=(⟨2,(S.os.length:Int)+1,S.price,S.now+S.C.lease⟩,S.more ⟨r.cust,r.units,13,S.price,S.now+S.C.lease,0⟩):=by
     unfold Sal.ask
     rw [if_neg c1,if_neg c2,if_neg c3,if_pos c4,e1]
     congr 2
     show ((S.os++[_]).getD S.os.length ja2).cents=_
     rw [jax (by omega),if_pos rfl]
    rw [e]
    refine ⟨rfl,?_⟩
    rw [show (S.more ⟨r.cust,r.units,13,S.price,S.now+S.C.lease,0⟩).os.length=S.os.length+1 by simp [Sal.more]]
    exact ha⟩)
  (fun c1 c2 c3 c4 c5 W hW=>by
    have e:S.ask r=(⟨6,0,0,0⟩,S):=by unfold Sal.ask;rw [if_neg c1,if_neg c2,if_neg c3,if_neg c4,if_pos c5]
    rw [e];exact ⟨rfl,jbb K h hW⟩)
  (fun c1 c2 c3 c4 c5=>⟨fun loc W hW=>ja6 hw (fun W o hp=>jvo hp hK r hc hu) W hW,fun W ha=>by
    have e:S.ask r=(⟨3,(S.os.length:Int)+1,0,S.now+S.C.wait⟩,S.more ⟨r.cust,r.units,12,0,S.now+S.C.wait,0⟩):=by unfold Sal.ask;rw [if_neg c1,if_neg c2,if_neg c3,if_neg c4,if_neg c5]
    rw [e]
    refine ⟨rfl,?_⟩
    rw [show (S.more ⟨r.cust,r.units,12,0,S.now+S.C.wait,0⟩).os.length=S.os.length+1 by simp [Sal.more]]
    exact ha⟩)
 refine H.mono ?_
 rintro e w' ⟨v,rfl,rfl,ha⟩
 exact ⟨rfl,ha⟩
theorem jqz (S:Sal) (r:Req):(S.confirm r).2.os.length=S.os.length:=by
 unfold Sal.confirm
 split
 ·rfl
 ·split
  ·rfl
  ·show (Sal.promote _).os.length=_
   rw [jdy,jji,jcx]
theorem jtb (S:Sal) (r:Req):(S.cancel r).2.os.length=S.os.length:=by
 unfold Sal.cancel
 split
 ·rfl
 ·split
  ·rfl
  ·show (Sal.promote _).os.length=_
   rw [jdy,jcx]
theorem qdm (h:psx an x S S.os.length w own) (hK:saleK S) (hq:((ja5 S.os).length:Int)<=S.C.queue) (r:Req) (h1:r.kind=1->r.cust≠0/\1<=r.units/\r.units<=4294967296) (h2:r.kind≠1->1<=r.order) :
 Calls Tryz.prog 101 #[pt x 0,r.val] w fun e w'=>e=.returned (S.doS r).1.val/\jar (psx an x (S.doS r).2 (S.doS r).2.os.length) w w' own:=by
 have K:=jb6 an x S S.os.length
 have hw:=K.lt h
 obtain ⟨k,t,c,u,o⟩:=r
 by_cases e1:k=1
 ·subst e1
  have e:S.doS ⟨1,t,c,u,o⟩=S.ask ⟨1,t,c,u,o⟩:=by unfold Sal.doS;rw [if_pos rfl]
  rw [e]
  obtain ⟨q1,q2⟩:=h1 rfl
  exact qdc x own (psx an x S S.os.length) _ K (jb6 _ _ _ _) t c u o _ _ _ _ w hw h (fun loc W hW=>ja6 hw (fun W o hp=>qdk hp hK hq _ q1 q2) W hW)
 ·have h2':=h2 e1
  by_cases e2:k=2
  ·subst e2
   have e:S.doS ⟨2,t,c,u,o⟩=S.confirm ⟨2,t,c,u,o⟩:=by unfold Sal.doS;rw [if_neg (show ¬ (2:Int)=1 by decide),if_pos rfl]
   rw [e,jqz]
   exact juj x own (psx an x S S.os.length) _ K (jb6 _ _ _ _) t c u o _ _ _ _ w hw h (fun loc W hW=>ja6 hw (fun W o hp=>jxh hp hK _ h2') W hW)
  ·have e:S.doS ⟨k,t,c,u,o⟩=S.cancel ⟨k,t,c,u,o⟩:=by unfold Sal.doS;rw [if_neg e1,if_neg e2]
   rw [e,jtb]
   exact jxg x own (psx an x S S.os.length) _ K (jb6 _ _ _ _) k t c u o _ _ _ _ w (by simpa using e1) (by simpa using e2) hw h (fun loc W hW=>ja6 hw (fun W o hp=>qa2 hp hK _ h2') W hW)
end
end
end Go.Proofs.YtfhncfghblkgeaaGreat
