import Derived.Test.YtfhncfghblkgeaaGreatL28
set_option maxRecDepth 100000
set_option maxHeartbeats 2000000
namespace Go.Proofs.YtfhncfghblkgeaaGreat
open Go.RowKit
section
section
variable {w:World} {x:Nat} {own:Nat->Prop} {S:Sal} {last:Nat} {an:Int}
theorem jbf {W:World} (h:psx an x S last w own) (hW:Below w.heap.size w W):psx an x S last W own:=(jbb an x S last).keep h hW.size (fun k e=>hW.block k ((jbb an x S last).lt h k e))
theorem jas {os:List Ord} {c o:Int} {i:Nat} (ho:1<=o) (h:jfo os c o=some i):i<os.length/\(os.getD i ja3).cust=c/\o=(i:Int)+1:=by
 unfold jfo at h
 split at h
 ·next hc =>
  simp only [Option.some.injEq] at h
  subst h
  exact ⟨by omega,hc.2,by omega⟩
 ·cases h
theorem jvr {os:List Ord} {c:Int} {i:Nat} (hi:i<os.length) (h:jfo os c ((i:Int)+1)=none):(os.getD i ja3).cust≠c:=by
 intro e
 unfold jfo at h
 rw [if_pos] at h
 ·cases h
 ·refine ⟨by omega,?_⟩
  rw [show ((i:Int)+1 - 1).toNat=i by omega]
  exact e
theorem jy2 (r:Req) (ho:1<=r.order) :
 (∃ i,jfo S.os r.cust r.order=some i/\S.knows i/\r.order=(i:Int)+1/\∀ W o,psx an x S last W o->Calls Tryz.prog 99 #[pt x 0,r.val] W fun e w'=>e=.returned (.tuple #[(jbw S.C i (S.os.getD i ja3)).val,.bool true])/\Below W.heap.size W w') ∨
 ((∀ i,jfo S.os r.cust r.order=some i->¬ S.knows i)/\∀ W o,psx an x S last W o->Calls Tryz.prog 99 #[pt x 0,r.val] W fun e w'=>e=.returned (.tuple #[pord0.val,.bool false])/\Below W.heap.size W w'):=by
 by_cases hk:∃ i,S.knows i/\r.order=(i:Int)+1
 ·obtain ⟨i,hi,he⟩:=hk
  cases hf:jfo S.os r.cust r.order with
  | some j =>
    obtain ⟨_,h2,h3⟩:=jas ho hf
    have e:j=i:=by omega
    subst e
    refine .inl ⟨j,rfl,hi,he,fun W o hp=>?_⟩
    have e:(jbw S.C j (S.os.getD j ja3)).val=.agg #[iv ((j:Int)+1),iv r.cust,iv (S.os.getD j ja3).units,iv (S.os.getD j ja3).state,iv (S.os.getD j ja3).cents,iv ((S.os.getD j ja3).untl S.C)]:=by rw [← h2];rfl
    rw [e]
    refine qbz x r.kind r.token r.cust r.units r.order _ _ _ _ _ W (fun W' hW'=>?_)
    have:=jyw (jbf hp hW') hi
    rw [e] at this
    rw [he]
    exact this
  | none =>
    refine .inr ⟨fun i e=>(by cases e),fun W o hp=>?_⟩
    refine juq x r.kind r.token r.cust r.units r.order ((i:Int)+1) (S.os.getD i ja3).cust (S.os.getD i ja3).units (S.os.getD i ja3).state (S.os.getD i ja3).cents ((S.os.getD i ja3).untl S.C) W (jvr hi.1 (he▸hf)) (fun W' hW'=>?_)
    have:=jyw (jbf hp hW') hi
    rw [he]
    exact this
 ·refine .inr ⟨fun i e c=>hk ⟨i,c,(jas ho e).2.2⟩,fun W o hp=>?_⟩
  exact qdz x r.kind r.token r.cust r.units r.order W (fun W' hW'=>joj (jbf hp hW') (fun i hi e=>hk ⟨i,hi,e⟩))
theorem qfe (h:psx an x S last w own) (hK:saleK S) (r:Req) (ho:1<=r.order) :
 Calls Tryz.prog 63 #[pt x 0,r.val] w fun e w'=>e=.returned (S.poll r).val/\Below w.heap.size w w':=by
 rcases jy2 (x:=x) (last:=last) (S:=S) (an:=an) r ho with ⟨i,hf,hi,he,H⟩|⟨hn,H⟩
 ·have H':∀ W,Below w.heap.size w W->Calls Tryz.prog 99 #[pt x 0,r.val] W fun e w'=>e=.returned (.tuple #[(jbw S.C i (S.os.getD i ja3)).val,.bool true])/\Below W.heap.size W w':=fun W hW=>H W own (jbf h hW)
  have hu:=hK.I.units _ (jal hi.1)
  have hc:=(hK.I.ords _ (jal hi.1)).1
  have hp:S.poll r=if (S.os.getD i ja3).state=12 then ⟨12,r.order,0,(S.os.getD i ja3).upto⟩
   else if (S.os.getD i ja3).state=13 then ⟨13,r.order,(S.os.getD i ja3).cents,(S.os.getD i ja3).upto⟩
   else if S.C.keep<=S.now - (S.os.getD i ja3).ended then { jks with kind:=19 }
   else if (S.os.getD i ja3).state=14 then ⟨14,r.order,(S.os.getD i ja3).units * (S.os.getD i ja3).cents,0⟩
   else ⟨(S.os.getD i ja3).state,r.order,0,0⟩:=by unfold Sal.poll;rw [hf]
  rw [hp,he]
  unfold jbw at H'
  by_cases h12:(S.os.getD i ja3).state=12
  ·rw [if_pos h12]
   rw [h12,jdk (.inl h12)] at H'
   exact jxn x r.kind r.token r.cust r.units r.order _ _ _ _ _ w H'
  ·rw [if_neg h12]
   by_cases h13:(S.os.getD i ja3).state=13
   ·rw [if_pos h13]
    rw [h13,jdk (.inr h13)] at H'
    exact jzd x r.kind r.token r.cust r.units r.order _ _ _ _ _ w H'
   ·have hna:¬ (S.os.getD i ja3).alive:=fun c=>c.elim h12 h13
    have hlt:=hi.2.resolve_left hna
    rw [jjl hna] at hlt
    rw [if_neg h13,if_neg (by omega)]
    by_cases h14:(S.os.getD i ja3).state=14
    ·rw [if_pos h14]
     rw [h14] at H'
     have hm0:0<=(S.os.getD i ja3).units * (S.os.getD i ja3).cents:=Int.mul_nonneg (by omega) hc.1
     have hm1:(S.os.getD i ja3).units * (S.os.getD i ja3).cents<=4294967296 * 1073741824:=Int.mul_le_mul hu.2 hc.2 hc.1 (by omega)
     exact jx6 x r.kind r.token r.cust r.units r.order _ _ _ _ _ _ w (jab (by omega) (by omega)) H'
    ·rw [if_neg h14]
     exact jv9 x r.kind r.token r.cust r.units r.order _ _ _ _ _ _ w (by simpa using h12) (by simpa using h13) (by simpa using h14) H'
 ·have hp:S.poll r={ jks with kind:=19 }:=by
   unfold Sal.poll
   cases hf:jfo S.os r.cust r.order with
   | none=>rfl
   | some i =>
     have hk:=hn i hf
     obtain ⟨h1,_,_⟩:=jas ho hf
     have hna:¬ (S.os.getD i ja3).alive:=fun c=>hk ⟨h1,.inl c⟩
     have hlt:¬ S.now<(S.os.getD i ja3).untl S.C:=fun c=>hk ⟨h1,.inr c⟩
     rw [jjl hna] at hlt
     simp only
     rw [if_neg (fun c=>hna (.inl c)),if_neg (fun c=>hna (.inr c)),if_pos (by omega)]
  rw [hp]
  exact jzp x r.kind r.token r.cust r.units r.order w (fun W hW=>H W own (jbf h hW))
theorem jkf {k:Nat}:∀ (n:Nat) (S:Sal),(S.os.getD k ja3).state≠12->(jak n S).os.getD k ja3=S.os.getD k ja3
 | 0,_,_=>rfl
 | n+1,S,h=>by
   unfold jak
   split
   ·rfl
   ·next q qs hq =>
    split
    ·rfl
    ·obtain ⟨_,hl,hs⟩:=jbh hq ja3 (by decide)
     have hne:k≠q:=fun e=>h (e▸hs)
     have hg:(S.holds q).os.getD k ja3=S.os.getD k ja3:=by
      show (S.os.set q _).getD k ja3=_
      rw [jar _ hl,if_neg hne]
     rw [jkf n _ (by rw [hg];exact h),hg]
theorem jm0 {k:Nat} (S:Sal) (h:(S.os.getD k ja3).state≠12):S.promote.os.getD k ja3=S.os.getD k ja3:=jkf _ S h
theorem jmy {k:Nat} (S:Sal) (h:(S.os.getD k ja3).state≠12):S.drained.os.getD k ja3=S.os.getD k ja3:=by
 show (S.os.map (dry S.left S.now)).getD k ja3=_
 by_cases hk:k<S.os.length
 ·have e1:S.os[k]?=some (S.os.getD k ja3):=by simp [List.getD,List.getElem?_eq_getElem hk]
  have e2:(S.os.map (dry S.left S.now)).getD k ja3=dry S.left S.now (S.os.getD k ja3):=by
   simp only [List.getD,List.getElem?_map]
   rw [show S.os[k]?=some (S.os[k]?.getD ja3) from e1]
   rfl
  rw [e2]
  unfold dry
  rw [if_neg (fun c=>h c.1)]
 ·simp [List.getD,List.getElem?_eq_none (Nat.le_of_not_lt hk)]
theorem saleK.drained {S:Sal} (h:saleK S):saleK S.drained:=by
 have:=jjh (n:=S.os.length) (ja5 S.os) S h.I rfl (fun q hq=>(jf9 S.os _ q hq))
 rw [jbj] at this
 exact ⟨this.1,by rw [this.2];exact h.len,h.lease,h.wait,h.keep⟩
theorem saleK.promote {S:Sal} (h:saleK S):saleK S.promote:=by
 obtain ⟨a,_,_⟩:=jeo S
 exact ⟨jg5 S h.I,by rw [je5];exact h.len,by rw [a];exact h.lease,by rw [a];exact h.wait,by rw [a];exact h.keep⟩
theorem jxt (h:psx an x S last w own) (hK:saleK S) (r:Req) (ho:1<=r.order) :
 Calls Tryz.prog 133 #[pt x 0,r.val] w fun e w'=>e=.returned (S.confirm r).1.val/\jap (psx an x (S.confirm r).2 last) w w' own:=by
 have K:=jbb an x S last
 have hw:=K.lt h
 have stay:S.confirm r=(⟨9,0,0,0⟩,S)->∀ (e:Ending) (w':World),e=.returned (.agg #[iv 9,iv 0,iv 0,iv 0])/\Below w.heap.size w w'->e=.returned (S.confirm r).1.val/\jap (psx an x (S.confirm r).2 last) w w' own:=by
  rintro hc e w' ⟨rfl,hb⟩
  rw [hc]
  exact ⟨rfl,jbi K h hb⟩
 rcases jy2 (x:=x) (last:=last) (S:=S) (an:=an) r ho with ⟨i,hf,hi,he,H⟩|⟨hn,H⟩
 ·by_cases h13:(S.os.getD i ja3).state=13
  ·have hu:=hK.I.units _ (jal hi.1)
   have hc:=(hK.I.ords _ (jal hi.1)).1
   have hm0:0<=(S.os.getD i ja3).units * (S.os.getD i ja3).cents:=Int.mul_nonneg (by omega) hc.1
   have hm1:(S.os.getD i ja3).units * (S.os.getD i ja3).cents<=4294967296 * 1073741824:=Int.mul_le_mul hu.2 hc.2 hc.1 (by omega)
   have K1:=hK.ends hi.1 14 (.inl rfl) (fun _=>h13)
   have hend:((S.ends i 14).drained.promote.os.getD i ja3)={ S.os.getD i ja3 with state:=14,ended:=S.now }:=by
    have e1:(S.ends i 14).os.getD i ja3={ S.os.getD i ja3 with state:=14,ended:=S.now }:=by
     show (S.os.set i _).getD i ja3=_
     rw [jar _ hi.1,if_pos rfl]
    have e2:=jmy (k:=i) (S.ends i 14) (by rw [e1];exact (show (14:Int)≠12 by decide))
    rw [jm0 _ (by rw [e2,e1];exact (show (14:Int)≠12 by decide)),e2,e1]
   have hcf:S.confirm r=(⟨7,(i:Int)+1,(S.os.getD i ja3).units * (S.os.getD i ja3).cents,0⟩,(S.ends i 14).drained.promote):=by
    unfold Sal.confirm
    rw [hf]
    simp only
    rw [if_neg (fun c=>c h13),jbj,hend,he]
   rw [hcf]
   have ep:jbw S.C i (S.os.getD i ja3)=⟨(i:Int)+1,(S.os.getD i ja3).cust,(S.os.getD i ja3).units,13,(S.os.getD i ja3).cents,(S.os.getD i ja3).untl S.C⟩:=by rw [← h13];rfl
   refine jsu x own (psx an x S last) (psx an x (S.ends i 14) last) (psx an x (S.ends i 14).drained last) (psx an x (S.ends i 14).drained.promote last) K (jbb _ _ _ _) r.kind r.token r.cust r.units r.order ((i:Int)+1) (S.os.getD i ja3).cust (S.os.getD i ja3).units (S.os.getD i ja3).cents ((S.os.getD i ja3).untl S.C) (S.now+S.C.keep) _ w (jab (by omega) (by omega)) hw h (fun loc W hW=>?_) (fun loc W hW=>?_) (fun loc W hW=>ja6 hw (fun W o hp=>qf9 hp K1) W hW) (fun loc W hW=>ja6 hw (fun W o hp=>jgx hp K1.drained) W hW)
   ·refine jfy K hw (fun W o hp=>?_) W hW
    have:=H W o hp
    rw [ep] at this
    exact this
   ·refine ja6 hw (fun W o hp=>?_) W hW
    have:=jq2 hp hK hi 14 (by decide)
    rw [ep] at this
    exact this
  ·have hcf:S.confirm r=(⟨9,0,0,0⟩,S):=by
    unfold Sal.confirm
    rw [hf]
    simp only
    rw [if_pos h13]
   exact (jr7 x r.kind r.token r.cust r.units r.order _ _ _ _ _ _ w (bne_iff_ne.2 h13) (fun W hW=>H W own (jbf h hW))).mono (stay hcf)
 ·have hcf:S.confirm r=(⟨9,0,0,0⟩,S):=by
   unfold Sal.confirm
   cases hf:jfo S.os r.cust r.order with
   | none=>rfl
   | some i =>
     obtain ⟨h1,_,_⟩:=jas ho hf
     simp only
     rw [if_pos (fun c=>hn i hf ⟨h1,.inl (.inr c)⟩)]
  exact (jrc x r.kind r.token r.cust r.units r.order w (fun W hW=>H W own (jbf h hW))).mono (stay hcf)
theorem qcf (h:psx an x S last w own) (hK:saleK S) (r:Req) (ho:1<=r.order) :
 Calls Tryz.prog 134 #[pt x 0,r.val] w fun e w'=>e=.returned (S.cancel r).1.val/\jap (psx an x (S.cancel r).2 last) w w' own:=by
 have K:=jbb an x S last
 have hw:=K.lt h
 have stay:S.cancel r=(⟨9,0,0,0⟩,S)->∀ (e:Ending) (w':World),e=.returned (.agg #[iv 9,iv 0,iv 0,iv 0])/\Below w.heap.size w w'->e=.returned (S.cancel r).1.val/\jap (psx an x (S.cancel r).2 last) w w' own:=by
  rintro hc e w' ⟨rfl,hb⟩
  rw [hc]
  exact ⟨rfl,jbi K h hb⟩
 rcases jy2 (x:=x) (last:=last) (S:=S) (an:=an) r ho with ⟨i,hf,hi,he,H⟩|⟨hn,H⟩
 ·by_cases hal:(S.os.getD i ja3).state≠13/\(S.os.getD i ja3).state≠12
  ·have hcf:S.cancel r=(⟨9,0,0,0⟩,S):=by
    unfold Sal.cancel
    rw [hf]
    simp only
    rw [if_pos hal]
   exact (jsg x r.kind r.token r.cust r.units r.order _ _ _ _ _ _ w (bne_iff_ne.2 hal.1) (bne_iff_ne.2 hal.2) (fun W hW=>H W own (jbf h hW))).mono (stay hcf)
  ·have K1:=hK.ends hi.1 16 (.inr (by decide)) (fun c=>absurd c (by decide))
   have hcf:S.cancel r=(⟨8,(i:Int)+1,0,0⟩,(S.ends i 16).promote):=by
    unfold Sal.cancel
    rw [hf]
    simp only
    rw [if_neg hal,he]
   rw [hcf]
   by_cases h13:(S.os.getD i ja3).state=13
   ·have ep:jbw S.C i (S.os.getD i ja3)=⟨(i:Int)+1,(S.os.getD i ja3).cust,(S.os.getD i ja3).units,13,(S.os.getD i ja3).cents,(S.os.getD i ja3).untl S.C⟩:=by rw [← h13];rfl
    refine jtg x own (psx an x S last) (psx an x (S.ends i 16) last) (psx an x (S.ends i 16).promote last) K (jbb _ _ _ _) r.kind r.token r.cust r.units r.order ((i:Int)+1) (S.os.getD i ja3).cust (S.os.getD i ja3).units (S.os.getD i ja3).cents ((S.os.getD i ja3).untl S.C) (S.now+S.C.keep) w hw h (fun loc W hW=>?_) (fun loc W hW=>?_) (fun loc W hW=>ja6 hw (fun W o hp=>jgx hp K1) W hW)
    ·refine jfy K hw (fun W o hp=>?_) W hW
     have:=H W o hp
     rw [ep] at this
     exact this
    ·refine ja6 hw (fun W o hp=>?_) W hW
     have:=jq2 hp hK hi 16 (by decide)
     rw [ep] at this
     exact this
   ·have h12:(S.os.getD i ja3).state=12:=Classical.byContradiction (fun c=>hal ⟨h13,c⟩)
    have ep:jbw S.C i (S.os.getD i ja3)=⟨(i:Int)+1,(S.os.getD i ja3).cust,(S.os.getD i ja3).units,12,(S.os.getD i ja3).cents,(S.os.getD i ja3).untl S.C⟩:=by rw [← h12];rfl
    refine jsi x own (psx an x S last) (psx an x (S.ends i 16) last) (psx an x (S.ends i 16).promote last) K (jbb _ _ _ _) r.kind r.token r.cust r.units r.order ((i:Int)+1) (S.os.getD i ja3).cust (S.os.getD i ja3).units (S.os.getD i ja3).cents ((S.os.getD i ja3).untl S.C) (S.now+S.C.keep) w hw h (fun loc W hW=>?_) (fun loc W hW=>?_) (fun loc W hW=>ja6 hw (fun W o hp=>jgx hp K1) W hW)
    ·refine jfy K hw (fun W o hp=>?_) W hW
     have:=H W o hp
     rw [ep] at this
     exact this
    ·refine ja6 hw (fun W o hp=>?_) W hW
     have:=jq2 hp hK hi 16 (by decide)
     rw [ep] at this
     exact this
 ·have hcf:S.cancel r=(⟨9,0,0,0⟩,S):=by
   unfold Sal.cancel
   cases hf:jfo S.os r.cust r.order with
   | none=>rfl
   | some i =>
     obtain ⟨h1,_,_⟩:=jas ho hf
     simp only
     rw [if_pos ⟨fun c=>hn i hf ⟨h1,.inl (.inr c)⟩,fun c=>hn i hf ⟨h1,.inl (.inl c)⟩⟩]
  exact (jth x r.kind r.token r.cust r.units r.order w (fun W hW=>H W own (jbf h hW))).mono (stay hcf)
end
end
theorem jbt {w:World} {R:Nat} {c0 c1 c2 c3 c4 c5 c6 c7 c8:Value} {T:TypeId} (h:w.heap[R]?=some (.cells #[c0,c1,c2,c3,c4,c5,c6,c7,c8] T (0,0))):w.cell? (aq R 0)=some c0/\w.cell? (aq R 1)=some c1/\w.cell? (aq R 2)=some c2/\w.cell? (aq R 3)=some c3/\w.cell? (aq R 4)=some c4/\w.cell? (aq R 5)=some c5/\w.cell? (aq R 6)=some c6/\w.cell? (aq R 7)=some c7/\w.cell? (aq R 8)=some c8:=by
 refine ⟨?_,?_,?_,?_,?_,?_,?_,?_,?_⟩<;>(rw [Joins.cell_of_block h];rfl)
theorem jex {w w2:World} {B b:Nat} {v0 v1 v2 v3 v4 v5 v6 v7 v8:Value} (h:Below B w w2) (hb:B<=b):Below B w (((((((((w2.setCell (aq b 0) v0).setCell (aq b 1) v1).setCell (aq b 2) v2).setCell (aq b 3) v3).setCell (aq b 4) v4).setCell (aq b 5) v5).setCell (aq b 6) v6).setCell (aq b 7) v7).setCell (aq b 8) v8) :=
 ((((((((h.setCell (p:=(aq b 0)) hb _).setCell (p:=(aq b 1)) hb _).setCell (p:=(aq b 2)) hb _).setCell (p:=(aq b 3)) hb _).setCell (p:=(aq b 4)) hb _).setCell (p:=(aq b 5)) hb _).setCell (p:=(aq b 6)) hb _).setCell (p:=(aq b 7)) hb _).setCell (p:=(aq b 8)) hb _
theorem qeq (x q:Nat) (tr:Tr) (tok:Int) (w:World) (h0:w.cell? (aq x (q+1))=some (.pointer tr.addr)) (ht:tr.at w) (hs:srt tr.toL) (hn:jb5 (tok,0) tr.toL=none) :
 Calls Tryz.prog 100 #[pt x q,iv tok] w fun e w'=>e=.returned (.tuple #[.agg #[iv 0,iv 0,iv 0,iv 0,iv 0,iv 0,iv 0,iv 0,iv 0],.bool false])/\Below w.heap.size w w':=by
 have hxw:x<w.heap.size:=World.block_lt_of_cell? w _ h0
 have HG:Hid (∀ W,Below w.heap.size w W->Calls Tryz.prog 95 #[pt x (q+1),.agg #[iv tok,iv 0]] W fun e w'=>e=.returned (.tuple #[iv 0,.bool false])/\Below W.heap.size W w'):=fun W hW=>by
  have:=jd3 x (q+1) tr tok 0 W ((hW.cell (p:=(aq x (q+1))) hxw).trans h0) (tr.at_below ht hW) hs
  rw [hn] at this
  exact this
 clear h0 ht hs hn
 go_enter Tryz.func100,Tryz.ntmps100
 go_wp2_with fail
 refine (HG.out _ ((Below.refl _ _).alloc (Nat.le_refl _) _)).mono ?_
 rintro e w1 ⟨rfl,bb⟩
 have n1:w1.heap[w.heap.size]?=some (.cells #[iv 0,iv 0,iv 0,iv 0,iv 0,iv 0,iv 0,iv 0,iv 0] 188 (0,0)):=(bb.block _ (by simp)).trans (heap_alloc_new w _)
 have hb1:Below w.heap.size w w1:=Below.trans ((Below.refl _ _).alloc (Nat.le_refl _) _) (bb.mono (by simp))
 have z1:w.heap.size<w1.heap.size:=(blt n1)
 obtain ⟨s0,s1,s2,s3,s4,s5,s6,s7,s8⟩:=jbt n1
 have f0:=ja0 n1 0
 have f1:=ja0 n1 1
 have f2:=ja0 n1 2
 have f3:=ja0 n1 3
 have f4:=ja0 n1 4
 have f5:=ja0 n1 5
 have f6:=ja0 n1 6
 have f7:=ja0 n1 7
 have f8:=ja0 n1 8
 clear bb n1 HG
 go_wp2
 refine bodyPost_ret (v:=.tuple #[.agg #[iv 0,iv 0,iv 0,iv 0,iv 0,iv 0,iv 0,iv 0,iv 0],.bool false]) (by simp [results,Tryz.results100,go_sem,s0,s1,s2,s3,s4,s5,s6,s7,s8]) rfl ⟨rfl,?_⟩
 exact jex hb1 (Nat.le_refl _)
theorem qcm (x q g n cap i:Nat) (tr:Tr) (tok k t c u o rk ro rc ru:Int) (w:World) (h0:w.cell? (aq x (q+1))=some (.pointer tr.addr)) (ht:tr.at w) (hs:srt tr.toL) (hn:jb5 (tok,0) tr.toL=some (i:Int)) (hl:w.cell? (aq x (q+3))=some (.slice (some (aq g 0)) n cap)) (hi:i<n)
 (e0:w.cell? (aq g (i * 9))=some (iv k)) (e1:w.cell? (aq g (i * 9+1))=some (iv t)) (e2:w.cell? (aq g (i * 9+2))=some (iv c)) (e3:w.cell? (aq g (i * 9+3))=some (iv u)) (e4:w.cell? (aq g (i * 9+4))=some (iv o)) (e5:w.cell? (aq g (i * 9+5))=some (iv rk)) (e6:w.cell? (aq g (i * 9+6))=some (iv ro)) (e7:w.cell? (aq g (i * 9+7))=some (iv rc)) (e8:w.cell? (aq g (i * 9+8))=some (iv ru)) :
 Calls Tryz.prog 100 #[pt x q,iv tok] w fun e w'=>e=.returned (.tuple #[.agg #[iv k,iv t,iv c,iv u,iv o,iv rk,iv ro,iv rc,iv ru],.bool true])/\Below w.heap.size w w':=by
 have hxw:x<w.heap.size:=World.block_lt_of_cell? w _ h0
 have HG:Hid (∀ W,Below w.heap.size w W->Calls Tryz.prog 95 #[pt x (q+1),.agg #[iv tok,iv 0]] W fun e w'=>e=.returned (.tuple #[iv i,.bool true])/\Below W.heap.size W w'):=fun W hW=>by
  have:=jd3 x (q+1) tr tok 0 W ((hW.cell (p:=(aq x (q+1))) hxw).trans h0) (tr.at_below ht hW) hs
  rw [hn] at this
  exact this
 have hgw:g<w.heap.size:=World.block_lt_of_cell? w _ e0
 have b0:(0:Int)<=(i:Int):=by omega
 have b1':(i:Int)<(n:Int):=by omega
 have d0:decide ((i:Int)<0)=false:=by simp
 have d1:decide ((n:Int)<=(i:Int))=false:=by simp;omega
 clear h0 ht hs hn
 go_enter Tryz.func100,Tryz.ntmps100
 go_wp2_with fail
 refine (HG.out _ ((Below.refl _ _).alloc (Nat.le_refl _) _)).mono ?_
 rintro e w1 ⟨rfl,bb⟩
 have n1:w1.heap[w.heap.size]?=some (.cells #[iv 0,iv 0,iv 0,iv 0,iv 0,iv 0,iv 0,iv 0,iv 0] 188 (0,0)):=(bb.block _ (by simp)).trans (heap_alloc_new w _)
 have hb1:Below w.heap.size w w1:=Below.trans ((Below.refl _ _).alloc (Nat.le_refl _) _) (bb.mono (by simp))
 have z1:w.heap.size<w1.heap.size:=(blt n1)
 obtain ⟨s0,s1,s2,s3,s4,s5,s6,s7,s8⟩:=jbt n1
 have f0:=ja0 n1 0
 have f1:=ja0 n1 1
 have f2:=ja0 n1 2
 have f3:=ja0 n1 3
 have f4:=ja0 n1 4
 have f5:=ja0 n1 5
 have f6:=ja0 n1 6
 have f7:=ja0 n1 7
 have f8:=ja0 n1 8
 replace hl:=(hb1.cell (p:=(aq x (q+3))) hxw).trans hl
 replace e0:=(hb1.cell (p:=(aq g (i * 9))) hgw).trans e0
 replace e1:=(hb1.cell (p:=(aq g (i * 9+1))) hgw).trans e1
 replace e2:=(hb1.cell (p:=(aq g (i * 9+2))) hgw).trans e2
 replace e3:=(hb1.cell (p:=(aq g (i * 9+3))) hgw).trans e3
 replace e4:=(hb1.cell (p:=(aq g (i * 9+4))) hgw).trans e4
 replace e5:=(hb1.cell (p:=(aq g (i * 9+5))) hgw).trans e5
 replace e6:=(hb1.cell (p:=(aq g (i * 9+6))) hgw).trans e6
 replace e7:=(hb1.cell (p:=(aq g (i * 9+7))) hgw).trans e7
 replace e8:=(hb1.cell (p:=(aq g (i * 9+8))) hgw).trans e8
 have hx1:x<w1.heap.size:=by omega
 have hg1:g<w1.heap.size:=by omega
 clear bb n1 HG
 go_wp2
 refine bodyPost_ret (v:=.tuple #[.agg #[iv k,iv t,iv c,iv u,iv o,iv rk,iv ro,iv rc,iv ru],.bool true]) (by simp [results,Tryz.results100,go_sem,s0,s1,s2,s3,s4,s5,s6,s7,s8]) rfl ⟨rfl,?_⟩
 exact jex hb1 (Nat.le_refl _)
theorem jxi (x q:Nat) (s:Int) (w:World) (h:w.cell? (aq x (q+2))=some (iv s)) :
 Calls Tryz.prog 60 #[pt x q] w fun e w'=>e=.returned (iv s)/\Below w.heap.size w w':=by
 have hxw:x<w.heap.size:=World.block_lt_of_cell? w _ h
 have HF:Hid (∀ W,Below w.heap.size w W->Calls Tryz.prog 94 #[pt x (q+1)] W fun e w'=>e=.returned (iv s)/\Below W.heap.size W w'):=fun W hW=>jpa x (q+1) s W ((hW.cell (p:=(aq x (q+2))) hxw).trans h)
 clear h
 go_enter Tryz.func60,Tryz.ntmps60
 go_wp2_with fail
 refine (HF.out _ (Below.refl _ _)).mono ?_
 rintro e w1 ⟨rfl,b1⟩
 go_wp2
 go_ret
 exact ⟨rfl,b1⟩
theorem jo9 {P:World->(Nat->Prop)->Prop} {w W:World} {own loc:Nat->Prop} (K:Keeps P) (h:ja7 P w own loc W) (hw:∀ k,own k->k<w.heap.size) {b:Nat} (hb:loc b) (v0 v1 v2 v3 v4 v5:Value):ja7 P w own loc ((((((W.setCell (aq b 0) v0).setCell (aq b 1) v1).setCell (aq b 2) v2).setCell (aq b 3) v3).setCell (aq b 4) v4).setCell (aq b 5) v5) :=
 jde K (jde K (jde K (jde K (jde K (jde K h hw hb v0) hw hb v1) hw hb v2) hw hb v3) hw hb v4) hw hb v5
theorem qe7 (x:Nat) (own:Nat->Prop) (P0 P1 P2:World->(Nat->Prop)->Prop) (K0:Keeps P0) (K1:Keeps P1) (K2:Keeps P2) (k t c u o num pr up:Int) (w:World) (hw:∀ k,own k->k<w.heap.size) (h:P0 w own)
 (HN:Hid (jc2 w own P0 P1 169 #[pt x 0,.agg #[iv k,iv t,iv c,iv u,iv o]] (.agg #[iv num,iv c,iv u,iv 0,iv 0,iv 0])))
 (H0:Hid (jc2 w own P1 P2 162 #[pt x 0,.agg #[iv num,iv c,iv u,iv 0,iv 0,iv 0]] (.agg #[iv num,iv c,iv u,iv 13,iv pr,iv up]))) :
 Calls Tryz.prog 155 #[pt x 0,.agg #[iv k,iv t,iv c,iv u,iv o]] w fun e w'=>e=.returned (.agg #[iv 2,iv num,iv pr,iv up])/\jap P2 w w' own:=by
 replace hw:Hid _:=hw
 go_enter Tryz.func155,Tryz.ntmps155
 have hT0:Hid (ja7 P0 w own (fun j=>j=w.heap.size\/j=w.heap.size+1) ((w.alloc (.cells #[iv k,iv t,iv c,iv u,iv o] 46)).alloc (.cells #[iv 0,iv 0,iv 0,iv 0] 42))):=jah K0 h (((Below.refl _ _).alloc (Nat.le_refl _) _).alloc (by simp) _) (fun j e=>by rcases e with e|e<;>(subst e;simp;try omega))
 have rb0:Hid (((w.alloc (.cells #[iv k,iv t,iv c,iv u,iv o] 46)).alloc (.cells #[iv 0,iv 0,iv 0,iv 0] 42)).heap[w.heap.size+1]?=some (.cells #[iv 0,iv 0,iv 0,iv 0] 42 (0,0))):=by
  have h:=heap_alloc_new (w.alloc (.cells #[iv k,iv t,iv c,iv u,iv o] 46)) (.cells #[iv 0,iv 0,iv 0,iv 0] 42)
  rwa [show (w.alloc (.cells #[iv k,iv t,iv c,iv u,iv o] 46)).heap.size=w.heap.size+1 by simp] at h
 clear h
 go_wp2_with fail
 generalize (w.alloc (.cells #[iv k,iv t,iv c,iv u,iv o] 46)).alloc (.cells #[iv 0,iv 0,iv 0,iv 0] 42)=W0 at hT0 rb0 ⊢
 refine (HN.out _ _ hT0.out).mono ?_
 rintro e W1 ⟨rfl,hT1,hk⟩
 have rb1:Hid (W1.heap[w.heap.size+1]?=some (.cells #[iv 0,iv 0,iv 0,iv 0] 42 (0,0))):=(hk _ (.inr rfl)).trans rb0.out
 have lv1:w.heap.size+1<W1.heap.size:=(blt rb1.out)
 have hT2:Hid (ja7 P1 w own (fun j=>(j=w.heap.size\/j=w.heap.size+1)\/j=W1.heap.size) (W1.alloc (.cells #[iv num,iv c,iv u,iv 0,iv 0,iv 0] 184))):=jaz K1 hT1 _
 have ob2:Hid ((W1.alloc (.cells #[iv num,iv c,iv u,iv 0,iv 0,iv 0] 184)).heap[W1.heap.size]?=some (.cells #[iv num,iv c,iv u,iv 0,iv 0,iv 0] 184 (0,0))):=heap_alloc_new W1 _
 have rb2:Hid ((W1.alloc (.cells #[iv num,iv c,iv u,iv 0,iv 0,iv 0] 184)).heap[w.heap.size+1]?=some (.cells #[iv 0,iv 0,iv 0,iv 0] 42 (0,0))):=(Below.heap_alloc _ _ _ lv1).trans rb1.out
 clear hk hT0 hT1 rb0 rb1 lv1
 go_wp2_with fail
 refine (H0.out _ _ hT2.out).mono ?_
 rintro e W2 ⟨rfl,hT3,hk⟩
 have ob3:=(hk _ (.inr rfl)).trans ob2.out
 have rb3:Hid (W2.heap[w.heap.size+1]?=some (.cells #[iv 0,iv 0,iv 0,iv 0] 42 (0,0))):=(hk _ (.inl (.inr rfl))).trans rb2.out
 have lo:W1.heap.size<W2.heap.size:=(blt ob3)
 have lv:w.heap.size+1<W2.heap.size:=(blt rb3.out)
 have lne:w.heap.size+1≠W1.heap.size:=by
  intro e
  have:=(hk (w.heap.size+1) (.inl (.inr rfl))).trans rb2.out
  rw [e,ob3] at this
  simp at this
 have HE:Hid (∀ a0 a1 a2 a3 a4 a5 v0 v1 v2 v3,jap P2 w (((((((((((W2.setCell (aq W1.heap.size 0) a0).setCell (aq W1.heap.size 1) a1).setCell (aq W1.heap.size 2) a2).setCell (aq W1.heap.size 3) a3).setCell (aq W1.heap.size 4) a4).setCell (aq W1.heap.size 5) a5).setCell (aq (w.heap.size+1) 0) v0).setCell (aq (w.heap.size+1) 1) v1).setCell (aq (w.heap.size+1) 2) v2).setCell (aq (w.heap.size+1) 3) v3)) own):=fun a0 a1 a2 a3 a4 a5 v0 v1 v2 v3=>jan (jc4 K2 (jo9 K2 hT3 hw.out (.inr rfl) a0 a1 a2 a3 a4 a5) hw.out (.inl (.inr rfl)) v0 v1 v2 v3)
 obtain ⟨r0,r1,r2,r3⟩:=ja9 rb3.out
 obtain ⟨s0,s1,s2,s3,s4,s5⟩:=ja1 ob3
 have g0:=ja0 rb3.out 0
 have g1:=ja0 rb3.out 1
 have g2:=ja0 rb3.out 2
 have g3:=ja0 rb3.out 3
 have f0:=ja0 ob3 0
 have f1:=ja0 ob3 1
 have f2:=ja0 ob3 2
 have f3:=ja0 ob3 3
 have f4:=ja0 ob3 4
 have f5:=ja0 ob3 5
 clear hk hT3 hT2 ob2 rb2 ob3
 go_wp2
 refine bodyPost_ret (v:=.agg #[iv 2,iv num,iv pr,iv up]) (by simp [results,Tryz.results155,go_sem,r0,r1,r2,r3]) rfl ⟨rfl,?_⟩
 exact HE.out _ _ _ _ _ _ _ _ _ _
theorem jzg (x:Nat) (own:Nat->Prop) (P0 P1 P2:World->(Nat->Prop)->Prop) (K0:Keeps P0) (K1:Keeps P1) (K2:Keeps P2) (k t c u o num up:Int) (w:World) (hw:∀ k,own k->k<w.heap.size) (h:P0 w own)
 (HN:Hid (jc2 w own P0 P1 169 #[pt x 0,.agg #[iv k,iv t,iv c,iv u,iv o]] (.agg #[iv num,iv c,iv u,iv 0,iv 0,iv 0])))
 (H0:Hid (jc2 w own P1 P2 157 #[pt x 0,.agg #[iv num,iv c,iv u,iv 0,iv 0,iv 0],iv 12] (.agg #[iv num,iv c,iv u,iv 12,iv 0,iv up]))) :
 Calls Tryz.prog 156 #[pt x 0,.agg #[iv k,iv t,iv c,iv u,iv o]] w fun e w'=>e=.returned (.agg #[iv 3,iv num,iv 0,iv up])/\jap P2 w w' own:=by
 replace hw:Hid _:=hw
 go_enter Tryz.func156,Tryz.ntmps156
 have hT0:Hid (ja7 P0 w own (fun j=>j=w.heap.size\/j=w.heap.size+1) ((w.alloc (.cells #[iv k,iv t,iv c,iv u,iv o] 46)).alloc (.cells #[iv 0,iv 0,iv 0,iv 0] 42))):=jah K0 h (((Below.refl _ _).alloc (Nat.le_refl _) _).alloc (by simp) _) (fun j e=>by rcases e with e|e<;>(subst e;simp;try omega))
 have rb0:Hid (((w.alloc (.cells #[iv k,iv t,iv c,iv u,iv o] 46)).alloc (.cells #[iv 0,iv 0,iv 0,iv 0] 42)).heap[w.heap.size+1]?=some (.cells #[iv 0,iv 0,iv 0,iv 0] 42 (0,0))):=by
  have h:=heap_alloc_new (w.alloc (.cells #[iv k,iv t,iv c,iv u,iv o] 46)) (.cells #[iv 0,iv 0,iv 0,iv 0] 42)
  rwa [show (w.alloc (.cells #[iv k,iv t,iv c,iv u,iv o] 46)).heap.size=w.heap.size+1 by simp] at h
 clear h
 go_wp2_with fail
 generalize (w.alloc (.cells #[iv k,iv t,iv c,iv u,iv o] 46)).alloc (.cells #[iv 0,iv 0,iv 0,iv 0] 42)=W0 at hT0 rb0 ⊢
 refine (HN.out _ _ hT0.out).mono ?_
 rintro e W1 ⟨rfl,hT1,hk⟩
 have rb1:Hid (W1.heap[w.heap.size+1]?=some (.cells #[iv 0,iv 0,iv 0,iv 0] 42 (0,0))):=(hk _ (.inr rfl)).trans rb0.out
 have lv1:w.heap.size+1<W1.heap.size:=(blt rb1.out)
 have hT2:Hid (ja7 P1 w own (fun j=>(j=w.heap.size\/j=w.heap.size+1)\/j=W1.heap.size) (W1.alloc (.cells #[iv num,iv c,iv u,iv 0,iv 0,iv 0] 184))):=jaz K1 hT1 _
 have ob2:Hid ((W1.alloc (.cells #[iv num,iv c,iv u,iv 0,iv 0,iv 0] 184)).heap[W1.heap.size]?=some (.cells #[iv num,iv c,iv u,iv 0,iv 0,iv 0] 184 (0,0))):=heap_alloc_new W1 _
 have rb2:Hid ((W1.alloc (.cells #[iv num,iv c,iv u,iv 0,iv 0,iv 0] 184)).heap[w.heap.size+1]?=some (.cells #[iv 0,iv 0,iv 0,iv 0] 42 (0,0))):=(Below.heap_alloc _ _ _ lv1).trans rb1.out
 clear hk hT0 hT1 rb0 rb1 lv1
 go_wp2_with fail
 refine (H0.out _ _ hT2.out).mono ?_
 rintro e W2 ⟨rfl,hT3,hk⟩
 have ob3:=(hk _ (.inr rfl)).trans ob2.out
 have rb3:Hid (W2.heap[w.heap.size+1]?=some (.cells #[iv 0,iv 0,iv 0,iv 0] 42 (0,0))):=(hk _ (.inl (.inr rfl))).trans rb2.out
 have lo:W1.heap.size<W2.heap.size:=(blt ob3)
 have lv:w.heap.size+1<W2.heap.size:=(blt rb3.out)
 have lne:w.heap.size+1≠W1.heap.size:=by
  intro e
  have:=(hk (w.heap.size+1) (.inl (.inr rfl))).trans rb2.out
  rw [e,ob3] at this
  simp at this
 have HE:Hid (∀ a0 a1 a2 a3 a4 a5 v0 v1 v2 v3,jap P2 w (((((((((((W2.setCell (aq W1.heap.size 0) a0).setCell (aq W1.heap.size 1) a1).setCell (aq W1.heap.size 2) a2).setCell (aq W1.heap.size 3) a3).setCell (aq W1.heap.size 4) a4).setCell (aq W1.heap.size 5) a5).setCell (aq (w.heap.size+1) 0) v0).setCell (aq (w.heap.size+1) 1) v1).setCell (aq (w.heap.size+1) 2) v2).setCell (aq (w.heap.size+1) 3) v3)) own):=fun a0 a1 a2 a3 a4 a5 v0 v1 v2 v3=>jan (jc4 K2 (jo9 K2 hT3 hw.out (.inr rfl) a0 a1 a2 a3 a4 a5) hw.out (.inl (.inr rfl)) v0 v1 v2 v3)
 obtain ⟨r0,r1,r2,r3⟩:=ja9 rb3.out
 obtain ⟨s0,s1,s2,s3,s4,s5⟩:=ja1 ob3
 have g0:=ja0 rb3.out 0
 have g1:=ja0 rb3.out 1
 have g2:=ja0 rb3.out 2
 have g3:=ja0 rb3.out 3
 have f0:=ja0 ob3 0
 have f1:=ja0 ob3 1
 have f2:=ja0 ob3 2
 have f3:=ja0 ob3 3
 have f4:=ja0 ob3 4
 have f5:=ja0 ob3 5
 clear hk hT3 hT2 ob2 rb2 ob3
 go_wp2
 refine bodyPost_ret (v:=.agg #[iv 3,iv num,iv 0,iv up]) (by simp [results,Tryz.results156,go_sem,r0,r1,r2,r3]) rfl ⟨rfl,?_⟩
 exact HE.out _ _ _ _ _ _ _ _ _ _
theorem qgg (x:Nat) (own:Nat->Prop) (P0 P1:World->(Nat->Prop)->Prop) (K0:Keeps P0) (K1:Keeps P1) (t c u o a0 a1 a2 a3:Int) (w:World) (hw:∀ k,own k->k<w.heap.size) (h:P0 w own)
 (H0:Hid (jc2 w own P0 P1 132 #[pt x 0,.agg #[iv 1,iv t,iv c,iv u,iv o]] (.agg #[iv a0,iv a1,iv a2,iv a3]))) :
 Calls Tryz.prog 101 #[pt x 0,.agg #[iv 1,iv t,iv c,iv u,iv o]] w fun e w'=>e=.returned (.agg #[iv a0,iv a1,iv a2,iv a3])/\jap P1 w w' own:=by
 replace hw:Hid _:=hw
 go_enter Tryz.func101,Tryz.ntmps101
 have hT0:Hid (ja7 P0 w own (fun j=>j=w.heap.size\/j=w.heap.size+1) ((w.alloc (.cells #[iv 1,iv t,iv c,iv u,iv o] 46)).alloc (.cells #[iv 0,iv 0,iv 0,iv 0] 42))):=jah K0 h (((Below.refl _ _).alloc (Nat.le_refl _) _).alloc (by simp) _) (fun j e=>by rcases e with e|e<;>(subst e;simp;try omega))
 have rb0:Hid (((w.alloc (.cells #[iv 1,iv t,iv c,iv u,iv o] 46)).alloc (.cells #[iv 0,iv 0,iv 0,iv 0] 42)).heap[w.heap.size+1]?=some (.cells #[iv 0,iv 0,iv 0,iv 0] 42 (0,0))):=by
  have h:=heap_alloc_new (w.alloc (.cells #[iv 1,iv t,iv c,iv u,iv o] 46)) (.cells #[iv 0,iv 0,iv 0,iv 0] 42)
  rwa [show (w.alloc (.cells #[iv 1,iv t,iv c,iv u,iv o] 46)).heap.size=w.heap.size+1 by simp] at h
 clear h
 go_wp2_with fail
 generalize (w.alloc (.cells #[iv 1,iv t,iv c,iv u,iv o] 46)).alloc (.cells #[iv 0,iv 0,iv 0,iv 0] 42)=W0 at hT0 rb0 ⊢
 refine (H0.out _ _ hT0.out).mono ?_
 rintro e W1 ⟨rfl,hT1,hk⟩
 have rb1:Hid (W1.heap[w.heap.size+1]?=some (.cells #[iv 0,iv 0,iv 0,iv 0] 42 (0,0))):=(hk _ (.inr rfl)).trans rb0.out
 have lv:w.heap.size+1<W1.heap.size:=(blt rb1.out)
 have HE:Hid (∀ v0 v1 v2 v3,jap P1 w ((((W1.setCell (aq (w.heap.size+1) 0) v0).setCell (aq (w.heap.size+1) 1) v1).setCell (aq (w.heap.size+1) 2) v2).setCell (aq (w.heap.size+1) 3) v3) own):=fun v0 v1 v2 v3=>jan (jc4 K1 hT1 hw.out (.inr rfl) v0 v1 v2 v3)
 obtain ⟨r0,r1,r2,r3⟩:=ja9 rb1.out
 have g0:=ja0 rb1.out 0
 have g1:=ja0 rb1.out 1
 have g2:=ja0 rb1.out 2
 have g3:=ja0 rb1.out 3
 clear hk hT0 hT1 rb0
 go_wp2
 refine bodyPost_ret (v:=.agg #[iv a0,iv a1,iv a2,iv a3]) (by simp [results,Tryz.results101,go_sem,r0,r1,r2,r3]) rfl ⟨rfl,?_⟩
 exact HE.out _ _ _ _
theorem jwb (x:Nat) (own:Nat->Prop) (P0 P1:World->(Nat->Prop)->Prop) (K0:Keeps P0) (K1:Keeps P1) (t c u o a0 a1 a2 a3:Int) (w:World) (hw:∀ k,own k->k<w.heap.size) (h:P0 w own)
 (H0:Hid (jc2 w own P0 P1 133 #[pt x 0,.agg #[iv 2,iv t,iv c,iv u,iv o]] (.agg #[iv a0,iv a1,iv a2,iv a3]))) :
 Calls Tryz.prog 101 #[pt x 0,.agg #[iv 2,iv t,iv c,iv u,iv o]] w fun e w'=>e=.returned (.agg #[iv a0,iv a1,iv a2,iv a3])/\jap P1 w w' own:=by
 replace hw:Hid _:=hw
 go_enter Tryz.func101,Tryz.ntmps101
 have hT0:Hid (ja7 P0 w own (fun j=>j=w.heap.size\/j=w.heap.size+1) ((w.alloc (.cells #[iv 2,iv t,iv c,iv u,iv o] 46)).alloc (.cells #[iv 0,iv 0,iv 0,iv 0] 42))):=jah K0 h (((Below.refl _ _).alloc (Nat.le_refl _) _).alloc (by simp) _) (fun j e=>by rcases e with e|e<;>(subst e;simp;try omega))
 have rb0:Hid (((w.alloc (.cells #[iv 2,iv t,iv c,iv u,iv o] 46)).alloc (.cells #[iv 0,iv 0,iv 0,iv 0] 42)).heap[w.heap.size+1]?=some (.cells #[iv 0,iv 0,iv 0,iv 0] 42 (0,0))):=by
  have h:=heap_alloc_new (w.alloc (.cells #[iv 2,iv t,iv c,iv u,iv o] 46)) (.cells #[iv 0,iv 0,iv 0,iv 0] 42)
  rwa [show (w.alloc (.cells #[iv 2,iv t,iv c,iv u,iv o] 46)).heap.size=w.heap.size+1 by simp] at h
 clear h
 go_wp2_with fail
 generalize (w.alloc (.cells #[iv 2,iv t,iv c,iv u,iv o] 46)).alloc (.cells #[iv 0,iv 0,iv 0,iv 0] 42)=W0 at hT0 rb0 ⊢
 refine (H0.out _ _ hT0.out).mono ?_
 rintro e W1 ⟨rfl,hT1,hk⟩
 have rb1:Hid (W1.heap[w.heap.size+1]?=some (.cells #[iv 0,iv 0,iv 0,iv 0] 42 (0,0))):=(hk _ (.inr rfl)).trans rb0.out
 have lv:w.heap.size+1<W1.heap.size:=(blt rb1.out)
 have HE:Hid (∀ v0 v1 v2 v3,jap P1 w ((((W1.setCell (aq (w.heap.size+1) 0) v0).setCell (aq (w.heap.size+1) 1) v1).setCell (aq (w.heap.size+1) 2) v2).setCell (aq (w.heap.size+1) 3) v3) own):=fun v0 v1 v2 v3=>jan (jc4 K1 hT1 hw.out (.inr rfl) v0 v1 v2 v3)
 obtain ⟨r0,r1,r2,r3⟩:=ja9 rb1.out
 have g0:=ja0 rb1.out 0
 have g1:=ja0 rb1.out 1
 have g2:=ja0 rb1.out 2
 have g3:=ja0 rb1.out 3
 clear hk hT0 hT1 rb0
 go_wp2
 refine bodyPost_ret (v:=.agg #[iv a0,iv a1,iv a2,iv a3]) (by simp [results,Tryz.results101,go_sem,r0,r1,r2,r3]) rfl ⟨rfl,?_⟩
 exact HE.out _ _ _ _
theorem jxc (x:Nat) (own:Nat->Prop) (P0 P1:World->(Nat->Prop)->Prop) (K0:Keeps P0) (K1:Keeps P1) (k t c u o a0 a1 a2 a3:Int) (w:World) (q1:(k==1)=false) (q2:(k==2)=false) (hw:∀ k,own k->k<w.heap.size) (h:P0 w own)
 (H0:Hid (jc2 w own P0 P1 134 #[pt x 0,.agg #[iv k,iv t,iv c,iv u,iv o]] (.agg #[iv a0,iv a1,iv a2,iv a3]))) :
 Calls Tryz.prog 101 #[pt x 0,.agg #[iv k,iv t,iv c,iv u,iv o]] w fun e w'=>e=.returned (.agg #[iv a0,iv a1,iv a2,iv a3])/\jap P1 w w' own:=by
 replace hw:Hid _:=hw
 go_enter Tryz.func101,Tryz.ntmps101
 have hT0:Hid (ja7 P0 w own (fun j=>j=w.heap.size\/j=w.heap.size+1) ((w.alloc (.cells #[iv k,iv t,iv c,iv u,iv o] 46)).alloc (.cells #[iv 0,iv 0,iv 0,iv 0] 42))):=jah K0 h (((Below.refl _ _).alloc (Nat.le_refl _) _).alloc (by simp) _) (fun j e=>by rcases e with e|e<;>(subst e;simp;try omega))
 have rb0:Hid (((w.alloc (.cells #[iv k,iv t,iv c,iv u,iv o] 46)).alloc (.cells #[iv 0,iv 0,iv 0,iv 0] 42)).heap[w.heap.size+1]?=some (.cells #[iv 0,iv 0,iv 0,iv 0] 42 (0,0))):=by
  have h:=heap_alloc_new (w.alloc (.cells #[iv k,iv t,iv c,iv u,iv o] 46)) (.cells #[iv 0,iv 0,iv 0,iv 0] 42)
  rwa [show (w.alloc (.cells #[iv k,iv t,iv c,iv u,iv o] 46)).heap.size=w.heap.size+1 by simp] at h
 clear h
 go_wp2_with fail
 generalize (w.alloc (.cells #[iv k,iv t,iv c,iv u,iv o] 46)).alloc (.cells #[iv 0,iv 0,iv 0,iv 0] 42)=W0 at hT0 rb0 ⊢
 refine (H0.out _ _ hT0.out).mono ?_
 rintro e W1 ⟨rfl,hT1,hk⟩
 have rb1:Hid (W1.heap[w.heap.size+1]?=some (.cells #[iv 0,iv 0,iv 0,iv 0] 42 (0,0))):=(hk _ (.inr rfl)).trans rb0.out
 have lv:w.heap.size+1<W1.heap.size:=(blt rb1.out)
 have HE:Hid (∀ v0 v1 v2 v3,jap P1 w ((((W1.setCell (aq (w.heap.size+1) 0) v0).setCell (aq (w.heap.size+1) 1) v1).setCell (aq (w.heap.size+1) 2) v2).setCell (aq (w.heap.size+1) 3) v3) own):=fun v0 v1 v2 v3=>jan (jc4 K1 hT1 hw.out (.inr rfl) v0 v1 v2 v3)
 obtain ⟨r0,r1,r2,r3⟩:=ja9 rb1.out
 have g0:=ja0 rb1.out 0
 have g1:=ja0 rb1.out 1
 have g2:=ja0 rb1.out 2
 have g3:=ja0 rb1.out 3
 clear hk hT0 hT1 rb0
 go_wp2
 refine bodyPost_ret (v:=.agg #[iv a0,iv a1,iv a2,iv a3]) (by simp [results,Tryz.results101,go_sem,r0,r1,r2,r3]) rfl ⟨rfl,?_⟩
 exact HE.out _ _ _ _
end Go.Proofs.YtfhncfghblkgeaaGreat
