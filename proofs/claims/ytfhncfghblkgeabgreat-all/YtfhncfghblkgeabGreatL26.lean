import Derived.Test.YtfhncfghblkgeabGreatL05
import Derived.Test.YtfhncfghblkgeabGreatL25
set_option maxRecDepth 100000
set_option maxHeartbeats 2000000
namespace Go.Proofs.YtfhncfghblkgeabGreat
open Go.RowKit
section
def Sal.confirm (S:Sal) (r:Req):Rep × Sal:=match oM S.os r.cust r.order with
 | none=>(⟨9,0,0,0⟩,S)
 | some i=>if (S.os.getD i qD).state≠13 then (⟨9,0,0,0⟩,S) else
   (⟨7,r.order,((yM (S.ends i 14) (qK (S.ends i 14).os)).promote.os.getD i qD).units * ((yM (S.ends i 14) (qK (S.ends i 14).os)).promote.os.getD i qD).cents,0⟩,(yM (S.ends i 14) (qK (S.ends i 14).os)).promote)
theorem tK {n:Nat}:∀ (qs:List Nat) (S:Sal),salI S->S.os.length=n->(∀ q∈qs,q<n)->salI (yM S qs)/\(yM S qs).os.length=n
 | [],S,h,hn,_=>⟨h,hn⟩
 | q :: qs,S,h,hn,hq=>by
   have hq':∀ q∈qs,q<n:=fun x hx=>hq x (List.mem_cons_of_mem _ hx)
   have e:yM S (q :: qs)=yM (if S.left<(S.os.getD q qD).units then S.ends q 18 else S) qs:=rfl
   rw [e]
   split
   ·exact tK qs _ (rN h (by rw [hn];exact hq q List.mem_cons_self) 18 (.inr vO) (fun e=>by cases e)) ((jU S q 18).trans hn) hq'
   ·exact tK qs _ h hn hq'
theorem cH:∀ (n:Nat) (S:Sal),salI S->salI (yJ n S)
 | 0,_,h=>h
 | n+1,S,h=>by
   unfold yJ
   split
   ·exact h
   ·next q qs hq =>
    split
    ·exact h
    ·next hf =>
     obtain ⟨_,hql,hqw⟩:=jY hq qD vO
     exact cH n _ (rZ h hql hqw hf _ rfl rfl rfl ⟨kO h.prices _ _ (uA _),(h.ords _ (zG hql)).2⟩)
theorem nH (S:Sal) (h:salI S):salI S.promote:=cH _ S h
section
variable {w w':World} {B R:Nat} {S:Sal} {ap:Option Addr} {lp cp:Nat} {vo va:Value}
theorem lQ {W':World} {n:Nat} (h:xU w w' B R S ap lp cp vo va n) (hb:Bl w' W'):xU w W' B R S ap lp cp vo va n :=
 ⟨qL h.1 hb,h.2.1,h.2.2.1,Same.trans h.2.2.2 (Same.of_below (own:=fun _=>False) hb) (fun _ _ e=>e.elim id False.elim)⟩
theorem Lf {a b:Int} (ha:1<=a/\a<=4294967296) (hb:0<=b/\b<=1073741824):0<=a * b/\a * b<=4611686018427387904:=by
 have h1:0<=a * b:=Int.mul_nonneg uO hb.1
 have h2:a * b<=4294967296 * 1073741824:=Int.mul_le_mul ha.2 hb.2 hb.1 uO
 exact ⟨h1,by simpa using h2⟩
theorem Ye (h:saleAt w B R S ap lp cp vo va) (hI:salI S) (hl:S.os.length * 48+48<=140737488351232) (r:Req) (ho:1<=r.order/\r.order<=4294967296) :
 Ca 146 #[pt R 0,r.val] w fun e w'=>e=.returned (S.confirm r).1.val/\xU w w' B R (S.confirm r).2 ap lp cp vo va S.os.length:=by
 have HF:=bJ h hl r ho
 unfold Sal.confirm
 cases hf:oM S.os r.cust r.order with
 | none =>
   rw [hf] at HF
   exact (Ys R r w HF).mono (by rintro e w' ⟨rfl,hb⟩;exact ⟨rfl,kU h hI hb⟩)
 | some i =>
   rw [hf] at HF
   obtain ⟨hi,_,_⟩:=Vb ho.1 hf
   obtain ⟨g,cap,hvo,hgw,_,_,hoc,_⟩:=eF h hi
   obtain ⟨_,_,_,_,_,_,_,_,_,c9,_⟩:=jS h.blk
   rw [hvo] at c9
   simp only
   have hown:∀ b,vo.ownBlock=some b↔b=g:=fun b=>by rw [hvo];simp [Value.ownBlock];exact eq_comm
   by_cases hs:(S.os.getD i qD).state≠13
   ·rw [uQ hs]
    exact (Zi R g cap _ i r w c9 hi _ hoc.2.2.1 hgw hs HF).mono (by rintro e w' ⟨rfl,hb⟩;exact ⟨rfl,kU h hI hb⟩)
   ·rw [uP hs]
    have hs':(S.os.getD i qD).state=13:=Classical.byContradiction hs
    have hI1:salI (S.ends i 14):=rN hI hi 14 (.inl rfl) (fun _=>hs')
    have hn1:=jU S i 14
    generalize hS1:S.ends i 14=S1 at hI1 hn1 ⊢
    have hqs:∀ q∈qK S1.os,q<S.os.length:=fun q hq=>by have:=dD S1.os _ q hq;omega
    have hql:(qK S1.os).length * 48<=140737488351232:=by have:=aN S1.os S1.os.length;unfold qK;omega
    generalize hqe:qK S1.os=qs at hqs hql ⊢
    have hD:∀ k,salI (yM S1 (qs.take k))/\(yM S1 (qs.take k)).os.length=S.os.length:=fun k=>tK (qs.take k) S1 hI1 hn1 (fun q hq=>hqs q (List.mem_of_mem_take hq))
    have hDa:yM S1 (qs.take qs.length)=yM S1 qs:=by rw [List.take_length]
    have same_g:∀ {x y:World},Same (fun b=>vo.ownBlock=some b) x y->Same (fun b=>b=g) x y:=fun a=>⟨a.os,a.tape,a.output,a.size,fun k hk hn=>a.block k hk (fun c=>hn ((hown k).1 c))⟩
    have hP:∀ W,xU w W B R (yM S1 qs) ap lp cp vo va S.os.length->Ca 150 #[pt R 0] W fun e w'=>e=.returned (.tuple #[])/\xU w w' B R (yM S1 qs).promote ap lp cp vo va S.os.length/\Same (fun b=>b=g) W w':=fun W hW=>by
     obtain ⟨b1,b2,b3,b4⟩:=hW
     refine (gE B R _ ap lp cp vo va W b1 b2 (by rw [b3];exact hl)).mono ?_
     rintro e w' ⟨rfl,a1,a2,a3⟩
     exact ⟨rfl,⟨a1,a2,(jL _).trans b3,Same.trans b4 a3 (fun k _ e=>e.elim id id)⟩,same_g a3⟩
    have hPI:salI (yM S1 qs).promote:=nH (yM S1 qs) (hDa▸(hD qs.length).1)
    have hPl:(yM S1 qs).promote.os.length=S.os.length:=(jL _).trans (hDa▸(hD qs.length).2)
    have hPm:=zG (os:=(yM S1 qs).promote.os) (i:=i) uO
    refine Vc R g cap _ i r w c9 hi _ hoc.2.2.1 hgw hs' qs hqs hql _
     (fun W=>xU w W B R S1 ap lp cp vo va S.os.length)
     (fun k W=>xU w W B R (yM S1 (qs.take k)) ap lp cp vo va S.os.length)
     (fun W=>xU w W B R (yM S1 qs).promote ap lp cp vo va S.os.length) _
     (fun k=>(yM S1 (qs.take k)).left) (fun k=>((yM S1 (qs.take k)).os.getD (qs.getD k 0) qD).units)
     HF (fun W hb=>?_) (fun W hW=>?_) (fun W W' hW hb=>lQ hW hb) (fun k W W' hW hb=>lQ hW hb) (fun k W hW=>?_) (fun k W hW=>?_) (fun k W hk hd hW=>?_) (fun k W hk hd hW=>?_) (fun W hW=>?_) (Lf (hPI.units _ hPm) (hPI.ords _ hPm).1) (fun W W' hW hs=>rL h uO hW hs)
    ·refine (mF (qL h hb) hi 14 W (uM _ _)).mono ?_
     rintro e w' ⟨rfl,a1,a2⟩
     rw [hS1] at a1
     exact ⟨rfl,⟨a1,hI1,hn1,Same.trans (Same.of_below (own:=fun _=>False) hb) a2 (fun k _ e=>e.elim False.elim id)⟩,same_g a2⟩
    ·have:=gO hW.1 (hI1.N (by rw [hn1];exact hl)) W (uM _ _)
     rw [hqe] at this
     exact this
    ·obtain ⟨_,_,_,_,_,_,_,_,_,x9,_⟩:=jS hW.1.blk
     rw [hvo] at x9
     have hz:=hW.2.2.2.size
     refine ⟨x9,uC W _ x9,uO,fun hk=>?_⟩
     have hq:qs.getD k 0<(yM S1 (qs.take k)).os.length:=by
        have e:qs.getD k 0=qs[k]:=by simp [List.getD,uD hk]
        rw [(hD k).2,e]
        exact hqs _ (List.getElem_mem hk)
     obtain ⟨g',cap',hvo',_,_,_,ho',_⟩:=eF hW.1 hq
     rw [hvo] at hvo'
     simp at hvo'
     rw [← hvo'.1] at ho'
     exact ho'.2.1
    ·exact bG hW.1 ((hD k).1.N (by rw [(hD k).2];exact hl)) W (uM _ _)
    ·have hq:qs.getD k 0<(yM S1 (qs.take k)).os.length:=by
        have e:qs.getD k 0=qs[k]:=by simp [List.getD,uD hk]
        rw [(hD k).2,e]
        exact hqs _ (List.getElem_mem hk)
     refine (mF hW.1 hq 18 W (uM _ _)).mono ?_
     rintro e w' ⟨rfl,a1,a2⟩
     have e:=wK S1 qs hk
     rw [uQ hd] at e
     rw [← e] at a1
     exact ⟨rfl,⟨a1,(hD _).1,(hD _).2,Same.trans hW.2.2.2 a2 (fun k _ e=>e.elim id id)⟩,same_g a2⟩
    ·have e:=wK S1 qs hk
     rw [uP uO] at e
     rw [e]
     exact hW
    ·rw [hDa] at hW
     refine (hP W hW).mono ?_
     rintro e w' ⟨rfl,a1,a2⟩
     obtain ⟨_,_,_,_,_,_,_,_,_,x9,_⟩:=jS a1.1.blk
     rw [hvo] at x9
     obtain ⟨g',cap',hvo',hg',_,_,ho',_⟩:=eF a1.1 (i:=i) uO
     rw [hvo] at hvo'
     simp at hvo'
     rw [← hvo'.1] at ho' hg'
     exact ⟨rfl,a1,a2,_,_,x9,ho'.2.1,ho'.2.2.2.1,rfl,uC w' _ x9,hg'⟩
end
end
theorem Tryz.infoOrder:(Tryz.prog.info? 213).map (fun i=>(i.zero,i.size,i.bytes))=some (some (.agg #[iv 0,iv 0,iv 0,iv 0,iv 0,iv 0]),6,48):=by kernel_rfl
def lP (w w':World) (B R:Nat) (C:Array Value) (v:Value) (n:Nat) (E L:List Value):Prop :=
 ∃ g cap,w'.heap[R]?=some (.cells (C.setIfInBounds 9 (.slice (some (aq g 0)) (n+1) cap)) 170 (0,0))/\w'.ownsRow B 213 6 (.slice (some (aq g 0)) (n+1) cap) (n+1) (E++L)/\Same (fun b=>b=R\/v.ownBlock=some b) w w'/\(v.ownBlock=some g\/w.heap.size+2<=g)
theorem Ra {w w1 w3:World} {B R n g cap:Nat} {C:Array Value} {v:Value} {E L:List Value} {O:Obj} (hb:Bl w w1) (hz:w.heap.size+2<=w1.heap.size) (hR:R<w.heap.size) (hR1:w1.heap[R]?=some (.cells C 170)) (hv:v.ownBlock≠some R)
 (hown:w3.ownsRow B 213 6 (.slice (some (aq g 0)) (n+1) cap) (n+1) (E++L)) (hg:(w1.alloc O).grownBy w3 v.ownBlock) (hat:v.ownBlock=some g\/g=w1.heap.size+1) :
 lP w (w3.sc R 9 (.slice (some (aq g 0)) (n+1) cap)) B R C v n E L:=by
 have k1:∀ k,k<w1.heap.size->v.ownBlock≠some k->w3.heap[k]?=w1.heap[k]?:=fun k hk hn=>(hg.block k uT (fun e=>hn e.symm)).trans (uE w1 O k hk)
 have z3:w1.heap.size+1<=w3.heap.size:=by have:=hg.size;simpa using this
 have z1:=hb.size
 have hR3:w3.heap[R]?=some (.cells C 170):=(k1 R uO hv).trans hR1
 have ks:∀ k,k≠R->(w3.sc R 9 (.slice (some (aq g 0)) (n+1) cap)).heap[k]?=w3.heap[k]?:=fun k hk=>uG _ (aq R 9) _ _ hk
 have hgR:g≠R:=by
  rintro rfl
  rcases hat with e|e
  ·exact hv e
  ·omega
 refine ⟨g,cap,uH hR3 _,qG hown (fun k hk=>ks k (fun e=>hgR (by simp [Value.ownBlock] at hk;exact hk.trans e))),⟨hg.os.trans hb.os,hg.tape.trans hb.tape,hg.output.trans hb.output,by simp [World.setCell];omega,fun k hk hn=>?_⟩,hat.imp id (fun e=>uO)⟩
 rw [ks k (fun e=>hn (.inl e)),k1 k uO (fun e=>hn (.inr e))]
 exact hb.block k hk
theorem Dd {w w' w'':World} {B R n b:Nat} {C:Array Value} {v:Value} {E L:List Value} (h:lP w w' B R C v n E L) (hb:b=w.heap.size+1) (hR:R<w.heap.size) (hv:∀ k,v.ownBlock=some k->k<w.heap.size) (hs:Same (fun x=>x=b) w' w''):lP w w'' B R C v n E L:=by
 obtain ⟨g,cap,h1,h2,h3,h4⟩:=h
 have z:=h3.size
 have hg:g≠b:=by
  rcases h4 with e|e
  ·have:=hv g e;omega
  ·omega
 refine ⟨g,cap,(hs.block R uO (fun e=>uO)).trans h1,?_,Same.trans h3 hs (fun k hk e=>e.elim id (fun e=>uO)),h4⟩
 refine qG h2 (fun k hk=>?_)
 have e:g=k:=by simpa [Value.ownBlock] using hk
 subst e
 exact hs.block _ ((uJ h2 _ hk).2) hg
theorem Im (R B ql:Nat) (r:Req) (w:World) (uv:Int->Int) (cap lf fr qm now wt:Int) (C:Array Value) (oo:Option Addr) (n oc':Nat) (E:List Value) (Post:Ending->World->Prop) (h1:w.cell? (aq R 1)=some (iv cap)) (ha:0<=uv 13/\uv 13<=4294967296) (hb:0<=uv 14/\uv 14<=4294967296) (hd:0<=uv 12/\uv 12<=4294967296) (hu:0<=r.units/\r.units<=4294967296) (h9:w.cell? (aq R 9)=some (.slice oo n oc')) (h2:w.cell? (aq R 2)=some (iv qm)) (hq0:0<qm)
 (h8:w.cell? (aq R 8)=some (iv now)) (h4:w.cell? (aq R 4)=some (iv wt)) (hnw:0<=now/\now<=4611686018427387904/\0<=wt/\wt<=4294967296)
 (hR:w.heap[R]?=some (.cells C 170)) (hO:w.ownsRow B 213 6 (.slice oo n oc') n E) (hB:B<=w.heap.size)
 (HU:Hid (∀ st:Int,(st=13\/st=14\/st=12)->∀ W,Below w.heap.size w W->Ca 122 #[pt R 0,iv st,iv r.cust] W fun e w'=>e=.returned (iv (uv st))/\Below W.heap.size W w'))
 (HQ:Hid (∀ W,Below w.heap.size w W->Ca 120 #[pt R 0] W fun e w'=>∃ oa oc,e=.returned (.slice oa ql oc)/\Below W.heap.size W w'))
 (HL:Hid (∀ W,Below w.heap.size w W->Ca 148 #[pt R 0] W fun e w'=>e=.returned (iv lf)/\Below W.heap.size W w'))
 (HFR:Hid (∀ W,Below w.heap.size w W->Ca 121 #[pt R 0] W fun e w'=>e=.returned (iv fr)/\Below W.heap.size W w'))
 (H4:Hid (cap<uv 13+uv 14+uv 12+r.units->∀ w',Below w.heap.size w w'->Post (.returned (.agg #[iv 4,iv 0,iv 0,iv 0])) w'))
 (H5:Hid (¬ cap<uv 13+uv 14+uv 12+r.units->lf<r.units->∀ w',Below w.heap.size w w'->Post (.returned (.agg #[iv 5,iv 0,iv 0,iv 0])) w'))
 (H6:Hid (¬ cap<uv 13+uv 14+uv 12+r.units->¬ lf<r.units->4294967296<=n->∀ w',Below w.heap.size w w'->Post (.returned (.agg #[iv 6,iv 0,iv 0,iv 0])) w'))
 (H7:Hid (¬ cap<uv 13+uv 14+uv 12+r.units->¬ lf<r.units->n<4294967296->0<ql->(ql:Int)=qm->∀ w',Below w.heap.size w w'->Post (.returned (.agg #[iv 6,iv 0,iv 0,iv 0])) w'))
 (HW:Hid (¬ cap<uv 13+uv 14+uv 12+r.units->¬ lf<r.units->n<4294967296->(0<ql\/fr<r.units)->(ql:Int)≠qm->∀ w',lP w w' B R C (.slice oo n oc') n E [iv r.cust,iv r.units,iv 12,iv 0,iv (now+wt),iv 0]->Post (.returned (.agg #[iv 3,iv (n+1),iv 0,iv (now+wt)])) w'))
 (HG:Hid (¬ cap<uv 13+uv 14+uv 12+r.units->¬ lf<r.units->n<4294967296->ql=0->¬ fr<r.units->∃ (ct up:Int) (Q:World->Prop),Hid (∀ W,w.heap.size+1<W.heap.size->lP w W B R C (.slice oo n oc') n E [iv r.cust,iv r.units,iv 0,iv 0,iv 0,iv 0]->Ca 165 #[pt R 0,iv n] W fun e w'=>e=.returned (.tuple #[])/\Q w'/\w'.heap[w.heap.size+1]?=W.heap[w.heap.size+1]?/\W.heap.size<=w'.heap.size/\∃ g cp,w'.cell? (aq R 9)=some (.slice (some (aq g 0)) (n+1) cp)/\w'.cell? (aq g (n * 6+3))=some (iv ct)/\w'.cell? (aq g (n * 6+4))=some (iv up)/\g<w'.heap.size)/\Hid (∀ W W',Q W->Same (fun b=>b=w.heap.size+1) W W'->Q W')/\∀ w',Q w'->Post (.returned (.agg #[iv 2,iv (n+1),iv ct,iv up])) w')) :
 Ca 145 #[pt R 0,r.val] w Post:=by
 replace h9:Hid _:=h9
 replace h2:Hid _:=h2
 replace h8:Hid _:=h8
 replace h4:Hid _:=h4
 replace hR:Hid _:=hR
 replace hO:Hid _:=hO
 obtain ⟨k,t,c,u,o⟩:=r
 unfold Req.val
 simp only at HU hu H4 H5 H6 H7 HW HG ⊢
 have hRw:R<w.heap.size:=uC w _ h1
 go_enter Tryz.func145,Tryz.ntmps145
 go_wp2_with fail
 have w01:=(zq3 w #[iv k,iv t,iv c,iv u,iv o] 39 #[iv 0,iv 0,iv 0,iv 0] 33).out
 have rb:=(zq1 w #[iv k,iv t,iv c,iv u,iv o] 39 #[iv 0,iv 0,iv 0,iv 0] 33).out
 have n0:((w.alloc (.cells #[iv k,iv t,iv c,iv u,iv o] 39)).alloc (.cells #[iv 0,iv 0,iv 0,iv 0] 33)).heap[w.heap.size+1]?=some (.cells #[iv 0,iv 0,iv 0,iv 0] 33):=by
  have:=uF (w.alloc (.cells #[iv k,iv t,iv c,iv u,iv o] 39)) (.cells #[iv 0,iv 0,iv 0,iv 0] 33)
  rwa [show (w.alloc (.cells #[iv k,iv t,iv c,iv u,iv o] 39)).heap.size=w.heap.size+1 by simp] at this
 have hz:w.heap.size+2<=((w.alloc (.cells #[iv k,iv t,iv c,iv u,iv o] 39)).alloc (.cells #[iv 0,iv 0,iv 0,iv 0] 33)).heap.size:=by simp
 generalize (w.alloc (.cells #[iv k,iv t,iv c,iv u,iv o] 39)).alloc (.cells #[iv 0,iv 0,iv 0,iv 0] 33)=W0 at w01 rb n0 hz ⊢
 have e2:W0.cell? (aq w.heap.size 2)=some (iv c):=cB rb
 replace w01:Hid _:=w01
 replace rb:Hid _:=rb
 replace n0:Hid _:=n0
 have hz0:w.heap.size<W0.heap.size:=uO
 replace hu:Hid _:=hu
 replace h1:Hid _:=h1
 go_region_held3 (fun w'=>w'.cell? (aq w.heap.size 2)=some (iv c)) (simp [go_sem, *])
  (first|(go_at_call 122;refine (HU.out _ vO _ bL).mono ?_;rintro e w1 ⟨rfl,b⟩
          replace w01:Hid (Below w.heap.size w w1):=uL (show Below w.heap.size w _ from bL) (b.mono (by first|omega|(simp<;>omega)))
          replace rb:Hid (w1.heap[w.heap.size]?=_):=(b.block w.heap.size (by first|omega|(simp<;>omega))).trans rb.out
          replace n0:Hid (w1.heap[w.heap.size+1]?=_):=(b.block (w.heap.size+1) (by first|omega|(simp<;>omega))).trans n0.out
          have e2:w1.cell? (aq w.heap.size 2)=some (iv c):=cB rb.out
          replace hz:w.heap.size+2<=w1.heap.size:=uX hz (by have:=b.size;first|exact this|simpa using this)
          have hz0:w.heap.size<w1.heap.size:=uO
          clear b))
 have hw1:IntKind.i64.wrap (uv 13+uv 14)=uv 13+uv 14:=yA uO uO
 have hw2:IntKind.i64.wrap (uv 13+uv 14+uv 12)=uv 13+uv 14+uv 12:=yA uO uO
 rw [hw1,hw2]
 have hu':0<=u/\u<=4294967296:=hu.out
 have hh:0<=uv 13+uv 14+uv 12/\uv 13+uv 14+uv 12<=12884901888:=uO
 clear hw1 hw2 hu
 generalize uv 13+uv 14+uv 12=has at hh H4 H5 H6 H7 HW HG ⊢
 clear ha hb hd HU
 go_wp2_with
  (first|(go_at_call 120;refine (HQ.out  _ bL).mono ?_;rintro e w1 ⟨oa,oc,rfl,b⟩
          replace w01:Hid (Below w.heap.size w w1):=uL (show Below w.heap.size w _ from bL) (b.mono (by first|omega|(simp<;>omega)))
          replace rb:Hid (w1.heap[w.heap.size]?=_):=(b.block w.heap.size (by first|omega|(simp<;>omega))).trans rb.out
          replace n0:Hid (w1.heap[w.heap.size+1]?=_):=(b.block (w.heap.size+1) (by first|omega|(simp<;>omega))).trans n0.out
          have e2:w1.cell? (aq w.heap.size 2)=some (iv c):=cB rb.out
          replace hz:w.heap.size+2<=w1.heap.size:=uX hz (by have:=b.size;first|exact this|simpa using this)
          have hz0:w.heap.size<w1.heap.size:=uO
          clear b))
 have e3:w1.cell? (aq w.heap.size 3)=some (iv u):=cB rb.out
 have x1:=(w01.out.cell (p:=(aq R 1)) hRw).trans h1.out
 have hRw1:R<w1.heap.size:=uO
 have hw:IntKind.i64.wrap (has+u)=has+u:=yA uO uO
 by_cases hc':cap<has+u
 ·have hcd:decide (cap<has+u)=true:=by simpa using hc'
  go_quiet (fail)
  obtain ⟨s0,s1,s2,s3⟩:=qC n0.out
  have f0:=qA n0.out 0
  have f1:=qA n0.out 1
  have f2:=qA n0.out 2
  have f3:=qA n0.out 3
  have hz1:w.heap.size+1<w1.heap.size:=uO
  go_wp2
  refine uK (v:=.agg #[iv 4,iv 0,iv 0,iv 0]) (by simp [results,Tryz.results145,go_sem,s0,s1,s2,s3]) rfl (H4.out hc' _ bL)
 have hcd:decide (cap<has+u)=false:=by simpa using hc'
 replace hc':Hid (has+u<=cap):=Int.not_lt.1 hc'
 have hldx:decide (lf<u)=true\/decide (lf<u)=false:=by cases decide (lf<u)<;>simp
 rcases hldx with hld|hld
 all_goals
  go_quiet (fail)
  clear hcd hw hh hu' x1 e2
  go_wp2_with fail
  go_region_held3 (fun w'=>w'.cell? (aq w.heap.size 3)=some (iv u)) (simp [go_sem, *])
   (first|(go_at_call 148;refine (HL.out  _ bL).mono ?_;rintro e w1 ⟨rfl,b⟩
           replace w01:Hid (Below w.heap.size w w1):=uL (show Below w.heap.size w _ from bL) (b.mono (by first|omega|(simp<;>omega)))
           replace rb:Hid (w1.heap[w.heap.size]?=_):=(b.block w.heap.size (by first|omega|(simp<;>omega))).trans rb.out
           replace n0:Hid (w1.heap[w.heap.size+1]?=_):=(b.block (w.heap.size+1) (by first|omega|(simp<;>omega))).trans n0.out
           have e3:w1.cell? (aq w.heap.size 3)=some (iv u):=cB rb.out
           replace hz:w.heap.size+2<=w1.heap.size:=uX hz (by have:=b.size;first|exact this|simpa using this)
           have hz0:w.heap.size<w1.heap.size:=uO
           clear b))
 ·obtain ⟨s0,s1,s2,s3⟩:=qC n0.out
  have f0:=qA n0.out 0
  have f1:=qA n0.out 1
  have f2:=qA n0.out 2
  have f3:=qA n0.out 3
  have hz1:w.heap.size+1<w1.heap.size:=uO
  go_wp2
  refine uK (v:=.agg #[iv 5,iv 0,iv 0,iv 0]) (by simp [results,Tryz.results145,go_sem,s0,s1,s2,s3]) rfl (H5.out (by have:=hc'.out;omega) (by have:=of_decide_eq_true hld;omega) _ bL)
 have hl:Hid (u<=lf):=Int.not_lt.1 (of_decide_eq_false hld)
 have x9:=(w01.out.cell (p:=(aq R 9)) hRw).trans h9.out
 have hRw2:R<w1.heap.size:=uO
 by_cases hn:4294967296<=n
 ·have hnd:decide ((4294967296:Int)<=(n:Int))=true:=by simp;omega
  obtain ⟨s0,s1,s2,s3⟩:=qC n0.out
  have f0:=qA n0.out 0
  have f1:=qA n0.out 1
  have f2:=qA n0.out 2
  have f3:=qA n0.out 3
  have hz1:w.heap.size+1<w1.heap.size:=uO
  go_wp2
  refine uK (v:=.agg #[iv 6,iv 0,iv 0,iv 0]) (by simp [results,Tryz.results145,go_sem,s0,s1,s2,s3]) rfl (H6.out (by have:=hc'.out;omega) (by have:=hl.out;omega) hn _ bL)
 have hnd:decide ((4294967296:Int)<=(n:Int))=false:=by simp;omega
 have cs:(0<ql/\(ql:Int)=qm)\/(ql=0/\¬ fr<u)\/(0<ql/\(ql:Int)≠qm)\/(ql=0/\fr<u):=uO
 rcases cs with ⟨hq,hqm⟩|⟨hq,hf⟩|⟨hq,hqm⟩|⟨hq,hf⟩
 ·have hqd:decide ((0:Int)<(ql:Int))=true:=by simp;omega
  have x2:=(w01.out.cell (p:=(aq R 2)) hRw).trans h2.out
  obtain ⟨s0,s1,s2,s3⟩:=qC n0.out
  have f0:=qA n0.out 0
  have f1:=qA n0.out 1
  have f2:=qA n0.out 2
  have f3:=qA n0.out 3
  have hz1:w.heap.size+1<w1.heap.size:=uO
  have hqe:((ql:Int)==qm)=true:=by simpa using hqm
  go_wp2_with fail
  go_quiet (fail)
  go_wp2
  refine uK (v:=.agg #[iv 6,iv 0,iv 0,iv 0]) (by simp [results,Tryz.results145,go_sem,s0,s1,s2,s3]) rfl (H7.out (by have:=hc'.out;omega) (by have:=hl.out;omega) uO hq hqm _ bL)
 ·obtain ⟨ct,up,Q,HH,HQF,hP⟩:=HG.out (by have:=hc'.out;omega) (by have:=hl.out;omega) uO hq uO
  have HP:Hid _:=hP
  clear hP
  subst hq
  have hfd:decide (fr<u)=false:=by simpa using hf
  go_wp2_with fail
  clear x9 hld
  go_region_held3 (fun w'=>w'.cell? (aq w.heap.size 3)=some (iv u)) (simp [go_sem, *])
   (first|(go_at_call 121;refine (HFR.out  _ bL).mono ?_;rintro e w1 ⟨rfl,b⟩
           replace w01:Hid (Below w.heap.size w w1):=uL (show Below w.heap.size w _ from bL) (b.mono (by first|omega|(simp<;>omega)))
           replace rb:Hid (w1.heap[w.heap.size]?=_):=(b.block w.heap.size (by first|omega|(simp<;>omega))).trans rb.out
           replace n0:Hid (w1.heap[w.heap.size+1]?=_):=(b.block (w.heap.size+1) (by first|omega|(simp<;>omega))).trans n0.out
           have e3:w1.cell? (aq w.heap.size 3)=some (iv u):=cB rb.out
           replace hz:w.heap.size+2<=w1.heap.size:=uX hz (by have:=b.size;first|exact this|simpa using this)
           have hz0:w.heap.size<w1.heap.size:=uO
           clear b))
  have hRw3:R<w1.heap.size:=uO
  go_wp2_with fail
  clear hnd hfd e3 hz0 hRw1 hRw2 hRw3
  have x9:=(w01.out.cell (p:=(aq R 9)) hRw).trans h9.out
  have hz0:w.heap.size<w1.heap.size:=uO
  have hRw2:R<w1.heap.size:=uO
  have e2:w1.cell? (aq w.heap.size 2)=some (iv c):=cB rb.out
  have e3:w1.cell? (aq w.heap.size 3)=some (iv u):=cB rb.out
  have hR1:w1.heap[R]?=some (.cells C 170):=(w01.out.block R hRw).trans hR.out
  have C9:C[9]?=some (.slice oo n oc'):=by rw [← h9.out,uI hR.out]
  have hO1:Hid (w1.ownsRow B 213 6 (.slice oo n oc') n E):=qH hO.out w01.out (uA _)
  have hvt:∀ k,Value.ownBlock (.slice oo n oc')=some k->k<w.heap.size:=fun k hk=>(uJ hO.out k hk).2
  have hvR:Value.ownBlock (.slice oo n oc')≠some R:=qP hO1.out hR1 vO
  obtain ⟨i0,j0,j1,j2,j3⟩:=info_parts Tryz.infoOrder
  have hnb:Hid ((w1.alloc (.cells #[iv c,iv u,iv 0,iv 0,iv 0,iv 0] 213)).heap[w1.heap.size]?=some (.cells #[iv c,iv u,iv 0,iv 0,iv 0,iv 0] 213)):=uF _ _
  have HAE:Hid (∀ w3 g cp O,w3.ownsRow B 213 6 (.slice (some (aq g 0)) (n+1) cp) (n+1) (E++[iv c,iv u,iv 0,iv 0,iv 0,iv 0])->(w1.alloc O).grownBy w3 (Value.ownBlock (.slice oo n oc'))->(Value.ownBlock (.slice oo n oc')=some g\/g=w1.heap.size+1)->lP w (w3.setCell (aq R 9) (.slice (some (aq g 0)) (n+1) cp)) B R C (.slice oo n oc') n E [iv c,iv u,iv 0,iv 0,iv 0,iv 0]):=fun w3 g cp O a b d=>Ra w01.out hz hRw hR1 hvR a b d
  have HK3:Hid (∀ w3 O,(w1.alloc O).drew.grownBy w3 (Value.ownBlock (.slice oo n oc'))->w3.heap[R]?=some (.cells C 170)/\w3.heap[w.heap.size+1]?=some (.cells #[iv 0,iv 0,iv 0,iv 0] 33)/\w3.cell? (aq w.heap.size 2)=some (iv c)/\w3.cell? (aq w.heap.size 3)=some (iv u)):=fun w3 O hg=>by
   have k3:∀ k,k<w1.heap.size->Value.ownBlock (.slice oo n oc')≠some k->w3.heap[k]?=w1.heap[k]?:=fun k hk hn=>(hg.block k uT (fun e=>hn e.symm)).trans (uE w1 _ k hk)
   have r3:=(k3 w.heap.size uO (fun e=>by have:=hvt _ e;omega)).trans rb.out
   exact ⟨(k3 R hRw2 hvR).trans hR1,(k3 (w.heap.size+1) uO (fun e=>by have:=hvt _ e;omega)).trans n0.out,cB r3,cB r3⟩
  have hRn:R≠w.heap.size+1:=uO
  have hRn':w.heap.size+1≠R:=uO
  have hBw:B<=w1.heap.size:=uO
  replace hR1:Hid _:=hR1
  replace C9:Hid _:=C9
  replace hvt:Hid _:=hvt
  replace hvR:Hid _:=hvR
  refine wp_region_held_drew (S:=(fun w'=>w'.cell? (aq w.heap.size 2)=some (iv c)/\w'.cell? (aq w.heap.size 3)=some (iv u))) vK uN (fun hHeld=>?_)
  refine wpAnyH_take (i:=0) (v:=?_) rfl vK vK vK (fun _ _ _ h=>h) (Or.inl ⟨by rfl,?_⟩) vP ?_
  rotate_left
  ·(intro w_ hSw;(try dsimp only at hSw);go_simp;try with_reducible rfl)
  simp only [Act.put,List.getElem_toArray,List.getElem_cons_zero,List.setIfInBounds_toArray,List.set_cons_zero,List.set_cons_succ]
  refine wpAnyH_take (i:=1) (v:=?_) rfl vK vK vK (fun _ _ _ h=>h) (Or.inl ⟨by rfl,?_⟩) vP ?_
  rotate_left
  ·(intro w_ hSw;(try dsimp only at hSw);go_simp;try with_reducible rfl)
  simp only [Act.put,lA,lB,lC,lD,lE,lF]
  refine wpAnyH_take (i:=2) (v:=?_) rfl vK vK vK (fun _ _ _ h=>h) (Or.inl ⟨by rfl,?_⟩) vP ?_
  rotate_left
  ·(intro w_ hSw;(try dsimp only at hSw);go_simp;try with_reducible rfl)
  simp only [Act.put,lA,lB,lC,lD,lE,lF]
  refine wpAnyH_take (i:=3) (v:=?_) rfl vK vK vK (fun _ _ _ h=>h) (Or.inl ⟨by rfl,?_⟩) vP ?_
  rotate_left
  ·(intro w_ hSw;(try dsimp only at hSw);go_simp;try with_reducible rfl)
  simp only [Act.put,lA,lB,lC,lD,lE,lF]
  refine wpAnyH_take (i:=5) (v:=?_) rfl vK vK vK (fun _ _ _ h=>h) (Or.inl ⟨by rfl,?_⟩) vP ?_
  rotate_left
  ·(intro w_ hSw;(try dsimp only at hSw);go_simp;try with_reducible rfl)
  simp only [Act.put,lA,lB,lC,lD,lE,lF]
  refine wpAnyH_take (i:=6) (v:=?_) rfl vK vK vK (fun _ _ _ h=>h) (Or.inl ⟨by rfl,?_⟩) vP ?_
  rotate_left
  ·(intro w_ hSw;(try dsimp only at hSw);go_simp;try with_reducible rfl)
  simp only [Act.put,lA,lB,lC,lD,lE,lF]
  refine wpAnyH_take (i:=7) (v:=?_) rfl vK vK vK (fun _ _ _ h=>h) (Or.inl ⟨by rfl,?_⟩) vP ?_
  rotate_left
  ·(intro w_ hSw;(try dsimp only at hSw);go_simp;try with_reducible rfl)
  simp only [Act.put,lA,lB,lC,lD,lE,lF]
  refine wpAnyH_take (i:=8) (v:=?_) rfl vK vK vK (fun _ _ _ h=>h) (Or.inl ⟨by rfl,?_⟩) vP ?_
  rotate_left
  ·(intro w_ hSw;(try dsimp only at hSw);go_simp;try with_reducible rfl)
  simp only [Act.put,lA,lB,lC,lD,lE,lF]
  refine wpAnyH_take (i:=9) (v:=?_) rfl vK vK vK (fun _ _ _ h=>h) (Or.inl ⟨by rfl,?_⟩) vP ?_
  rotate_left
  ·(intro w_ hSw;(try dsimp only at hSw);go_simp;try with_reducible rfl)
  simp only [Act.put,lA,lB,lC,lD,lE,lF]
  refine wpAnyH_ready (rs:=[4,10]) vK vS ?_
  refine AllReadyH.cons rfl (fun K hK=>?_) (AllReadyH.cons rfl (fun K hK=>?_) AllReadyH.nil)
  go_simp
  refine hK.out _ _ (by (try dsimp only);simp [go_sem, *]) (fun hHeld=>?_)
  clear hK K
  refine wpAnyH_ready (rs:=[10]) vK vS ?_
  rotate_left
  go_simp
  refine hK.out _ _ (by (try dsimp only);simp [go_sem, *]) (fun hHeld=>?_)
  clear hK K
  refine wpAnyH_ready (rs:=[4]) vK vS ?_
  all_goals
   refine AllReadyH.cons rfl (fun K hK=>?_) AllReadyH.nil
   go_simp
   refine hK.out _ _ (by (try dsimp only);simp [go_sem, *]) (fun hHeld=>?_)
   clear hK K
   refine wpAnyH_ready (rs:=[11]) vK vS ?_
   refine AllReadyH.cons rfl (fun K hK=>?_) AllReadyH.nil
   refine step_append_lies _ (by rfl) _ _ _ (by rfl) B 213 i0 (.agg #[iv 0,iv 0,iv 0,iv 0,iv 0,iv 0]) 6 48 Tryz.underlying167 j0 j1 j2 j3 rfl uO (.slice oo n oc') n E (by rfl) ((show w1.ownsRow B 213 6 (.slice oo n oc') n E from hO1.out).alloc _).drew (aq w1.heap.size 0) 1 1 [iv c,iv u,iv 0,iv 0,iv 0,iv 0] (by rfl) (by rfl) (World.news_of_block (cs:=#[iv c,iv u,iv 0,iv 0,iv 0,iv 0]) (t:=213) (fr:=(0,0)) hnb.out) (by simp [Value.oneCell']) uO (by unfold maxLen;omega) uO uT (w1.heap.size+1) vS ?_
   intro gg cp w3 hown3 hgrow hat hlt
   obtain ⟨hR3,n3,g2,g3⟩:=HK3.out w3 _ hgrow
   replace hown3:Hid _:=hown3
   replace hgrow:Hid _:=hgrow
   replace hat:Hid _:=hat
   have g9:w3.cell? (aq R 9)=some (.slice oo n oc'):=by rw [uI hR3];exact C9.out
   have gf:=qA hR3 9
   obtain ⟨s0,s1,s2,s3⟩:=qC n3
   have f0:=qA n3 0
   have f1:=qA n3 1
   have f2:=qA n3 2
   have f3:=qA n3 3
   have hR3w:R<w3.heap.size:=(Array.getElem?_eq_some_iff.1 hR3).1
   have hz3:w.heap.size+1<w3.heap.size:=(Array.getElem?_eq_some_iff.1 n3).1
   replace hR3:Hid _:=hR3
   replace n3:Hid _:=n3
   refine hK.out _ _ (by (try dsimp only);simp [go_sem, *]) (fun hHeld=>?_)
   clear hK K
   refine wpAnyH_take (i:=12) (v:=?_) rfl vK vK vK (fun _ _ _ h=>h) (Or.inl ⟨by rfl,?_⟩) vP ?_
   rotate_left
   ·(intro w_ hSw;(try dsimp only at hSw);go_simp;try with_reducible rfl)
   simp only [Act.put,lA,lB,lC,lD,lE,lF]
   refine wpAnyH_take (i:=13) (v:=?_) rfl vK vK vK (fun _ _ _ h=>h) (Or.inl ⟨by rfl,?_⟩) vP ?_
   rotate_left
   ·(intro w_ hSw;(try dsimp only at hSw);go_simp;try with_reducible rfl)
   simp only [Act.put,lA,lB,lC,lD,lE,lF]
   refine wpAnyH_ready (rs:=[14]) vK vS ?_
   refine AllReadyH.cons rfl (fun K hK=>?_) AllReadyH.nil
   go_simp
   refine hK.out _ _ (by (try dsimp only);simp [go_sem, *]) (fun hHeld=>?_)
   clear hK K
   refine wpAnyH_done vK ?_ _
   have HA:Hid (lP w (w3.setCell (aq R 9) (.slice (some (aq gg 0)) (n+1) cp)) B R C (.slice oo n oc') n E [iv c,iv u,iv 0,iv 0,iv 0,iv 0]):=HAE.out w3 gg cp _ hown3.out ⟨hgrow.out.os,hgrow.out.tape,hgrow.out.output,hgrow.out.size,hgrow.out.block⟩ hat.out
   have hs9:9<C.size:=(Array.getElem?_eq_some_iff.1 C9.out).1
   have hR4:=uH (i:=9) hR3.out (.slice (some (aq gg 0)) (n+1) cp)
   have n4:Hid _:=(uG w3 (aq R 9) (.slice (some (aq gg 0)) (n+1) cp) _ hRn').trans n3.out
   have y9:(w3.setCell (aq R 9) (.slice (some (aq gg 0)) (n+1) cp)).cell? (aq R 9)=some (.slice (some (aq gg 0)) (n+1) cp):=by rw [uI hR4];simp [hs9]
   clear g9 gf s0 s1 s2 s3 f0 f1 f2 f3 hR3w hz3 hR3 n3 hown3 hgrow hat hlt g2 g3 hHeld x9 e2 e3 hR4
   generalize w3.setCell (aq R 9) (.slice (some (aq gg 0)) (n+1) cp)=W3 at HA n4 y9 ⊢
   have hR4:R<W3.heap.size:=uC W3 _ y9
   have hz4:w.heap.size+1<W3.heap.size:=(Array.getElem?_eq_some_iff.1 n4.out).1
   go_wp2_with fail
   refine (HH.out _ hz4 HA.out).mono ?_
   rintro e w5 ⟨rfl,hq5,hb5,hs5,g5,cp5,z9,z3,z4,hg5⟩
   have n5:=hb5.trans n4.out
   obtain ⟨s0,s1,s2,s3⟩:=qC n5
   have f0:=qA n5 0
   have f1:=qA n5 1
   have f2:=qA n5 2
   have f3:=qA n5 3
   have hR5:R<w5.heap.size:=uC w5 _ z9
   have hz5:w.heap.size+1<w5.heap.size:=(Array.getElem?_eq_some_iff.1 n5).1
   have b0:(0:Int)<=(n:Int):=uO
   have b1:(n:Int)<(n:Int)+1:=uO
   clear n5 n4 y9 hb5
   go_wp2_with fail
   go_region
   go_wp2
   refine uK (v:=.agg #[iv 2,iv (n+1),iv ct,iv up]) (by simp [results,Tryz.results145,go_sem,s0,s1,s2,s3]) rfl (HP.out _ ?_)
   exact HQF.out _ _ (HQF.out w5 w5.drew hq5 ⟨rfl,rfl,rfl,uA _,fun _ _ _=>rfl⟩) (dJ _ _ _ _ _ _)
 focus
  have HP:Hid _:=HW.out (by have:=hc'.out;omega) (by have:=hl.out;omega) uO (.inl hq) hqm
  have hqd:decide ((0:Int)<(ql:Int))=true:=by simp;omega
  have hqe:((ql:Int)==qm)=false:=by simpa using hqm
  have x2:=(w01.out.cell (p:=(aq R 2)) hRw).trans h2.out
  go_wp2_with fail
  go_quiet (fail)
  go_wp2_with fail
  replace w01:Hid (Below w.heap.size w (w1.drewN nq)):=qY w01.out
  replace rb:Hid ((w1.drewN nq).heap[w.heap.size]?=_):=rb.out
  replace n0:Hid ((w1.drewN nq).heap[w.heap.size+1]?=_):=n0.out
  replace hz:w.heap.size+2<=(w1.drewN nq).heap.size:=hz
  clear x9 x2 hqd hnd hld e3 hz0 hRw1 hRw2
  generalize w1.drewN nq=W1 at w01 rb n0 hz ⊢
 rotate_left
 focus
  have HP:Hid _:=HW.out (by have:=hc'.out;omega) (by have:=hl.out;omega) uO (.inr hf) uO
  subst hq
  have hfd:decide (fr<u)=true:=by simpa using hf
  have hqe:((0:Int)==qm)=false:=by simp;omega
  have hqn:¬ (0:Int)=qm:=uO
  go_wp2_with fail
  clear x9 hld
  go_region_held3 (fun w'=>w'.cell? (aq w.heap.size 3)=some (iv u)) (simp [go_sem, *])
   (first|(go_at_call 121;refine (HFR.out  _ bL).mono ?_;rintro e w1 ⟨rfl,b⟩
           replace w01:Hid (Below w.heap.size w w1):=uL (show Below w.heap.size w _ from bL) (b.mono (by first|omega|(simp<;>omega)))
           replace rb:Hid (w1.heap[w.heap.size]?=_):=(b.block w.heap.size (by first|omega|(simp<;>omega))).trans rb.out
           replace n0:Hid (w1.heap[w.heap.size+1]?=_):=(b.block (w.heap.size+1) (by first|omega|(simp<;>omega))).trans n0.out
           have e3:w1.cell? (aq w.heap.size 3)=some (iv u):=cB rb.out
           replace hz:w.heap.size+2<=w1.heap.size:=uX hz (by have:=b.size;first|exact this|simpa using this)
           have hz0:w.heap.size<w1.heap.size:=uO
           clear b))
  have x2:=(w01.out.cell (p:=(aq R 2)) hRw).trans h2.out
  have hRw3:R<w1.heap.size:=uO
  go_wp2_with fail
  clear x2 hnd hfd e3 hz0 hRw1 hRw2 hRw3
  generalize w1=W1 at w01 rb n0 hz ⊢
 all_goals
  have x9:=(w01.out.cell (p:=(aq R 9)) hRw).trans h9.out
  have x8:=(w01.out.cell (p:=(aq R 8)) hRw).trans h8.out
  have x4:=(w01.out.cell (p:=(aq R 4)) hRw).trans h4.out
  have hz0:w.heap.size<W1.heap.size:=uO
  have hRw2:R<W1.heap.size:=uO
  have hwt:Hid (IntKind.i64.wrap (now+wt)=now+wt):=yA uO uO
  have e2:W1.cell? (aq w.heap.size 2)=some (iv c):=cB rb.out
  have e3:W1.cell? (aq w.heap.size 3)=some (iv u):=cB rb.out
  have hR1:W1.heap[R]?=some (.cells C 170):=(w01.out.block R hRw).trans hR.out
  have C8:C[8]?=some (iv now):=by rw [← h8.out,uI hR.out]
  have C4:C[4]?=some (iv wt):=by rw [← h4.out,uI hR.out]
  have C9:C[9]?=some (.slice oo n oc'):=by rw [← h9.out,uI hR.out]
  have hO1:Hid (W1.ownsRow B 213 6 (.slice oo n oc') n E):=qH hO.out w01.out (uA _)
  have hvt:∀ k,Value.ownBlock (.slice oo n oc')=some k->k<w.heap.size:=fun k hk=>(uJ hO.out k hk).2
  have hvR:Value.ownBlock (.slice oo n oc')≠some R:=qP hO1.out hR1 vO
  obtain ⟨i0,j0,j1,j2,j3⟩:=info_parts Tryz.infoOrder
  have hnb:Hid ((W1.alloc (.cells #[iv c,iv u,iv 12,iv 0,iv (IntKind.i64.wrap (now+wt)),iv 0] 213)).heap[W1.heap.size]?=some (.cells #[iv c,iv u,iv 12,iv 0,iv (IntKind.i64.wrap (now+wt)),iv 0] 213)):=uF _ _
  have HAE:Hid (∀ w3 g cp O,w3.ownsRow B 213 6 (.slice (some (aq g 0)) (n+1) cp) (n+1) (E++[iv c,iv u,iv 12,iv 0,iv (IntKind.i64.wrap (now+wt)),iv 0])->(W1.alloc O).grownBy w3 (Value.ownBlock (.slice oo n oc'))->(Value.ownBlock (.slice oo n oc')=some g\/g=W1.heap.size+1)->lP w (w3.setCell (aq R 9) (.slice (some (aq g 0)) (n+1) cp)) B R C (.slice oo n oc') n E [iv c,iv u,iv 12,iv 0,iv (IntKind.i64.wrap (now+wt)),iv 0]):=fun w3 g cp O a b d=>Ra w01.out hz hRw hR1 hvR a b d
  have HK3:Hid (∀ w3 O,(W1.alloc O).drew.grownBy w3 (Value.ownBlock (.slice oo n oc'))->w3.heap[R]?=some (.cells C 170)/\w3.heap[w.heap.size+1]?=some (.cells #[iv 0,iv 0,iv 0,iv 0] 33)/\w3.cell? (aq w.heap.size 2)=some (iv c)/\w3.cell? (aq w.heap.size 3)=some (iv u)):=fun w3 O hg=>by
   have k3:∀ k,k<W1.heap.size->Value.ownBlock (.slice oo n oc')≠some k->w3.heap[k]?=W1.heap[k]?:=fun k hk hn=>(hg.block k uT (fun e=>hn e.symm)).trans (uE W1 _ k hk)
   have r3:=(k3 w.heap.size uO (fun e=>by have:=hvt _ e;omega)).trans rb.out
   exact ⟨(k3 R hRw2 hvR).trans hR1,(k3 (w.heap.size+1) uO (fun e=>by have:=hvt _ e;omega)).trans n0.out,cB r3,cB r3⟩
  have hRn:R≠w.heap.size+1:=uO
  have hRn':w.heap.size+1≠R:=uO
  have hBw:B<=W1.heap.size:=uO
  replace hR1:Hid _:=hR1
  replace C8:Hid _:=C8
  replace C4:Hid _:=C4
  replace C9:Hid _:=C9
  replace hvt:Hid _:=hvt
  replace hvR:Hid _:=hvR
  refine wp_region_held_drew (S:=(fun w'=>w'.cell? (aq w.heap.size 2)=some (iv c)/\w'.cell? (aq w.heap.size 3)=some (iv u)/\w'.cell? (aq R 8)=some (iv now)/\w'.cell? (aq R 4)=some (iv wt))) vK uN (fun hHeld=>?_)
  refine wpAnyH_take (i:=0) (v:=?_) rfl vK vK vK (fun _ _ _ h=>h) (Or.inl ⟨by rfl,?_⟩) vP ?_
  rotate_left
  ·(intro w_ hSw;(try dsimp only at hSw);go_simp;try with_reducible rfl)
  simp only [Act.put,List.getElem_toArray,List.getElem_cons_zero,List.setIfInBounds_toArray,List.set_cons_zero,List.set_cons_succ]
  refine wpAnyH_take (i:=1) (v:=?_) rfl vK vK vK (fun _ _ _ h=>h) (Or.inl ⟨by rfl,?_⟩) vP ?_
  rotate_left
  ·(intro w_ hSw;(try dsimp only at hSw);go_simp;try with_reducible rfl)
  simp only [Act.put,lA,lB,lC,lD,lE,lF]
  refine wpAnyH_take (i:=2) (v:=?_) rfl vK vK vK (fun _ _ _ h=>h) (Or.inl ⟨by rfl,?_⟩) vP ?_
  rotate_left
  ·(intro w_ hSw;(try dsimp only at hSw);go_simp;try with_reducible rfl)
  simp only [Act.put,lA,lB,lC,lD,lE,lF]
  refine wpAnyH_take (i:=3) (v:=?_) rfl vK vK vK (fun _ _ _ h=>h) (Or.inl ⟨by rfl,?_⟩) vP ?_
  rotate_left
  ·(intro w_ hSw;(try dsimp only at hSw);go_simp;try with_reducible rfl)
  simp only [Act.put,lA,lB,lC,lD,lE,lF]
  refine wpAnyH_take (i:=5) (v:=?_) rfl vK vK vK (fun _ _ _ h=>h) (Or.inl ⟨by rfl,?_⟩) vP ?_
  rotate_left
  ·(intro w_ hSw;(try dsimp only at hSw);go_simp;try with_reducible rfl)
  simp only [Act.put,lA,lB,lC,lD,lE,lF]
  refine wpAnyH_take (i:=6) (v:=?_) rfl vK vK vK (fun _ _ _ h=>h) (Or.inl ⟨by rfl,?_⟩) vP ?_
  rotate_left
  ·(intro w_ hSw;(try dsimp only at hSw);go_simp;try with_reducible rfl)
  simp only [Act.put,lA,lB,lC,lD,lE,lF]
  refine wpAnyH_take (i:=7) (v:=?_) rfl vK vK vK (fun _ _ _ h=>h) (Or.inl ⟨by rfl,?_⟩) vP ?_
  rotate_left
  ·(intro w_ hSw;(try dsimp only at hSw);go_simp;try with_reducible rfl)
  simp only [Act.put,lA,lB,lC,lD,lE,lF]
  refine wpAnyH_take (i:=8) (v:=?_) rfl vK vK vK (fun _ _ _ h=>h) (Or.inl ⟨by rfl,?_⟩) vP ?_
  rotate_left
  ·(intro w_ hSw;(try dsimp only at hSw);go_simp;try with_reducible rfl)
  simp only [Act.put,lA,lB,lC,lD,lE,lF]
  refine wpAnyH_take (i:=9) (v:=?_) rfl vK vK vK (fun _ _ _ h=>h) (Or.inl ⟨by rfl,?_⟩) vP ?_
  rotate_left
  ·(intro w_ hSw;(try dsimp only at hSw);go_simp;try with_reducible rfl)
  simp only [Act.put,lA,lB,lC,lD,lE,lF]
  refine wpAnyH_take (i:=10) (v:=?_) rfl vK vK vK (fun _ _ _ h=>h) (Or.inl ⟨by rfl,?_⟩) vP ?_
  rotate_left
  ·(intro w_ hSw;(try dsimp only at hSw);go_simp;try with_reducible rfl)
  simp only [Act.put,lA,lB,lC,lD,lE,lF]
  refine wpAnyH_take (i:=11) (v:=?_) rfl vK vK vK (fun _ _ _ h=>h) (Or.inl ⟨by rfl,?_⟩) vP ?_
  rotate_left
  ·(intro w_ hSw;(try dsimp only at hSw);go_simp;try with_reducible rfl)
  simp only [Act.put,lA,lB,lC,lD,lE,lF]
  refine wpAnyH_take (i:=12) (v:=?_) rfl vK vK vK (fun _ _ _ h=>h) (Or.inl ⟨by rfl,?_⟩) vP ?_
  rotate_left
  ·(intro w_ hSw;(try dsimp only at hSw);go_simp;try with_reducible rfl)
  simp only [Act.put,lA,lB,lC,lD,lE,lF]
  refine wpAnyH_take (i:=13) (v:=?_) rfl vK vK vK (fun _ _ _ h=>h) (Or.inl ⟨by rfl,?_⟩) vP ?_
  rotate_left
  ·(intro w_ hSw;(try dsimp only at hSw);go_simp;try with_reducible rfl)
  simp only [Act.put,lA,lB,lC,lD,lE,lF]
  refine wpAnyH_take (i:=14) (v:=?_) rfl vK vK vK (fun _ _ _ h=>h) (Or.inl ⟨by rfl,?_⟩) vP ?_
  rotate_left
  ·(intro w_ hSw;(try dsimp only at hSw);go_simp;try with_reducible rfl)
  simp only [Act.put,lA,lB,lC,lD,lE,lF]
  refine wpAnyH_take (i:=15) (v:=?_) rfl vK vK vK (fun _ _ _ h=>h) (Or.inl ⟨by rfl,?_⟩) vP ?_
  rotate_left
  ·(intro w_ hSw;(try dsimp only at hSw);go_simp;try with_reducible rfl)
  simp only [Act.put,lA,lB,lC,lD,lE,lF]
  refine wpAnyH_take (i:=16) (v:=?_) rfl vK vK vK (fun _ _ _ h=>h) (Or.inl ⟨by rfl,?_⟩) vP ?_
  rotate_left
  ·(intro w_ hSw;(try dsimp only at hSw);go_simp;try with_reducible rfl)
  simp only [Act.put,lA,lB,lC,lD,lE,lF]
  refine wpAnyH_take (i:=17) (v:=?_) rfl vK vK vK (fun _ _ _ h=>h) (Or.inl ⟨by rfl,?_⟩) vP ?_
  rotate_left
  ·(intro w_ hSw;(try dsimp only at hSw);go_simp;try with_reducible rfl)
  simp only [Act.put,lA,lB,lC,lD,lE,lF]
  refine wpAnyH_take (i:=18) (v:=?_) rfl vK vK vK (fun _ _ _ h=>h) (Or.inl ⟨by rfl,?_⟩) vP ?_
  rotate_left
  ·(intro w_ hSw;(try dsimp only at hSw);go_simp;try with_reducible rfl)
  simp only [Act.put,lA,lB,lC,lD,lE,lF]
  refine wpAnyH_take (i:=19) (v:=?_) rfl vK vK vK (fun _ _ _ h=>h) (Or.inl ⟨by rfl,?_⟩) vP ?_
  rotate_left
  ·(intro w_ hSw;(try dsimp only at hSw);go_simp;try with_reducible rfl)
  simp only [Act.put,lA,lB,lC,lD,lE,lF]
  refine wpAnyH_ready (rs:=[4,20]) vK vS ?_
  refine AllReadyH.cons rfl (fun K hK=>?_) (AllReadyH.cons rfl (fun K hK=>?_) AllReadyH.nil)
  go_simp
  refine hK.out _ _ (by (try dsimp only);simp [go_sem, *]) (fun hHeld=>?_)
  clear hK K
  refine wpAnyH_ready (rs:=[20]) vK vS ?_
  rotate_left
  go_simp
  refine hK.out _ _ (by (try dsimp only);simp [go_sem, *]) (fun hHeld=>?_)
  clear hK K
  refine wpAnyH_ready (rs:=[4]) vK vS ?_
  all_goals
   refine AllReadyH.cons rfl (fun K hK=>?_) AllReadyH.nil
   go_simp
   refine hK.out _ _ (by (try dsimp only);simp [go_sem, *]) (fun hHeld=>?_)
   clear hK K
   refine wpAnyH_ready (rs:=[21]) vK vS ?_
   refine AllReadyH.cons rfl (fun K hK=>?_) AllReadyH.nil
   refine step_append_lies _ (by rfl) _ _ _ (by rfl) B 213 i0 (.agg #[iv 0,iv 0,iv 0,iv 0,iv 0,iv 0]) 6 48 Tryz.underlying167 j0 j1 j2 j3 rfl uO (.slice oo n oc') n E (by rfl) ((show W1.ownsRow B 213 6 (.slice oo n oc') n E from hO1.out).alloc _).drew (aq W1.heap.size 0) 1 1 [iv c,iv u,iv 12,iv 0,iv (IntKind.i64.wrap (now+wt)),iv 0] (by rfl) (by rfl) (World.news_of_block (cs:=#[iv c,iv u,iv 12,iv 0,iv (IntKind.i64.wrap (now+wt)),iv 0]) (t:=213) (fr:=(0,0)) hnb.out) (by simp [Value.oneCell']) uO (by unfold maxLen;omega) uO uT (W1.heap.size+1) vS ?_
   intro gg cp w3 hown3 hgrow hat hlt
   obtain ⟨hR3,n3,g2,g3⟩:=HK3.out w3 _ hgrow
   replace hown3:Hid _:=hown3
   replace hgrow:Hid _:=hgrow
   replace hat:Hid _:=hat
   have g9:w3.cell? (aq R 9)=some (.slice oo n oc'):=by rw [uI hR3];exact C9.out
   have g8:w3.cell? (aq R 8)=some (iv now):=by rw [uI hR3];exact C8.out
   have g4:w3.cell? (aq R 4)=some (iv wt):=by rw [uI hR3];exact C4.out
   have gf:=qA hR3 9
   obtain ⟨s0,s1,s2,s3⟩:=qC n3
   have f0:=qA n3 0
   have f1:=qA n3 1
   have f2:=qA n3 2
   have f3:=qA n3 3
   have hR3w:R<w3.heap.size:=(Array.getElem?_eq_some_iff.1 hR3).1
   have hz3:w.heap.size+1<w3.heap.size:=(Array.getElem?_eq_some_iff.1 n3).1
   replace hR3:Hid _:=hR3
   replace n3:Hid _:=n3
   refine hK.out _ _ (by (try dsimp only);simp [go_sem, *]) (fun hHeld=>?_)
   clear hK K
   refine wpAnyH_take (i:=22) (v:=?_) rfl vK vK vK (fun _ _ _ h=>h) (Or.inl ⟨by rfl,?_⟩) vP ?_
   rotate_left
   ·(intro w_ hSw;(try dsimp only at hSw);go_simp;try with_reducible rfl)
   simp only [Act.put,lA,lB,lC,lD,lE,lF]
   refine wpAnyH_take (i:=23) (v:=?_) rfl vK vK vK (fun _ _ _ h=>h) (Or.inl ⟨by rfl,?_⟩) vP ?_
   rotate_left
   ·(intro w_ hSw;(try dsimp only at hSw);go_simp;try with_reducible rfl)
   simp only [Act.put,lA,lB,lC,lD,lE,lF]
   refine wpAnyH_ready (rs:=[24]) vK vS ?_
   refine AllReadyH.cons rfl (fun K hK=>?_) AllReadyH.nil
   go_simp
   refine hK.out _ _ (by (try dsimp only);simp [go_sem, *]) (fun hHeld=>?_)
   clear hK K
   refine wpAnyH_done vK ?_ _
   have HA:Hid (lP w (w3.setCell (aq R 9) (.slice (some (aq gg 0)) (n+1) cp)) B R C (.slice oo n oc') n E [iv c,iv u,iv 12,iv 0,iv (IntKind.i64.wrap (now+wt)),iv 0]):=HAE.out w3 gg cp _ hown3.out ⟨hgrow.out.os,hgrow.out.tape,hgrow.out.output,hgrow.out.size,hgrow.out.block⟩ hat.out
   have hs9:9<C.size:=(Array.getElem?_eq_some_iff.1 C9.out).1
   have hR4:=uH (i:=9) hR3.out (.slice (some (aq gg 0)) (n+1) cp)
   have n4:=(uG w3 (aq R 9) (.slice (some (aq gg 0)) (n+1) cp) _ hRn').trans n3.out
   have y9:(w3.setCell (aq R 9) (.slice (some (aq gg 0)) (n+1) cp)).cell? (aq R 9)=some (.slice (some (aq gg 0)) (n+1) cp):=by rw [uI hR4];simp [hs9]
   have y8:(w3.setCell (aq R 9) (.slice (some (aq gg 0)) (n+1) cp)).cell? (aq R 8)=some (iv now):=by rw [uI hR4,vE,uP vO];exact C8.out
   have y4:(w3.setCell (aq R 9) (.slice (some (aq gg 0)) (n+1) cp)).cell? (aq R 4)=some (iv wt):=by rw [uI hR4,vE,uP vO];exact C4.out
   clear g9 g8 g4 gf s0 s1 s2 s3 f0 f1 f2 f3 hR3w hz3 hR3 n3 hown3 hgrow hat hlt g2 g3 hHeld x9 x8 x4 e2 e3 hR4
   generalize w3.setCell (aq R 9) (.slice (some (aq gg 0)) (n+1) cp)=W3 at HA n4 y9 y8 y4 ⊢
   obtain ⟨s0,s1,s2,s3⟩:=qC n4
   have f0:=qA n4 0
   have f1:=qA n4 1
   have f2:=qA n4 2
   have f3:=qA n4 3
   have hR4:R<W3.heap.size:=uC W3 _ y9
   have hz4:w.heap.size+1<W3.heap.size:=(Array.getElem?_eq_some_iff.1 n4).1
   clear n4
   go_wp2_with fail
   go_region
   go_wp2
   refine uK (v:=.agg #[iv 3,iv (n+1),iv 0,iv (now+wt)]) (by simp [results,Tryz.results145,go_sem,s0,s1,s2,s3,hwt.out]) rfl (HP.out _ ?_)
   have HA':=HA.out
   rw [hwt.out] at HA'
   exact Dd (Dd HA' rfl hRw hvt.out (w'':=W3.drew) ⟨rfl,rfl,rfl,uA _,fun _ _ _=>rfl⟩) rfl hRw hvt.out (dJ _ _ _ _ _ _)
def QL (left now:Int) (o:Ord):Ord:=if o.state=12/\left<o.units then { o with state:=18,ended:=now } else o
def Sal.drained (S:Sal):Sal:={ S with os:=S.os.map (QL S.left S.now) }
theorem Jx {S:Sal} {q:Nat} (hq:q<S.os.length) (hw:(S.os.getD q qD).state=12):(S.ends q 18).left=S.left:=by
 show S.C.stock - qF (S.os.set q _) 14 0=S.C.stock - qF S.os 14 0
 rw [xF hq]
 have h1:(S.os.getD q qD).part 14 0=0:=by
  generalize S.os.getD q qD=p at hw
  simp [Ord.part,Ord.is,hw]
 have h2:({ S.os.getD q qD with state:=18,ended:=S.now }:Ord).part 14 0=0:=by simp [Ord.part,Ord.is]
 omega
theorem cI {S:Sal} {q:Nat} (hq:q<S.os.length) (hw:(S.os.getD q qD).state=12) (hu:S.left<(S.os.getD q qD).units):(S.ends q 18).drained=S.drained:=by
 have hl:=Jx hq hw
 unfold Sal.drained
 rw [hl]
 have hn:(S.ends q 18).now=S.now:=rfl
 rw [hn]
 have he:(S.ends q 18).os.map (QL S.left S.now)=S.os.map (QL S.left S.now):=by
  apply List.ext_getElem?
  intro i
  show ((S.os.set q { S.os.getD q qD with state:=18,ended:=S.now }).map (QL S.left S.now))[i]?=_
  rw [List.getElem?_map,List.getElem?_map,List.getElem?_set]
  by_cases e:q=i
  ·subst e
   rw [uQ rfl,uQ hq]
   have e1:S.os[q]?=some (S.os.getD q qD):=by simp [List.getD,uD hq]
   rw [e1]
   simp only [Option.map_some,Option.some.injEq]
   generalize S.os.getD q qD=p at hw hu
   show QL S.left S.now { p with state:=18,ended:=S.now }=QL S.left S.now p
   unfold QL
   rw [uP (fun c=>by have:=c.1;simp at this),uQ ⟨hw,hu⟩]
  ·rw [uP e]
 rw [he]
 rfl
theorem cJ {S:Sal} (h:∀ o∈S.os,o.state=12->o.units<=S.left):S.drained=S:=by
 unfold Sal.drained
 have:S.os.map (QL S.left S.now)=S.os:=by
  conv=>rhs;rw [← List.map_id S.os]
  apply List.map_congr_left
  intro o ho
  unfold QL
  rw [uP (fun c=>by have:=h o ho c.1;have:=c.2;omega)]
  rfl
 rw [this]
theorem aI:∀ (qs:List Nat) (S:Sal),qs.Nodup->(∀ q∈qs,q<S.os.length/\(S.os.getD q qD).state=12)->(∀ i,i<S.os.length->i ∉ qs->(S.os.getD i qD).state=12->(S.os.getD i qD).units<=S.left)->yM S qs=S.drained
 | [],S,_,_,h=>by
   refine (cJ (fun o ho hs=>?_)).symm
   obtain ⟨i,hi,rfl⟩:=List.getElem_of_mem ho
   have hi':i<S.os.length:=hi
   have e:S.os.getD i qD=S.os[i]'hi':=by simp [List.getD,uD hi']
   have:=h i hi' vS
   rw [e] at this
   exact this hs
 | q :: qs,S,hn,hq,h=>by
   obtain ⟨hq1,hq2⟩:=hq q List.mem_cons_self
   obtain ⟨hn1,hn2⟩:=List.nodup_cons.1 hn
   have e:yM S (q :: qs)=yM (if S.left<(S.os.getD q qD).units then S.ends q 18 else S) qs:=rfl
   rw [e]
   by_cases hu:S.left<(S.os.getD q qD).units
   ·rw [uQ hu,← cI hq1 hq2 hu]
    have ha:∀ i,((S.ends q 18).os.getD i qD)=if i=q then { S.os.getD q qD with state:=18,ended:=S.now } else S.os.getD i qD:=fun i=>zK _ hq1
    refine aI qs _ hn2 (fun x hx=>?_) (fun i hi hx hs=>?_)
    ·obtain ⟨a,b⟩:=hq x (List.mem_cons_of_mem _ hx)
     refine ⟨by rw [jU];exact a,?_⟩
     rw [ha,uP (by rintro rfl;exact hn1 hx)]
     exact b
    ·rw [Jx hq1 hq2]
     rw [ha] at hs ⊢
     by_cases e:i=q
     ·rw [uQ e] at hs;cases hs
     ·rw [uP e] at hs ⊢
      exact h i (by rw [jU] at hi;exact hi) (fun c=>(List.mem_cons.1 c).elim e hx) hs
   ·rw [uP hu]
    refine aI qs _ hn2 (fun x hx=>hq x (List.mem_cons_of_mem _ hx)) (fun i hi hx hs=>?_)
    by_cases e:i=q
    ·subst e;omega
    ·exact h i hi (fun c=>(List.mem_cons.1 c).elim e hx) hs
theorem xL (S:Sal):yM S (qK S.os)=S.drained:=by
 refine aI _ S ?_ (fun q hq=>(zH S.os _ q).1 hq) (fun i hi hx hs=>absurd ((zH S.os _ i).2 ⟨hi,hs⟩) hx)
 exact (kX S.os _).imp (fun h=>uO)
theorem gR {l:List Ent} {k:Int × Int} {v:Int} {e:Ent}:e∈zD k v l↔e=(k,v)\/(e∈l/\e.1≠k):=by
 unfold zD
 rw [List.mem_append,List.mem_cons,List.mem_filter,List.mem_filter]
 constructor
 ·rintro (⟨h1,h2⟩|h|⟨h1,h2⟩)
  ·exact .inr ⟨h1,zJ h2⟩
  ·exact .inl h
  ·exact .inr ⟨h1,(zJ h2).symm⟩
 ·rintro (h|⟨h1,h2⟩)
  ·exact .inr (.inl h)
  ·cases ha:qR e.1 k
   ·cases hb:qR k e.1
    ·exact absurd (rJ ha hb) h2
    ·exact .inr (.inr ⟨h1,rfl⟩)
   ·exact .inl ⟨h1,rfl⟩
theorem Zq {l:List Ent} {k:Int × Int} {e:Ent}:e∈xC k l↔e∈l/\e.1≠k:=by
 unfold xC
 rw [List.mem_filter]
 simp
theorem Wv {l:List Ent} (hs:srt l) {x y:Ent} (hx:x∈l) (hy:y∈l) (h:x.1=y.1):x=y:=by
 induction l with
 | nil=>simp at hx
 | cons a l ih =>
   obtain ⟨h1,h2⟩:=List.pairwise_cons.1 hs
   rcases List.mem_cons.1 hx with e1|hx'<;>rcases List.mem_cons.1 hy with e2|hy'
   ·rw [e1,e2]
   ·rw [e1] at h;exact absurd h (zJ (h1 _ hy'))
   ·rw [e2] at h;exact absurd h.symm (zJ (h1 _ hx'))
   ·exact ih h2 hx' hy'
theorem hM {l:List Ent} (hs:srt l) {k:Int × Int} {v:Int}:yO k l=some v↔(k,v)∈l:=by
 constructor
 ·exact gG
 ·intro h
  cases hg:yO k l with
  | none=>exact absurd rfl (vV.1 hg _ h)
  | some u =>
    have:=Wv hs (gG hg) h rfl
    simp only [Prod.mk.injEq,true_and] at this
    rw [this]
theorem eB {l:List Ent} {k:Int × Int} {v:Int} (h:yO k l=none):(zD k v l).length=l.length+1:=(Og h).length_eq.trans vS
theorem dA {l:List Ent} (hs:srt l) {k:Int × Int} {v u:Int} (h:yO k l=some u):(zD k v l).length=l.length:=by
 obtain ⟨A,B,e⟩:=List.append_of_mem (gG h)
 subst e
 rw [Oq hs rfl]
 simp
theorem bC {l:List Ent} (hs:srt l) {k:Int × Int} {u:Int} (h:yO k l=some u):(xC k l).length+1=l.length:=by
 obtain ⟨A,B,e⟩:=List.append_of_mem (gG h)
 subst e
 rw [Zc hs rfl]
 simp;omega
theorem Ik {l:List Ent} (hs:srt l) {x:Ent} (hx:x∈l) (hmin:∀ y∈l,y≠x->qR x.1 y.1=true):l.headD ((0,0),0)=x:=by
 cases l with
 | nil=>simp at hx
 | cons a l =>
   obtain ⟨h1,_⟩:=List.pairwise_cons.1 hs
   show a=x
   rcases List.mem_cons.1 hx with e|hx
   ·exact e.symm
   ·refine Classical.byContradiction fun hne=>?_
    have h2:=hmin a List.mem_cons_self hne
    have h3:=h1 _ hx
    rw [kR h3] at h2
    cases h2
theorem Jv {l:List Ent} (h:l≠[]):l.headD ((0,0),0)∈l:=by
 cases l with
 | nil=>exact absurd rfl h
 | cons a l=>exact List.mem_cons_self
theorem Vk {l:List Ent} (hs:srt l) {y:Ent} (hy:y∈l):y=l.headD ((0,0),0)\/qR (l.headD ((0,0),0)).1 y.1=true:=by
 cases l with
 | nil=>simp at hy
 | cons a l =>
   rcases List.mem_cons.1 hy with e|hy
   ·exact .inl e
   ·exact .inr ((List.pairwise_cons.1 hs).1 _ hy)
def xT (T:List Ent) (os:List Ord):Prop:=srt T/\∀ e,e∈T↔∃ i,i<os.length/\(os.getD i qD).state=12/\e=(((i:Int)+1,0),0)
def zS (Z:List Ent) (os:List Ord):Prop:=srt Z/\∀ e,e∈Z↔∃ i,i<os.length/\(os.getD i qD).state=12/\e=((-(os.getD i qD).units,(i:Int)+1),0)
def kZ (L:List Ent) (f:Int->Int->Int):Prop:=srt L/\∀ e,e∈L↔e.1.1≠0/\(e.1.2=12\/e.1.2=13\/e.1.2=14)/\e.2=f e.1.2 e.1.1/\e.2≠0
theorem Am:xT [] []:=⟨List.Pairwise.nil,fun e=>by simp⟩
theorem Nf:zS [] []:=⟨List.Pairwise.nil,fun e=>by simp⟩
theorem Bz:kZ [] (fun _ _=>0):=⟨List.Pairwise.nil,fun e=>by
 constructor
 ·intro h;simp at h
 ·rintro ⟨_,_,h1,h2⟩;exact absurd h1 h2⟩
theorem Di {L:List Ent} {f:Int->Int->Int} (h:kZ L f) {c st:Int} (hc:c≠0) (hst:st=12\/st=13\/st=14):yO (c,st) L=if f st c=0 then none else some (f st c):=by
 by_cases h0:f st c=0
 ·rw [uQ h0,vV]
  intro e he hk
  obtain ⟨_,_,h3,h4⟩:=(h.2 e).1 he
  rw [hk] at h3
  exact h4 (h3.trans h0)
 ·rw [uP h0,hM h.1,h.2]
  exact ⟨hc,hst,rfl,h0⟩
def mM (L:List Ent) (c st d:Int):List Ent:=if (yO (c,st) L).getD 0+d=0 then xC (c,st) L else zD (c,st) ((yO (c,st) L).getD 0+d) L
def Me (f:Int->Int->Int) (c st d:Int):Int->Int->Int:=fun st' c'=>if st'=st/\c'=c then f st c+d else f st' c'
theorem Ii {L:List Ent} {f:Int->Int->Int} (h:kZ L f) {c st:Int} (d:Int) (hc:c≠0) (hst:st=12\/st=13\/st=14):kZ (mM L c st d) (Me f c st d):=by
 have hg:(yO (c,st) L).getD 0=f st c:=by
  rw [Di h hc hst]
  split
  ·next e=>simp [e]
  ·rfl
 unfold mM
 rw [hg]
 split
 ·next e0 =>
  refine ⟨aQ _ h.1,fun e=>?_⟩
  rw [Zq,h.2]
  obtain ⟨⟨e1,e2⟩,v⟩:=e
  simp only [Me,ne_eq,Prod.mk.injEq]
  by_cases hk:e2=st/\e1=c
  ·rw [uQ hk]
   constructor
   ·rintro ⟨_,hx⟩;exact absurd ⟨hk.2,hk.1⟩ hx
   ·rintro ⟨_,_,h1,h2⟩;rw [e0] at h1;exact absurd h1 h2
  ·rw [uP hk]
   constructor
   ·rintro ⟨hx,_⟩;exact hx
   ·intro hx;exact ⟨hx,fun c=>hk ⟨c.2,c.1⟩⟩
 ·next e0 =>
  refine ⟨gC _ _ h.1,fun e=>?_⟩
  rw [gR,h.2]
  obtain ⟨⟨e1,e2⟩,v⟩:=e
  simp only [Me,ne_eq,Prod.mk.injEq]
  by_cases hk:e2=st/\e1=c
  ·rw [uQ hk]
   obtain ⟨rfl,rfl⟩:=hk
   constructor
   ·rintro (⟨_,h1⟩|⟨_,hx⟩)
    ·exact ⟨hc,hst,h1,by rw [h1];exact e0⟩
    ·exact absurd ⟨rfl,rfl⟩ hx
   ·rintro ⟨_,_,h1,h2⟩;exact .inl ⟨⟨rfl,rfl⟩,h1⟩
  ·rw [uP hk]
   constructor
   ·rintro (⟨⟨h1,h2⟩,_⟩|⟨hx,_⟩)
    ·exact absurd ⟨h2,h1⟩ hk
    ·exact hx
   ·intro hx;exact .inr ⟨hx,fun c=>hk ⟨c.2,c.1⟩⟩
def xW (os:List Ord):Int->Int->Int:=fun st c=>qF os st c
def ZW (st:Int):Prop:=st=12\/st=13\/st=14
instance (st:Int):Decidable (ZW st):=by unfold ZW;infer_instance
def pI (L:List Ent) (c st d:Int):List Ent:=if ZW st then mM L c st d else L
theorem cZ {L:List Ent} {f g:Int->Int->Int} (h:kZ L f) (he:∀ st c,c≠0->ZW st->f st c=g st c):kZ L g:=by
 refine ⟨h.1,fun e=>(h.2 e).trans ?_⟩
 constructor
 ·rintro ⟨h1,h2,h3,h4⟩;exact ⟨h1,h2,by rw [← he _ _ h1 h2];exact h3,h4⟩
 ·rintro ⟨h1,h2,h3,h4⟩;exact ⟨h1,h2,by rw [he _ _ h1 h2];exact h3,h4⟩
theorem rK {L:List Ent} {f:Int->Int->Int} (h:kZ L f) {c st:Int} (d:Int) (hc:c≠0):kZ (pI L c st d) (Me f c st d):=by
 unfold pI
 split
 ·next hst=>exact Ii h d hc hst
 ·next hst =>
  refine cZ h (fun st' c' _ hl=>?_)
  unfold Me
  rw [uP (by rintro ⟨e,_⟩;exact hst (e▸hl))]
theorem iB {o:Ord} {st c:Int} (hc:c≠0):o.part st c=if st=o.state/\c=o.cust then o.units else 0:=by
 unfold Ord.part
 by_cases h1:st=o.state/\c=o.cust
 ·rw [uQ h1,uQ]
  unfold Ord.is
  rw [← h1.1,← h1.2]
  simp
 ·rw [uP h1,uP]
  intro hh
  unfold Ord.is at hh
  simp only [Bool.and_eq_true,Bool.or_eq_true,beq_iff_eq] at hh
  exact h1 ⟨hh.1.symm,(hh.2.resolve_left hc).symm⟩
theorem Zd (f:Int->Int->Int) (c0 s d s' c':Int):Me f c0 s d s' c'=f s' c'+if s'=s/\c'=c0 then d else 0:=by
 unfold Me
 split
 ·next h=>rw [h.1,h.2]
 ·omega
theorem Ns {L:List Ent} {os:List Ord} (h:kZ L (xW os)) {i:Nat} (hi:i<os.length) (o:Ord) (h1:o.cust=(os.getD i qD).cust) (h2:o.units=(os.getD i qD).units) (hc:o.cust≠0):kZ (pI (pI L o.cust (os.getD i qD).state (-o.units)) o.cust o.state o.units) (xW (os.set i o)):=by
 refine cZ (rK (rK h (-o.units) hc) o.units hc) (fun st c hc' hl=>?_)
 rw [Zd,Zd]
 unfold xW
 rw [xF hi,iB hc',iB hc',← h1,← h2]
 generalize qF os st c=U
 split<;>split<;>omega
theorem Ab {L:List Ent} {os:List Ord} (h:kZ L (xW os)) (o:Ord) (hc:o.cust≠0):kZ (pI L o.cust o.state o.units) (xW (os++[o])):=by
 refine cZ (rK h o.units hc) (fun st c hc' hl=>?_)
 rw [Zd]
 unfold xW
 rw [jE,iB hc']
theorem Ad {T:List Ent} {os:List Ord} (h:xT T os) {i:Nat} (hi:i<os.length) (o:Ord) (ho:o.state≠12):xT (xC ((i:Int)+1,0) T) (os.set i o):=by
 refine ⟨aQ _ h.1,fun e=>?_⟩
 rw [Zq,h.2]
 constructor
 ·rintro ⟨⟨j,h1,h2,rfl⟩,h4⟩
  have hji:j≠i:=fun e=>h4 (by rw [e])
  exact ⟨j,by simpa using h1,by rw [zK o hi,uP hji];exact h2,rfl⟩
 ·rintro ⟨j,h1,h2,rfl⟩
  rw [zK o hi] at h2
  by_cases e:j=i
  ·rw [uQ e] at h2;exact absurd h2 ho
  ·rw [uP e] at h2
   exact ⟨⟨j,by simpa using h1,h2,rfl⟩,fun c=>e (by simp at c;omega)⟩
theorem Jn {T:List Ent} {os:List Ord} (h:zS T os) {i:Nat} (hi:i<os.length) (o:Ord) (ho:o.state≠12):zS (xC (-(os.getD i qD).units,(i:Int)+1) T) (os.set i o):=by
 refine ⟨aQ _ h.1,fun e=>?_⟩
 rw [Zq,h.2]
 constructor
 ·rintro ⟨⟨j,h1,h2,rfl⟩,h4⟩
  have hji:j≠i:=fun e=>h4 (by rw [e])
  exact ⟨j,by simpa using h1,by rw [zK o hi,uP hji];exact h2,by rw [zK o hi,uP hji]⟩
 ·rintro ⟨j,h1,h2,rfl⟩
  rw [zK o hi] at h2 ⊢
  by_cases e:j=i
  ·rw [uQ e] at h2;exact absurd h2 ho
  ·rw [uP e] at h2 ⊢
   exact ⟨⟨j,by simpa using h1,h2,rfl⟩,fun c=>e (by simp at c;omega)⟩
theorem Ha {T:List Ent} {os:List Ord} (h:xT T os) {i:Nat} (hi:i<os.length) (o:Ord) (ho:o.state≠12) (hs:(os.getD i qD).state≠12):xT T (os.set i o):=by
 refine ⟨h.1,fun e=>(h.2 e).trans ?_⟩
 constructor
 ·rintro ⟨j,h1,h2,rfl⟩
  have hji:j≠i:=fun e=>hs (e▸h2)
  exact ⟨j,by simpa using h1,by rw [zK o hi,uP hji];exact h2,rfl⟩
 ·rintro ⟨j,h1,h2,rfl⟩
  rw [zK o hi] at h2
  by_cases e:j=i
  ·rw [uQ e] at h2;exact absurd h2 ho
  ·rw [uP e] at h2;exact ⟨j,by simpa using h1,h2,rfl⟩
theorem Gs {T:List Ent} {os:List Ord} (h:zS T os) {i:Nat} (hi:i<os.length) (o:Ord) (ho:o.state≠12) (hs:(os.getD i qD).state≠12):zS T (os.set i o):=by
 refine ⟨h.1,fun e=>(h.2 e).trans ?_⟩
 constructor
 ·rintro ⟨j,h1,h2,rfl⟩
  have hji:j≠i:=fun e=>hs (e▸h2)
  exact ⟨j,by simpa using h1,by rw [zK o hi,uP hji];exact h2,by rw [zK o hi,uP hji]⟩
 ·rintro ⟨j,h1,h2,rfl⟩
  rw [zK o hi] at h2 ⊢
  by_cases e:j=i
  ·rw [uQ e] at h2;exact absurd h2 ho
  ·rw [uP e] at h2 ⊢;exact ⟨j,by simpa using h1,h2,rfl⟩
theorem yI {os:List Ord} {o:Ord} {j:Nat} (h:j<os.length+1):(os++[o]).getD j qD=if j=os.length then o else os.getD j qD:=by
 simp only [List.getD]
 by_cases e:j=os.length
 ·subst e;simp
 ·rw [uP e,List.getElem?_append_left uO]
theorem Cp {T:List Ent} {os:List Ord} (h:xT T os) (o:Ord) (ho:o.state=12):xT (zD ((os.length:Int)+1,0) 0 T) (os++[o]):=by
 refine ⟨gC _ _ h.1,fun e=>?_⟩
 rw [gR,h.2]
 constructor
 ·rintro (rfl|⟨⟨j,h1,h2,rfl⟩,_⟩)
  ·exact ⟨os.length,by simp,by rw [yI uO,uQ rfl];exact ho,rfl⟩
  ·exact ⟨j,by simp;omega,by rw [yI uO,uP uO];exact h2,rfl⟩
 ·rintro ⟨j,h1,h2,rfl⟩
  have h1':j<os.length+1:=by simpa using h1
  rw [yI h1'] at h2
  by_cases e:j=os.length
  ·exact .inl (by rw [e])
  ·rw [uP e] at h2
   exact .inr ⟨⟨j,uO,h2,rfl⟩,fun c=>e (by simp at c;omega)⟩
theorem Ip {T:List Ent} {os:List Ord} (h:zS T os) (o:Ord) (ho:o.state=12):zS (zD (-o.units,(os.length:Int)+1) 0 T) (os++[o]):=by
 refine ⟨gC _ _ h.1,fun e=>?_⟩
 rw [gR,h.2]
 constructor
 ·rintro (rfl|⟨⟨j,h1,h2,rfl⟩,_⟩)
  ·exact ⟨os.length,by simp,by rw [yI uO,uQ rfl];exact ho,by rw [yI uO,uQ rfl]⟩
  ·exact ⟨j,by simp;omega,by rw [yI uO,uP uO];exact h2,by rw [yI uO,uP uO]⟩
 ·rintro ⟨j,h1,h2,rfl⟩
  have h1':j<os.length+1:=by simpa using h1
  rw [yI h1'] at h2 ⊢
  by_cases e:j=os.length
  ·exact .inl (by rw [uQ e,e])
  ·rw [uP e] at h2 ⊢
   exact .inr ⟨⟨j,uO,h2,rfl⟩,fun c=>e (by simp at c;omega)⟩
theorem Ht {T:List Ent} {os:List Ord} (h:xT T os) (o:Ord) (ho:o.state≠12):xT T (os++[o]):=by
 refine ⟨h.1,fun e=>(h.2 e).trans ?_⟩
 constructor
 ·rintro ⟨j,h1,h2,rfl⟩
  exact ⟨j,by simp;omega,by rw [yI uO,uP uO];exact h2,rfl⟩
 ·rintro ⟨j,h1,h2,rfl⟩
  have h1':j<os.length+1:=by simpa using h1
  rw [yI h1'] at h2
  by_cases e:j=os.length
  ·rw [uQ e] at h2;exact absurd h2 ho
  ·rw [uP e] at h2;exact ⟨j,uO,h2,rfl⟩
theorem Fd {T:List Ent} {os:List Ord} (h:zS T os) (o:Ord) (ho:o.state≠12):zS T (os++[o]):=by
 refine ⟨h.1,fun e=>(h.2 e).trans ?_⟩
 constructor
 ·rintro ⟨j,h1,h2,rfl⟩
  exact ⟨j,by simp;omega,by rw [yI uO,uP uO];exact h2,by rw [yI uO,uP uO]⟩
 ·rintro ⟨j,h1,h2,rfl⟩
  have h1':j<os.length+1:=by simpa using h1
  rw [yI h1'] at h2 ⊢
  by_cases e:j=os.length
  ·rw [uQ e] at h2;exact absurd h2 ho
  ·rw [uP e] at h2 ⊢;exact ⟨j,uO,h2,rfl⟩
theorem Xy {T:List Ent} {os:List Ord} (h:xT T os) {q:Nat} {qs:List Nat} (hq:qK os=q :: qs):T.headD ((0,0),0)=(((q:Int)+1,0),0):=by
 have hm:q∈qK os:=by rw [hq];simp
 obtain ⟨h1,h2⟩:=(zH os _ q).1 hm
 refine Ik h.1 ((h.2 _).2 ⟨q,h1,h2,rfl⟩) (fun y hy hne=>?_)
 obtain ⟨j,a,b,rfl⟩:=(h.2 _).1 hy
 have hj:j∈q :: qs:=by rw [← hq];exact (zH os _ j).2 ⟨a,b⟩
 have hs':(q :: qs).Pairwise (·<·):=by rw [← hq];exact kX os os.length
 rcases List.mem_cons.1 hj with rfl|hj
 ·exact absurd rfl hne
 ·have:=List.rel_of_pairwise_cons hs' hj
  rw [vY]
  exact .inl (by show (q:Int)+1<(j:Int)+1;omega)
theorem eZ {T:List Ent} {os:List Ord} (h:xT T os):T=[]↔qK os=[]:=by
 constructor
 ·rintro rfl
  rw [List.eq_nil_iff_forall_not_mem]
  intro q hq
  obtain ⟨h1,h2⟩:=(zH os _ q).1 hq
  have:=(h.2 _).2 ⟨q,h1,h2,rfl⟩
  simp at this
 ·intro hq
  rw [List.eq_nil_iff_forall_not_mem]
  intro e he
  obtain ⟨j,a,b,_⟩:=(h.2 e).1 he
  have:j∈qK os:=(zH os _ j).2 ⟨a,b⟩
  rw [hq] at this
  simp at this
theorem iD {T:List Ent} {os:List Ord} (h:zS T os):T=[]↔qK os=[]:=by
 constructor
 ·rintro rfl
  rw [List.eq_nil_iff_forall_not_mem]
  intro q hq
  obtain ⟨h1,h2⟩:=(zH os _ q).1 hq
  have:=(h.2 _).2 ⟨q,h1,h2,rfl⟩
  simp at this
 ·intro hq
  rw [List.eq_nil_iff_forall_not_mem]
  intro e he
  obtain ⟨j,a,b,_⟩:=(h.2 e).1 he
  have:j∈qK os:=(zH os _ j).2 ⟨a,b⟩
  rw [hq] at this
  simp at this
theorem Xm {Z:List Ent} {os:List Ord} (h:zS Z os) (hn:Z≠[]):∃ i,i<os.length/\(os.getD i qD).state=12/\Z.headD ((0,0),0)=((-(os.getD i qD).units,(i:Int)+1),0)/\∀ j,j<os.length->(os.getD j qD).state=12->(os.getD j qD).units<=(os.getD i qD).units:=by
 obtain ⟨i,a,b,e⟩:=(h.2 _).1 (Jv hn)
 refine ⟨i,a,b,e,fun j hj hs=>?_⟩
 have:=Vk h.1 ((h.2 _).2 ⟨j,hj,hs,rfl⟩)
 rw [e] at this
 rcases this with c|c
 ·have:=congrArg (fun e:Ent=>e.1.1) c
  simp only at this
  omega
 ·rw [vY] at c
  simp only at c
  omega
theorem Ov {a b:List Ent} (ha:srt a) (hb:srt b) (h:∀ e,e∈a↔e∈b):a=b:=by
 induction a generalizing b with
 | nil =>
   symm
   rw [List.eq_nil_iff_forall_not_mem]
   intro e he
   have:=(h e).2 he
   simp at this
 | cons x a ih =>
   cases b with
   | nil=>have:=(h x).1 List.mem_cons_self;simp at this
   | cons y b =>
     obtain ⟨ha1,ha2⟩:=List.pairwise_cons.1 ha
     obtain ⟨hb1,hb2⟩:=List.pairwise_cons.1 hb
     have hxy:x=y:=by
      rcases List.mem_cons.1 ((h x).1 List.mem_cons_self) with e|hx
      ·exact e
      ·rcases List.mem_cons.1 ((h y).2 List.mem_cons_self) with e|hy
       ·exact e.symm
       ·have:=kR (hb1 _ hx)
        rw [ha1 _ hy] at this
        cases this
     subst hxy
     congr 1
     refine ih ha2 hb2 (fun e=>?_)
     constructor
     ·intro he
      rcases List.mem_cons.1 ((h e).1 (List.mem_cons_of_mem _ he)) with c|c
      ·exact absurd (congrArg Prod.fst c).symm (zJ (ha1 _ he))
      ·exact c
     ·intro he
      rcases List.mem_cons.1 ((h e).2 (List.mem_cons_of_mem _ he)) with c|c
      ·exact absurd (congrArg Prod.fst c).symm (zJ (hb1 _ he))
      ·exact c
theorem Bm {T:List Ent} {os:List Ord} (h:xT T os):T.length=(qK os).length:=by
 have e:T=(qK os).map (fun i=>((((i:Nat):Int)+1,(0:Int)),(0:Int))):=by
  refine Ov h.1 ?_ (fun e=>(h.2 e).trans ?_)
  ·unfold srt
   rw [List.pairwise_map]
   refine (kX os _).imp (fun {a b} hab=>?_)
   rw [vY]
   exact .inl (by show (a:Int)+1<(b:Int)+1;omega)
  ·rw [List.mem_map]
   constructor
   ·rintro ⟨i,a,b,rfl⟩
    exact ⟨i,(zH os _ i).2 ⟨a,b⟩,rfl⟩
   ·rintro ⟨i,a,rfl⟩
    obtain ⟨x,y⟩:=(zH os _ i).1 a
    exact ⟨i,x,y,rfl⟩
 rw [e,List.length_map]
section
def Sal.more (S:Sal) (o:Ord):Sal:={ S with os:=S.os++[o] }
def Sal.ask (S:Sal) (r:Req):Rep × Sal :=
 if S.C.cap<qF S.os 13 r.cust+qF S.os 14 r.cust+qF S.os 12 r.cust+r.units then (⟨4,0,0,0⟩,S)
 else if S.left<r.units then (⟨5,0,0,0⟩,S)
 else if 4294967296<=S.os.length then (⟨6,0,0,0⟩,S)
 else if qK S.os=[]/\r.units<=S.free then
  (⟨2,S.os.length+1,(((S.more ⟨r.cust,r.units,0,0,0,0⟩).holds S.os.length).os.getD S.os.length qD).cents,S.now+S.C.lease⟩,(S.more ⟨r.cust,r.units,0,0,0,0⟩).holds S.os.length)
 else if ((qK S.os).length:Int)=S.C.queue then (⟨6,0,0,0⟩,S)
 else (⟨3,S.os.length+1,0,S.now+S.C.wait⟩,S.more ⟨r.cust,r.units,12,0,S.now+S.C.wait,0⟩)
theorem Gb (os:List Ord) (o:Ord):zP (os++[o])=zP os++o.vals:=by simp [zP]
def mV (w w':World) (B R:Nat) (S':Sal) (ap:Option Addr) (lp cp:Nat) (vo va:Value):Prop :=
 ∃ vo',saleAt w' B R S' ap lp cp vo' va/\salI S'/\Same (fun b=>b=R\/vo.ownBlock=some b) w w'/\∀ k,vo'.ownBlock=some k->vo.ownBlock=some k\/w.heap.size+2<=k
section
variable {w w':World} {B R:Nat} {S:Sal} {ap:Option Addr} {lp cp:Nat} {vo va:Value}
theorem Jg (h:saleAt w B R S ap lp cp vo va) {k:Nat} (h1:vo.ownBlock=some k) (h2:va.ownBlock=some k):False:=by
 rcases h.os.2 with ⟨rfl,_⟩|⟨g,c,cur,rfl,_,hh,_⟩
 ·simp [Value.ownBlock] at h1
 ·have e:g=k:=by simpa [Value.ownBlock] using h1
  subst e
  exact qP h.ansL hh vO h2
theorem mE {own:Nat->Prop} {ps:List (Int × Int)} (h:tiersAt w ap lp cp ps) (hs:Same own w w') (h4:∀ b off,ap=some (aq b off)->¬ own b):tiersAt w' ap lp cp ps:=by
 obtain ⟨t1,t2,t3,t4,t5⟩:=h
 refine ⟨t1,t2,t3,t4,fun hne=>?_⟩
 obtain ⟨b,off,e,hbw,hc⟩:=t5 hne
 exact ⟨b,off,e,uB hbw hs.size,fun k hk=>⟨(hs.cell hbw (h4 b off e)).trans (hc k hk).1,(hs.cell hbw (h4 b off e)).trans (hc k hk).2⟩⟩
theorem eM (h:saleAt w B R S ap lp cp vo va) (hBR:B<=R) {C:Array Value} (hC:w.heap[R]?=some (.cells C 170)) (o:Ord) {L:List Value} (hL:L=o.vals) (hp:lP w w' B R C vo S.os.length (zP S.os) L) :
 ∃ vo',saleAt w' B R (S.more o) ap lp cp vo' va/\Same (fun b=>b=R\/vo.ownBlock=some b) w w'/\(∀ k,vo'.ownBlock=some k->vo.ownBlock=some k\/w.heap.size+2<=k)/\∃ g c,vo'=.slice (some (aq g 0)) (S.os.length+1) c:=by
 obtain ⟨g,cap,h1,h2,h3,h4⟩:=hp
 have hb:=h.blk
 rw [hC] at hb
 simp only [Option.some.injEq,Obj.cells.injEq,and_true] at hb
 subst hb
 subst hL
 have hRw:R<w.heap.size:=(blt hC)
 refine ⟨.slice (some (aq g 0)) (S.os.length+1) cap,⟨h1,?_,h.low,?_,?_⟩,h3,fun k hk=>?_,g,cap,rfl⟩
 ·refine mE h.tiers h3 (fun b off e=>?_)
  have hlow:=h.low b off e
  rintro (e1|e1)
  ·omega
  ·have:=(uJ h.os b e1).1;omega
 ·show w'.ownsRow B 213 6 _ (S.os++[o]).length (zP (S.os++[o]))
  rw [Gb]
  simpa using h2
 ·refine qG h.ansL (fun k hk=>h3.block k (uJ h.ansL k hk).2 ?_)
  rintro (e1|e1)
  ·exact qP h.ansL hC vO (e1▸hk)
  ·exact Jg h e1 hk
 ·have e:g=k:=by simpa [Value.ownBlock] using hk
  rw [← e]
  exact h4
theorem dR (h:saleAt w B R S ap lp cp vo va) (hI:salI S) (hb:Bl w w'):mV w w' B R S ap lp cp vo va :=
 ⟨vo,qL h hb,hI,Same.of_below hb,fun _ hk=>.inl hk⟩
end
theorem Nw {S:Sal} (h:salI S) (c u:Int) (hu:1<=u/\u<=4294967296) (hc:qF S.os 12 c+u<=4294967296) (t:Int):salI (S.more ⟨c,u,12,0,t,0⟩):=by
 refine ⟨fun x hx=>?_,?_,fun d hd=>?_,h.cfg,h.now,fun x hx=>?_,h.prices⟩
 ·rcases List.mem_append.1 hx with hx|hx
  ·exact h.units x hx
  ·simp at hx;subst hx;exact hu
 ·show qF (S.os++[_]) 13 0+qF (S.os++[_]) 14 0<=S.C.stock
  rw [jE,jE]
  have:=h.stock
  simp [Ord.part,Ord.is]
  omega
 ·show qF (S.os++[_]) 12 d<=4294967296
  rw [jE,iB hd]
  have:=h.cap d hd
  split
  ·next e=>have e2:d=c:=e.2;subst e2;show qF S.os 12 d+u<=_;omega
  ·omega
 ·rcases List.mem_append.1 hx with hx|hx
  ·exact h.ords x hx
  ·simp at hx;subst hx;exact ⟨by simp,by simp⟩
theorem pS {S:Sal} (h:salI S) (o:Ord) (hs:o.state=13) (hu:1<=o.units/\o.units<=4294967296) (hf:o.units<=S.free) (ho:(0<=o.cents/\o.cents<=1073741824)/\(0<=o.ended/\o.ended<=4611686018427387904)):salI (S.more o):=by
 refine ⟨fun x hx=>?_,?_,fun d hd=>?_,h.cfg,h.now,fun x hx=>?_,h.prices⟩
 ·rcases List.mem_append.1 hx with hx|hx
  ·exact h.units x hx
  ·simp at hx;subst hx;exact hu
 ·show qF (S.os++[_]) 13 0+qF (S.os++[_]) 14 0<=S.C.stock
  rw [jE,jE]
  unfold Sal.free Sal.left at hf
  simp [Ord.part,Ord.is,hs]
  omega
 ·show qF (S.os++[_]) 12 d<=4294967296
  rw [jE,iB hd]
  have:=h.cap d hd
  split
  ·next e=>have e1:=e.1;rw [hs] at e1;cases e1
  ·omega
 ·rcases List.mem_append.1 hx with hx|hx
  ·exact h.ords x hx
  ·simp at hx;subst hx;exact ho
theorem Oh (os:List Ord) (o p:Ord):(os++[o]).set os.length p=os++[p]:=by
 rw [List.set_append_right (h:=uA _)]
 simp
theorem lY (S:Sal) (c u:Int):(S.more ⟨c,u,0,0,0,0⟩).holds S.os.length=S.more ⟨c,u,13,(S.more ⟨c,u,13,0,0,0⟩).price,S.now+S.C.lease,0⟩/\(S.more ⟨c,u,13,0,0,0⟩).price=S.price:=by
 have g:(S.more ⟨c,u,0,0,0,0⟩).os.getD S.os.length qD=⟨c,u,0,0,0,0⟩:=by
  show (S.os++[_]).getD S.os.length qD=_
  rw [yI uO,uQ rfl]
 constructor
 ·unfold Sal.holds
  rw [g]
  unfold Sal.put
  simp only [Sal.more,Oh]
 ·unfold Sal.price
  show xG S.C.prices (qF (S.os++[_]) 14 0) _=_
  rw [jE]
  simp [Ord.part,Ord.is]
  rfl
section
variable {w w':World} {B R:Nat} {S:Sal} {ap:Option Addr} {lp cp:Nat} {vo va:Value}
theorem Mr (h:saleAt w B R S ap lp cp vo va) (hI:salI S) (hBR:B<=R) (hcap:S.C.cap<=4294967296) (hqm:1<=S.C.queue) (hl:S.os.length * 48+48<=140737488351232) (r:Req) (hr:1<=r.cust/\1<=r.units/\r.units<=4294967296) :
 Ca 145 #[pt R 0,r.val] w fun e w'=>e=.returned (S.ask r).1.val/\mV w w' B R (S.ask r).2 ap lp cp vo va:=by
 have hN:=hI.N hl
 have hRw:R<w.heap.size:=(blt h.blk)
 obtain ⟨_,c1,c2,_,c4,_,_,_,c8,c9,_⟩:=jS h.blk
 obtain ⟨oo,oc',hvo⟩:=yE h.os
 subst hvo
 have hc0:r.cust≠0:=uO
 have ha:0<=qF S.os 13 r.cust/\qF S.os 13 r.cust<=4294967296:=⟨fN hN _ _,hN.held _⟩
 have hb:0<=qF S.os 14 r.cust/\qF S.os 14 r.cust<=4294967296:=⟨fN hN _ _,hN.sold _⟩
 have hd:0<=qF S.os 12 r.cust/\qF S.os 12 r.cust<=4294967296:=⟨fN hN _ _,hN.waits _ hc0⟩
 have hu:0<=r.units/\r.units<=4294967296:=⟨uO,hr.2.2⟩
 have HU:Hid (∀ st:Int,(st=13\/st=14\/st=12)->∀ W,Below w.heap.size w W->Ca 122 #[pt R 0,iv st,iv r.cust] W fun e w'=>e=.returned (iv (qF S.os st r.cust))/\Below W.heap.size W w'):=fun st hst=>jT h hN st r.cust (hst.imp id (fun x=>x.imp id (fun x=>⟨x,hc0⟩)))
 have HQ:Hid (∀ W,Below w.heap.size w W->Ca 120 #[pt R 0] W fun e w'=>∃ oa oc,e=.returned (.slice oa (qK S.os).length oc)/\Below W.heap.size W w'):=fun W hW=>(gO h hN W hW).mono (by
  rintro e w' ⟨out,rfl,ho,hb⟩
  obtain ⟨a,c,rfl⟩:=yE ho
  exact ⟨a,c,rfl,hb⟩)
 have HL:=bG h hN
 have HFR:=bH h hN
 have hlow:B<=w.heap.size:=uO
 have hnw:0<=S.now/\S.now<=4611686018427387904/\0<=S.C.wait/\S.C.wait<=4294967296:=⟨hI.now.1,hI.now.2,hI.cfg.2.2.2.2.1,hI.cfg.2.2.2.2.2⟩
 have hql:(qK S.os).length=0↔qK S.os=[]:=List.length_eq_zero_iff
 refine Im R B _ r w (fun st=>qF S.os st r.cust) _ _ _ _ _ _ _ oo _ oc' (zP S.os) _ c1 ha hb hd hu c9 c2 uO c8 c4 hnw h.blk h.os hlow HU HQ HL HFR ?_ ?_ ?_ ?_ ?_ ?_
 ·intro g1 w' hb
  have g1:S.C.cap<qF S.os 13 r.cust+qF S.os 14 r.cust+qF S.os 12 r.cust+r.units:=g1
  have ea:S.ask r=(⟨4,0,0,0⟩,S):=by unfold Sal.ask;rw [uQ g1]
  show Ending.returned _=Ending.returned (S.ask r).1.val/\mV w w' B R (S.ask r).2 ap lp cp (.slice oo S.os.length oc') va
  rw [ea]
  exact ⟨rfl,dR h hI hb⟩
 ·intro g1 g2 w' hb
  have g1:¬ S.C.cap<qF S.os 13 r.cust+qF S.os 14 r.cust+qF S.os 12 r.cust+r.units:=g1
  have ea:S.ask r=(⟨5,0,0,0⟩,S):=by unfold Sal.ask;rw [uP g1,uQ g2]
  show Ending.returned _=Ending.returned (S.ask r).1.val/\mV w w' B R (S.ask r).2 ap lp cp (.slice oo S.os.length oc') va
  rw [ea]
  exact ⟨rfl,dR h hI hb⟩
 ·intro g1 g2 g3 w' hb
  have g1:¬ S.C.cap<qF S.os 13 r.cust+qF S.os 14 r.cust+qF S.os 12 r.cust+r.units:=g1
  have ea:S.ask r=(⟨6,0,0,0⟩,S):=by unfold Sal.ask;rw [uP g1,uP g2,uQ g3]
  show Ending.returned _=Ending.returned (S.ask r).1.val/\mV w w' B R (S.ask r).2 ap lp cp (.slice oo S.os.length oc') va
  rw [ea]
  exact ⟨rfl,dR h hI hb⟩
 ·intro g1 g2 g3 gq g5 w' hb
  have g1:¬ S.C.cap<qF S.os 13 r.cust+qF S.os 14 r.cust+qF S.os 12 r.cust+r.units:=g1
  have ea:S.ask r=(⟨6,0,0,0⟩,S):=by unfold Sal.ask;rw [uP g1,uP g2,uP uO,uP (fun c=>by have:=hql.2 c.1;omega),uQ g5]
  show Ending.returned _=Ending.returned (S.ask r).1.val/\mV w w' B R (S.ask r).2 ap lp cp (.slice oo S.os.length oc') va
  rw [ea]
  exact ⟨rfl,dR h hI hb⟩
 ·intro g1 g2 g3 gq g5 w' hW
  have g1:¬ S.C.cap<qF S.os 13 r.cust+qF S.os 14 r.cust+qF S.os 12 r.cust+r.units:=g1
  have fresh:∀ w',lP w w' B R #[iv S.C.stock,iv S.C.cap,iv S.C.queue,iv S.C.lease,iv S.C.wait,iv S.C.keep,iv S.C.tokens,.slice ap lp cp,iv S.now,.slice oo S.os.length oc',va] (.slice oo S.os.length oc') S.os.length (zP S.os) [iv r.cust,iv r.units,iv 12,iv 0,iv (S.now+S.C.wait),iv 0]->mV w w' B R (S.more ⟨r.cust,r.units,12,0,S.now+S.C.wait,0⟩) ap lp cp (.slice oo S.os.length oc') va:=fun w' hW=>by
   obtain ⟨vo',a1,a2,a3,g,c,hvo'⟩:=eM h hBR h.blk ⟨r.cust,r.units,12,0,S.now+S.C.wait,0⟩ rfl hW
   exact ⟨vo',a1,Nw hI _ _ hr.2 uO _,a2,a3⟩
  have ea:S.ask r=(⟨3,S.os.length+1,0,S.now+S.C.wait⟩,S.more ⟨r.cust,r.units,12,0,S.now+S.C.wait,0⟩):=by
   unfold Sal.ask
   rw [uP g1,uP g2,uP uO,uP (fun c=>by have:=hql.2 c.1;have:=c.2;omega),uP g5]
  show Ending.returned _=Ending.returned (S.ask r).1.val/\mV w w' B R (S.ask r).2 ap lp cp (.slice oo S.os.length oc') va
  rw [ea]
  exact ⟨rfl,fresh w' hW⟩
 ·intro g1 g2 g3 gq gf
  have g1:¬ S.C.cap<qF S.os 13 r.cust+qF S.os 14 r.cust+qF S.os 12 r.cust+r.units:=g1
  have g4:qK S.os=[]/\r.units<=S.free:=⟨hql.1 gq,uO⟩
  obtain ⟨m1,m2⟩:=lY S r.cust r.units
  have hg:((S.more ⟨r.cust,r.units,0,0,0,0⟩).holds S.os.length).os.getD S.os.length qD=⟨r.cust,r.units,13,S.price,S.now+S.C.lease,0⟩:=by
   rw [m1,m2]
   show (S.os++[_]).getD S.os.length qD=_
   rw [yI uO,uQ rfl]
  have hI':salI ((S.more ⟨r.cust,r.units,0,0,0,0⟩).holds S.os.length):=by
   rw [m1,m2]
   exact pS hI _ rfl hr.2 g4.2 ⟨kO hI.prices _ _ (uA _),by simp⟩
  have hN1:salN ((S.more ⟨r.cust,r.units,0,0,0,0⟩).put S.os.length { (S.more ⟨r.cust,r.units,0,0,0,0⟩).os.getD S.os.length qD with state:=13 }):=by
   have e:(S.more ⟨r.cust,r.units,0,0,0,0⟩).put S.os.length { (S.more ⟨r.cust,r.units,0,0,0,0⟩).os.getD S.os.length qD with state:=13 }=S.more ⟨r.cust,r.units,13,0,0,0⟩:=by
    have g:(S.more ⟨r.cust,r.units,0,0,0,0⟩).os.getD S.os.length qD=⟨r.cust,r.units,0,0,0,0⟩:=by
     show (S.os++[_]).getD S.os.length qD=_
     rw [yI uO,uQ rfl]
    rw [g]
    unfold Sal.put
    simp only [Sal.more,Oh]
   rw [e]
   exact (pS hI ⟨r.cust,r.units,13,0,0,0⟩ rfl hr.2 g4.2 ⟨by simp,by simp⟩).N (by simp [Sal.more];omega)
  have ea:S.ask r=(⟨2,S.os.length+1,S.price,S.now+S.C.lease⟩,(S.more ⟨r.cust,r.units,0,0,0,0⟩).holds S.os.length):=by
   unfold Sal.ask
   rw [uP g1,uP g2,uP uO,uQ g4,hg]
  refine ⟨S.price,S.now+S.C.lease,fun W=>mV w W B R ((S.more ⟨r.cust,r.units,0,0,0,0⟩).holds S.os.length) ap lp cp (.slice oo S.os.length oc') va,?_,?_,fun w' hq=>?_⟩
  ·intro W hw1 hW
   obtain ⟨vo',a1,a2,a3,g,c,hvo'⟩:=eM h hBR h.blk ⟨r.cust,r.units,0,0,0,0⟩ rfl hW
   refine (iZ a1 (i:=S.os.length) (by simp [Sal.more]) hN1 ⟨hI.now.1,hI.now.2,hI.cfg.2.2.1,hI.cfg.2.2.2.1⟩ W (uM _ _)).mono ?_
   rintro e w' ⟨rfl,b1,b2⟩
   have hne:¬ vo'.ownBlock=some (w.heap.size+1):=fun e=>by
    rcases a3 _ e with x|x
    ·have:=(uJ h.os _ x).2;omega
    ·omega
   have zW:=a2.size
   have z2:=b2.size
   obtain ⟨_,_,_,_,_,_,_,_,_,x9,_⟩:=jS b1.blk
   obtain ⟨g2,cap2,hv2,hg2,_,_,ho2,_⟩:=eF b1 (i:=S.os.length) (by rw [m1];simp [Sal.more])
   rw [hg] at ho2
   refine ⟨rfl,⟨vo',b1,hI',?_,a3⟩,b2.block _ hw1 hne,z2,?_⟩
   ·exact Same.trans a2 b2 (fun k hk e=>e.elim id (fun e=>(a3 k e).elim .inr (fun e=>uO)))
   ·rw [hv2] at x9
    have hlen:((S.more ⟨r.cust,r.units,0,0,0,0⟩).holds S.os.length).os.length=S.os.length+1:=by rw [m1];simp [Sal.more]
    rw [hlen] at x9
    exact ⟨g2,cap2,x9,ho2.2.2.2.1,ho2.2.2.2.2.1,hg2⟩
  ·rintro W W' ⟨vo',a1,a2,a3,a4⟩ hs
   have hRw':R≠w.heap.size+1:=uO
   refine ⟨vo',xK a1 hs hRw' (fun k hk=>?_) (fun k hk=>?_) (fun _ b off e=>?_),a2,Same.trans a3 hs (fun k hk e=>e.elim id (fun e=>uO)),a4⟩
   ·show k≠w.heap.size+1
    rcases a4 k hk with x|x
    ·have:=(uJ h.os _ x).2;omega
    ·omega
   ·show k≠w.heap.size+1
    have:=(uJ h.ansL _ hk).2
    omega
   ·show b≠w.heap.size+1
    have:=h.low b off e
    omega
  ·show Ending.returned _=Ending.returned (S.ask r).1.val/\mV w w' B R (S.ask r).2 ap lp cp (.slice oo S.os.length oc') va
   rw [ea]
   exact ⟨rfl,hq⟩
end
end
theorem Ah (R bl bc:Nat) (ba:Option Addr) (k t c u o err:Int) (w:World) (he:err=2)
 (HUP:Hid (∀ W,Below w.heap.size w W->Ca 77 #[.slice ba bl bc] W fun e w'=>e=.returned (.tuple #[.agg #[iv k,iv t,iv c,iv u,iv o],iv err])/\Below W.heap.size W w')) :
 Ca 118 #[pt R 0,.slice ba bl bc] w fun e w'=>e=.returned (.agg #[iv 1,iv 0,iv 0,iv 0])/\Below w.heap.size w w':=by
 subst he
 go_enter Tryz.func118,Tryz.ntmps118
 go_wp2_with fail
 refine (HUP.out _ bL).mono ?_
 rintro e w1 ⟨rfl,b1⟩
 have w01:Below w.heap.size w w1:=uL (show Below w.heap.size w _ from bL) (b1.mono vS)
 have n0:w1.heap[w.heap.size]?=some (.cells #[iv 0,iv 0,iv 0,iv 0] 33):=(b1.block _ vS).trans (uF w _)
 have hz:w.heap.size<w1.heap.size:=(blt n0)
 have hne:w1.heap.size≠w.heap.size:=uO
 obtain ⟨s0,s1,s2,s3⟩:=qC n0
 have f0:=qA n0 0
 have f1:=qA n0 1
 have f2:=qA n0 2
 have f3:=qA n0 3
 go_wp2
 refine uK (v:=.agg #[iv 1,iv 0,iv 0,iv 0]) (by simp [results,Tryz.results118,go_sem, *]) rfl ⟨rfl,?_⟩
 exact bL
theorem Ff (R bl bc:Nat) (ba:Option Addr) (k t c u o err p0 p1 p2 p3:Int) (w:World) (he:err=0) (hk:k=4)
 (HUP:Hid (∀ W,Below w.heap.size w W->Ca 77 #[.slice ba bl bc] W fun e w'=>e=.returned (.tuple #[.agg #[iv k,iv t,iv c,iv u,iv o],iv err])/\Below W.heap.size W w'))
 (HPO:Hid (∀ W,Below w.heap.size w W->Ca 143 #[pt R 0,.agg #[iv 4,iv t,iv c,iv u,iv o]] W fun e w'=>e=.returned (.agg #[iv p0,iv p1,iv p2,iv p3])/\Below W.heap.size W w')) :
 Ca 118 #[pt R 0,.slice ba bl bc] w fun e w'=>e=.returned (.agg #[iv p0,iv p1,iv p2,iv p3])/\Below w.heap.size w w':=by
 subst he
 subst hk
 go_enter Tryz.func118,Tryz.ntmps118
 go_wp2_with fail
 refine (HUP.out _ bL).mono ?_
 rintro e w1 ⟨rfl,b1⟩
 have w01:Below w.heap.size w w1:=uL (show Below w.heap.size w _ from bL) (b1.mono vS)
 have n0:w1.heap[w.heap.size]?=some (.cells #[iv 0,iv 0,iv 0,iv 0] 33):=(b1.block _ vS).trans (uF w _)
 have hz:w.heap.size<w1.heap.size:=(blt n0)
 have hne:w1.heap.size≠w.heap.size:=uO
 clear b1
 go_wp2_with fail
 refine (HPO.out _ bL).mono ?_
 rintro e w2 ⟨rfl,b2⟩
 have w02:Below w.heap.size w w2:=uL (show Below w.heap.size w _ from bL) (b2.mono uS)
 have n2:=(b2.block w.heap.size uS).trans ((uE w1 _ _ hz).trans n0)
 have hz2:w.heap.size<w2.heap.size:=(blt n2)
 obtain ⟨s0,s1,s2,s3⟩:=qC n2
 have f0:=qA n2 0
 have f1:=qA n2 1
 have f2:=qA n2 2
 have f3:=qA n2 3
 clear b2 n0 n2
 go_wp2
 refine uK (v:=.agg #[iv p0,iv p1,iv p2,iv p3]) (by simp [results,Tryz.results118,go_sem, *]) rfl ⟨rfl,?_⟩
 exact bL
