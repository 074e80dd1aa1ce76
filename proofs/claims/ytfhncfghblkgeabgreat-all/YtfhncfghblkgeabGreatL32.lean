import Derived.Test.YtfhncfghblkgeabGreatL31
set_option maxRecDepth 100000
set_option maxHeartbeats 2000000
namespace Go.Proofs.YtfhncfghblkgeabGreat
open Go.RowKit
theorem Dk (x R:Nat) (o:OpV) (w:World) (ho:o.k=13) (b0 b1 b2 b3 b4:Int) (own:Nat->Prop) (hown:∀ b,own b->b<w.heap.size) (Q1 Q2:World->Prop)
 (H1:Hid (∀ W,Below w.heap.size w W->Ca 22 #[pt x 0] W fun e w'=>e=.returned (.agg #[iv b0,iv b1,iv b2,iv b3,iv b4])/\Q1 w'/\Same own W w'))
 (HQ:Hid (∀ W W',Q1 W->Below W.heap.size W W'->Q1 W'))
 (H2:Hid (∀ W,Q1 W->Ca 90 #[pt R 0] W fun e w'=>e=.returned (.agg #[iv b0,iv b1,iv b2,iv b3,iv b4])/\Q2 w'/\Below W.heap.size W w'))
 (HQ2:Hid (∀ W W',Q2 W->Below W.heap.size W W'->Q2 W')) :
 Ca 54 #[.agg #[pt x 0,pt R 0],o.val] w fun r w'=>r=.returned (.bool true)/\Q2 w':=by
 obtain ⟨ok,oa,ob,oc,od,oe,os⟩:=o
 simp only at ho
 subst ho
 unfold OpV.val
 simp only
 go_enter Tryz.func54,Tryz.ntmps54
 go_wp2_with fail
 refine (H1.out _ bL).mono ?_
 rintro e w1 ⟨rfl,hq1,hs1⟩
 have hz1:w.heap.size+2<=w1.heap.size:=by have:=hs1.size;simpa using this
 have pr1:Hid (w1.heap[w.heap.size]?=some (.cells #[pt x 0,pt R 0] 119)):=(hs1.block w.heap.size uT (fun e=>by have:=hown _ e;omega)).trans ((uE _ _ _ vS).trans (uF w _))
 have qr1:Hid (w1.heap[w.heap.size+1]?=some (.cells #[iv 13,iv oa,iv ob,iv oc,iv od,iv oe,.string os] 83)):=(hs1.block (w.heap.size+1) vS (fun e=>by have:=hown _ e;omega)).trans (by
  have h:=uF (w.alloc (.cells #[pt x 0,pt R 0] 119)) (.cells #[iv 13,iv oa,iv ob,iv oc,iv od,iv oe,.string os] 83)
  rwa [show (w.alloc (.cells #[pt x 0,pt R 0] 119)).heap.size=w.heap.size+1 by simp] at h)
 obtain ⟨u0,u1⟩:=xM pr1.out
 obtain ⟨v0,v1,v2,v3,v4,v5,v6⟩:=xJ qr1.out
 have hw0:w.heap.size<w1.heap.size:=uO
 have hw1:w.heap.size+1<w1.heap.size:=uO
 clear hs1
 go_wp2_with fail
 refine (H2.out _ (HQ.out w1 _ hq1 ((uM _ _).alloc (uA _) _))).mono ?_
 rintro e w2 ⟨rfl,hq2,b2'⟩
 have r2:Hid (w2.heap[w1.heap.size]?=some (.cells #[iv b0,iv b1,iv b2,iv b3,iv b4] 61)):=(b2'.block _ vS).trans (uF w1 _)
 obtain ⟨y0,y1,y2,y3,y4⟩:=qU r2.out
 have hz2:w1.heap.size<w2.heap.size:=(blt r2.out)
 have hqf:=HQ2.out w2 _ hq2 ((uM _ _).alloc (uA _) (.cells #[iv b0,iv b1,iv b2,iv b3,iv b4] 61))
 clear b2' hq1 hq2 u0 u1 v0 v1 v2 v3 v4 v5 v6
 go_wp2
 go_ret
 exact ⟨rfl,hqf⟩
theorem Xi (x R:Nat) (o:OpV) (w:World) (ho:o.k=14) (b0 b1 b2 b3:Int) (own:Nat->Prop) (hown:∀ b,own b->b<w.heap.size) (Q1 Q2:World->Prop)
 (H1:Hid (∀ W,Below w.heap.size w W->Ca 24 #[pt x 0,iv o.b] W fun e w'=>e=.returned (.tuple #[.agg #[iv b0,iv b1,iv b2],iv b3])/\Q1 w'/\Same own W w'))
 (HQ:Hid (∀ W W',Q1 W->Below W.heap.size W W'->Q1 W'))
 (H2:Hid (∀ W,Q1 W->Ca 91 #[pt R 0,iv o.b] W fun e w'=>e=.returned (.tuple #[.agg #[iv b0,iv b1,iv b2],iv b3])/\Q2 w'/\Below W.heap.size W w'))
 (HQ2:Hid (∀ W W',Q2 W->Below W.heap.size W W'->Q2 W')) :
 Ca 54 #[.agg #[pt x 0,pt R 0],o.val] w fun r w'=>r=.returned (.bool true)/\Q2 w':=by
 obtain ⟨ok,oa,ob,oc,od,oe,os⟩:=o
 simp only at ho
 subst ho
 unfold OpV.val
 simp only
 go_enter Tryz.func54,Tryz.ntmps54
 go_wp2_with fail
 refine (H1.out _ bL).mono ?_
 rintro e w1 ⟨rfl,hq1,hs1⟩
 have hz1:w.heap.size+2<=w1.heap.size:=by have:=hs1.size;simpa using this
 have pr1:Hid (w1.heap[w.heap.size]?=some (.cells #[pt x 0,pt R 0] 119)):=(hs1.block w.heap.size uT (fun e=>by have:=hown _ e;omega)).trans ((uE _ _ _ vS).trans (uF w _))
 have qr1:Hid (w1.heap[w.heap.size+1]?=some (.cells #[iv 14,iv oa,iv ob,iv oc,iv od,iv oe,.string os] 83)):=(hs1.block (w.heap.size+1) vS (fun e=>by have:=hown _ e;omega)).trans (by
  have h:=uF (w.alloc (.cells #[pt x 0,pt R 0] 119)) (.cells #[iv 14,iv oa,iv ob,iv oc,iv od,iv oe,.string os] 83)
  rwa [show (w.alloc (.cells #[pt x 0,pt R 0] 119)).heap.size=w.heap.size+1 by simp] at h)
 obtain ⟨u0,u1⟩:=xM pr1.out
 obtain ⟨v0,v1,v2,v3,v4,v5,v6⟩:=xJ qr1.out
 have hw0:w.heap.size<w1.heap.size:=uO
 have hw1:w.heap.size+1<w1.heap.size:=uO
 clear hs1
 go_wp2_with fail
 refine (H2.out _ (HQ.out w1 _ hq1 ((uM _ _).alloc (uA _) _))).mono ?_
 rintro e w2 ⟨rfl,hq2,b2'⟩
 have r2:Hid (w2.heap[w1.heap.size]?=some (.cells #[iv b0,iv b1,iv b2] 65)):=(b2'.block _ vS).trans (uF w1 _)
 obtain ⟨y0,y1,y2⟩:=dW r2.out
 have hz2:w1.heap.size<w2.heap.size:=(blt r2.out)
 have hqf:=HQ2.out w2 _ hq2 ((uM _ _).alloc (uA _) (.cells #[iv b0,iv b1,iv b2] 65))
 clear b2' hq1 hq2 u0 u1 v0 v1 v2 v3 v4 v5 v6
 go_wp2
 go_ret
 exact ⟨rfl,hqf⟩
theorem Tt (x R:Nat) (o:OpV) (w:World) (ho:o.k=15) (b0 b1:Int) (own:Nat->Prop) (hown:∀ b,own b->b<w.heap.size) (Q1 Q2:World->Prop)
 (H1:Hid (∀ W,Below w.heap.size w W->Ca 30 #[pt x 0,iv o.b] W fun e w'=>e=.returned (.tuple #[iv b0,iv b1])/\Q1 w'/\Same own W w'))
 (H2:Hid (∀ W,Q1 W->Ca 92 #[pt R 0,iv o.b] W fun e w'=>e=.returned (.tuple #[iv b0,iv b1])/\Q2 w')) :
 Ca 54 #[.agg #[pt x 0,pt R 0],o.val] w fun r w'=>r=.returned (.bool true)/\Q2 w':=by
 obtain ⟨ok,oa,ob,oc,od,oe,os⟩:=o
 simp only at ho
 subst ho
 unfold OpV.val
 simp only
 go_enter Tryz.func54,Tryz.ntmps54
 go_wp2_with fail
 refine (H1.out _ bL).mono ?_
 rintro e w1 ⟨rfl,hq1,hs1⟩
 have hz1:w.heap.size+2<=w1.heap.size:=by have:=hs1.size;simpa using this
 have pr1:Hid (w1.heap[w.heap.size]?=some (.cells #[pt x 0,pt R 0] 119)):=(hs1.block w.heap.size uT (fun e=>by have:=hown _ e;omega)).trans ((uE _ _ _ vS).trans (uF w _))
 have qr1:Hid (w1.heap[w.heap.size+1]?=some (.cells #[iv 15,iv oa,iv ob,iv oc,iv od,iv oe,.string os] 83)):=(hs1.block (w.heap.size+1) vS (fun e=>by have:=hown _ e;omega)).trans (by
  have h:=uF (w.alloc (.cells #[pt x 0,pt R 0] 119)) (.cells #[iv 15,iv oa,iv ob,iv oc,iv od,iv oe,.string os] 83)
  rwa [show (w.alloc (.cells #[pt x 0,pt R 0] 119)).heap.size=w.heap.size+1 by simp] at h)
 obtain ⟨u0,u1⟩:=xM pr1.out
 obtain ⟨v0,v1,v2,v3,v4,v5,v6⟩:=xJ qr1.out
 have hw0:w.heap.size<w1.heap.size:=uO
 have hw1:w.heap.size+1<w1.heap.size:=uO
 clear hs1
 go_wp2_with fail
 refine (H2.out _ hq1).mono ?_
 rintro e w2 ⟨rfl,hq2⟩
 clear hq1 u0 u1 v0 v1 v2 v3 v4 v5 v6
 go_wp2
 go_ret
 exact ⟨rfl,hq2⟩
theorem Lw (x R:Nat) (o:OpV) (w:World) (ho:o.k=16) (b0:Int) (own:Nat->Prop) (hown:∀ b,own b->b<w.heap.size) (Q1:World->Prop)
 (H1:Hid (∀ W,Below w.heap.size w W->Ca 23 #[pt x 0] W fun e w'=>e=.returned (iv b0)/\Q1 w'/\Same own W w'))
 (H2:Hid (∀ W,Q1 W->W.cell? (aq R 8)=some (iv b0))) :
 Ca 54 #[.agg #[pt x 0,pt R 0],o.val] w fun r w'=>r=.returned (.bool true)/\Q1 w':=by
 obtain ⟨ok,oa,ob,oc,od,oe,os⟩:=o
 simp only at ho
 subst ho
 unfold OpV.val
 simp only
 go_enter Tryz.func54,Tryz.ntmps54
 go_wp2_with fail
 refine (H1.out _ bL).mono ?_
 rintro e w1 ⟨rfl,hq1,hs1⟩
 have hz1:w.heap.size+2<=w1.heap.size:=by have:=hs1.size;simpa using this
 have pr1:Hid (w1.heap[w.heap.size]?=some (.cells #[pt x 0,pt R 0] 119)):=(hs1.block w.heap.size uT (fun e=>by have:=hown _ e;omega)).trans ((uE _ _ _ vS).trans (uF w _))
 have qr1:Hid (w1.heap[w.heap.size+1]?=some (.cells #[iv 16,iv oa,iv ob,iv oc,iv od,iv oe,.string os] 83)):=(hs1.block (w.heap.size+1) vS (fun e=>by have:=hown _ e;omega)).trans (by
  have h:=uF (w.alloc (.cells #[pt x 0,pt R 0] 119)) (.cells #[iv 16,iv oa,iv ob,iv oc,iv od,iv oe,.string os] 83)
  rwa [show (w.alloc (.cells #[pt x 0,pt R 0] 119)).heap.size=w.heap.size+1 by simp] at h)
 obtain ⟨u0,u1⟩:=xM pr1.out
 obtain ⟨v0,v1,v2,v3,v4,v5,v6⟩:=xJ qr1.out
 have hw0:w.heap.size<w1.heap.size:=uO
 have hw1:w.heap.size+1<w1.heap.size:=uO
 clear hs1
 have r8:=H2.out w1 hq1
 have hRw:R<w1.heap.size:=uC w1 _ r8
 go_wp2
 go_ret
 exact ⟨rfl,hq1⟩
section
def Sal.acc (S:Sal) (c:Int):Int × Int × Int × Int:=if yU c then ((S.account c).1,(S.account c).2.1,(S.account c).2.2,0) else (0,0,0,3)
structure BookOK (PS:World->Nat->(Nat->Prop)->Sal->Prop):Prop where
 books:∀ {w x own S},PS w x own S->salJ S->Ca 22 #[pt x 0] w fun e w'=>e=.returned (.agg #[iv S.free,iv (qF S.os 13 0),iv (qF S.os 14 0),iv (qK S.os).length,iv S.answers])/\Xq PS w w' x own S
 account:∀ {w x own S} (c:Int),PS w x own S->salJ S->Ca 24 #[pt x 0,iv c] w fun e w'=>e=.returned (.tuple #[.agg #[iv (S.acc c).1,iv (S.acc c).2.1,iv (S.acc c).2.2.1],iv (S.acc c).2.2.2])/\Xq PS w w' x own S
structure TickOK (PS:World->Nat->(Nat->Prop)->Sal->Prop):Prop where
 tick:∀ {w x own S} (n:Int),-9223372036854775808<=n->n<=9223372036854775807->PS w x own S->salJ S->Ca 30 #[pt x 0,iv n] w fun e w'=>e=.returned (.tuple #[iv (S.tick n).1.1,iv (S.tick n).1.2])/\Xq PS w w' x own (S.tick n).2
 clock:∀ {w x own S},PS w x own S->salJ S->Ca 23 #[pt x 0] w fun e w'=>e=.returned (iv S.now)/\Xq PS w w' x own S
theorem fO (S:Sal) (st en:Int):(S.past st en).C=S.C/\(S.past st en).now=S.now/\(S.past st en).ansL=S.ansL:=by
 obtain ⟨a,b,c⟩:=oH (zA S st en S.os.length)
 obtain ⟨d,e,f⟩:=vL S st en S.os.length
 exact ⟨a.trans d,b.trans e,c.trans f⟩
theorem Ho (S:Sal) (t:Int):(S.round t).C=S.C/\(S.round t).ansL=S.ansL/\(S.round t).os.length=S.os.length:=by
 obtain ⟨a,_,c⟩:=fO (({ S with now:=t }:Sal).past 13 15) 12 17
 obtain ⟨d,_,f⟩:=fO ({ S with now:=t }:Sal) 13 15
 exact ⟨a.trans d,c.trans f,(tS _ 12 17).trans (tS _ 13 15)⟩
theorem aP:∀ (n:Nat) (S:Sal) (to:Int),(gF n S to).C=S.C/\(gF n S to).ansL=S.ansL/\(gF n S to).os.length=S.os.length
 | 0,_,_=>⟨rfl,rfl,rfl⟩
 | n+1,S,to=>by
   unfold gF
   split
   ·exact ⟨rfl,rfl,rfl⟩
   ·obtain ⟨a,b,c⟩:=aP n (S.round (S.due to)) to
    obtain ⟨d,e,f⟩:=Ho S (S.due to)
    exact ⟨a.trans d,b.trans e,c.trans f⟩
theorem Qm (S:Sal) (n:Int):(S.tick n).2.C=S.C/\(S.tick n).2.ansL=S.ansL/\(S.tick n).2.os.length=S.os.length:=by
 unfold Sal.tick
 split
 ·exact ⟨rfl,rfl,rfl⟩
 split<;>exact aP _ _ _
theorem Mu {S:Sal} (h:salJ S) (n:Int) (hI:salI (S.tick n).2):salJ (S.tick n).2:=by
 obtain ⟨a,b,c⟩:=Qm S n
 exact ⟨hI,by rw [a];exact h.cap,by rw [a];exact h.queue,by rw [c];exact h.len,by rw [b];exact h.ats⟩
section
variable {PS:World->Nat->(Nat->Prop)->Sal->Prop} {w:World} {B j:Nat} {e:SE}
def Bp (PS:World->Nat->(Nat->Prop)->Sal->Prop) (w:World) (B:Nat) (e:SE) (S2:Sal) (W:World):Prop :=
 ∃ own',PS W e.x own' S2/\saleAt W B e.R e.S e.ap e.lp e.cp e.vo e.va/\Same e.own w W/\∀ k,own' k->e.own k\/w.heap.size<=k
theorem bU (h:entS PS w B j e) {W w':World} {S2:Sal} (hW:Below w.heap.size w W) (ha:Xq PS W w' e.x e.own S2):Bp PS w B e S2 w'/\Same e.own W w':=by
 obtain ⟨own',a1,a2,a3⟩:=ha
 have hz:=hW.size
 refine ⟨⟨own',a1,xK (qL h.ref hW) a2 h.apart.1 h.apart.2.1 h.apart.2.2 (fun _ b off eq ho=>?_),Same.trans (Same.of_below (own:=fun _=>False) hW) a2 (fun k _ eq=>eq.elim False.elim id),fun k hk=>(a3 k hk).imp id (fun eq=>uO)⟩,a2⟩
 have:=h.low b ho
 have:=h.ref.low b off eq
 omega
theorem fK (T:SendOK PS) {S2:Sal} {W W':World} (hq:Bp PS w B e S2 W) (hb:Below W.heap.size W W'):Bp PS w B e S2 W':=by
 obtain ⟨own',a1,a2,a3,a4⟩:=hq
 exact ⟨own',T.keep a1 hb.size (fun k hk=>hb.block k (T.lt a1 k hk)),qL a2 hb,Same.trans a3 (Same.of_below (own:=fun _=>False) hb) (fun k _ eq=>eq.elim id False.elim),a4⟩
theorem Ay (T:SendOK PS) (h:entS PS w B j e) {W:World} (hW:Below w.heap.size w W):PS W e.x e.own e.S:=T.keep h.ps hW.size (fun k hk=>hW.block k (T.lt h.ps k hk))
theorem oA (T:SendOK PS) (h:entS PS w B j e) {own':Nat->Prop} (ho:∀ k,own' k->e.own k\/w.heap.size<=k) {k:Nat} (hk:own' k):k≠e.R/\e.vo.ownBlock≠some k/\e.va.ownBlock≠some k:=by
 rcases ho k hk with x|x
 ·exact ⟨fun eq=>h.apart.1 (eq▸x),fun eq=>h.apart.2.1 k eq x,fun eq=>h.apart.2.2 k eq x⟩
 ·refine ⟨fun eq=>?_,fun eq=>?_,fun eq=>?_⟩
  ·have:=dO T h (k:=k) (.inr (.inl eq));omega
  ·have:=dO T h (k:=k) (.inr (.inr (.inl eq)));omega
  ·have:=dO T h (k:=k) (.inr (.inr (.inr eq)));omega
theorem Um (T:SendOK PS) (h:entS PS w B j e) {W:World} (hq:Bp PS w B e e.S W):∃ e2,entS PS W B (j+1) e2/\e.then e2 w/\Same e.fp w W:=by
 obtain ⟨own',a1,a2,a3,a4⟩:=hq
 have hRw:=dO T h (k:=e.R) (.inr (.inl rfl))
 have hBR:=h.hBR
 refine ⟨⟨e.x,e.R,own',e.ap,e.lp,e.cp,e.vo,e.va,e.S⟩,⟨a1,a2,h.J,h.hBR,⟨fun ho=>(oA T h a4 ho).1 rfl,fun k hk ho=>(oA T h a4 ho).2.1 hk,fun k hk ho=>(oA T h a4 ho).2.2 hk⟩,fun k hk=>?_,Nat.le_succ_of_le h.ans⟩,⟨rfl,rfl,fun k hk=>?_⟩,⟨a3.os,a3.tape,a3.output,a3.size,fun k hk hn=>a3.block k hk (fun eq=>hn (.inl eq))⟩⟩
 ·rcases a4 k hk with x|x
  ·exact h.low k x
  ·show B<=k;omega
 ·rcases hk with hk|hk
  ·exact (a4 k hk).imp .inl id
  ·exact .inl (.inr hk)
theorem Cf (T:SendOK PS) (h:entS PS w B j e) (o:OpV) (ho:Bo o) (hj:(j+1) * 64<=140737488355328) (hk:o.k=11\/o.k=12\/((o.k=13\/o.k=14)/\BookOK PS)\/((o.k=15\/o.k=16)/\TickOK PS)) :
 Ca 54 #[.agg #[pt e.x 0,pt e.R 0],o.val] w fun r w'=>r=.returned (.bool true)/\∃ e2,entS PS w' B (j+1) e2/\e.then e2 w/\Same e.fp w w':=by
 have lt:=fun k hk=>dO T h (k:=k) hk
 have entB:∀ W,Below w.heap.size w W->entS PS W B j e:=fun W hW=>⟨Ay T h hW,qL h.ref hW,h.J,h.hBR,h.apart,h.low,h.ans⟩
 have hsent:∀ s:ByteArray,s.size<=140737488351232->∀ W,Below w.heap.size w W->Ca 88 #[.agg #[pt e.x 0,pt e.R 0],.string s] W fun r w'=>r=.returned (.bool true)/\(∃ e2,entS PS w' B (j+1) e2/\e.then e2 w/\Same e.fp w w')/\Same e.fp W w':=fun s hs W hW=>by
  refine (Ep T (entB W hW) s hs hj).mono ?_
  rintro r w' ⟨rfl,e2,a1,a2,a3⟩
  have hz:=hW.size
  exact ⟨rfl,⟨e2,a1,⟨a2.1,a2.2.1,fun k hk=>(a2.2.2 k hk).imp id (fun x=>uO)⟩,Same.trans (Same.of_below (own:=fun _=>False) hW) a3 (fun k _ eq=>eq.elim False.elim id)⟩,a3⟩
 rcases hk with hk|hk|⟨hk|hk,K⟩|⟨hk|hk,K⟩
 ·exact Mv e.x e.R o w hk ho _ e.fp lt hsent
 ·exact Hr e.x e.R o w hk _ (fun W hW=>(hsent o.s ho.2.2.2.2.2.2 W hW).mono (by rintro r w' ⟨rfl,a,_⟩;exact ⟨rfl,a⟩))
 ·refine (Dk e.x e.R o w hk e.S.free (qF e.S.os 13 0) (qF e.S.os 14 0) (qK e.S.os).length e.S.answers e.own (fun b hb=>lt b (.inl hb)) (Bp PS w B e e.S) (Bp PS w B e e.S) (fun W hW=>?_) (fun W W' hq hb=>fK T hq hb) (fun W hq=>?_) (fun W W' hq hb=>fK T hq hb)).mono (by rintro r w' ⟨rfl,hq⟩;exact ⟨rfl,Um T h hq⟩)
  ·refine (K.books (Ay T h hW) h.J).mono ?_
   rintro r w' ⟨rfl,ha⟩
   exact ⟨rfl,(bU h hW ha).1,(bU h hW ha).2⟩
  ·obtain ⟨own',a1,a2,a3,a4⟩:=hq
   refine (Un a2 h.J.I (Yj h.J) h.J.ats (by have:=h.ans;omega)).mono ?_
   rintro r w' ⟨rfl,hb⟩
   exact ⟨rfl,fK T ⟨own',a1,a2,a3,a4⟩ hb,hb⟩
 ·refine (Xi e.x e.R o w hk (e.S.acc o.b).1 (e.S.acc o.b).2.1 (e.S.acc o.b).2.2.1 (e.S.acc o.b).2.2.2 e.own (fun b hb=>lt b (.inl hb)) (Bp PS w B e e.S) (Bp PS w B e e.S) (fun W hW=>?_) (fun W W' hq hb=>fK T hq hb) (fun W hq=>?_) (fun W W' hq hb=>fK T hq hb)).mono (by rintro r w' ⟨rfl,hq⟩;exact ⟨rfl,Um T h hq⟩)
  ·refine (K.account o.b (Ay T h hW) h.J).mono ?_
   rintro r w' ⟨rfl,ha⟩
   exact ⟨rfl,(bU h hW ha).1,(bU h hW ha).2⟩
  ·obtain ⟨own',a1,a2,a3,a4⟩:=hq
   refine (Zp a2 (h.J.I.N (Yj h.J)) o.b).mono ?_
   rintro r w' ⟨rfl,hb⟩
   refine ⟨?_,fK T ⟨own',a1,a2,a3,a4⟩ hb,hb⟩
   unfold Sal.acc
   cases yU o.b<;>rfl
 ·refine (Tt e.x e.R o w hk (e.S.tick o.b).1.1 (e.S.tick o.b).1.2 e.own (fun b hb=>lt b (.inl hb)) (Bp PS w B e (e.S.tick o.b).2) (fun W=>∃ e2,entS PS W B (j+1) e2/\e.then e2 w/\Same e.fp w W) (fun W hW=>?_) (fun W hq=>?_))
  ·refine (K.tick o.b ho.2.2.1.1 ho.2.2.1.2 (Ay T h hW) h.J).mono ?_
   rintro r w' ⟨rfl,ha⟩
   exact ⟨rfl,(bU h hW ha).1,(bU h hW ha).2⟩
  ·obtain ⟨own',a1,a2,a3,a4⟩:=hq
   refine (Le a2 h.J.I h.hBR (Yj h.J) o.b ho.2.2.1.2).mono ?_
   rintro r w' ⟨rfl,b1,b2,b3,b4⟩
   have hRw:=lt e.R (.inr (.inl rfl))
   have hBR:=h.hBR
   refine ⟨rfl,⟨e.x,e.R,own',e.ap,e.lp,e.cp,e.vo,e.va,(e.S.tick o.b).2⟩,⟨T.keep a1 b4.size (fun k hk=>b4.block k (T.lt a1 k hk) (fun eq=>?_)),b1,Mu h.J o.b b2,h.hBR,⟨fun ho=>(oA T h a4 ho).1 rfl,fun k hk ho=>(oA T h a4 ho).2.1 hk,fun k hk ho=>(oA T h a4 ho).2.2 hk⟩,fun k hk=>?_,?_⟩,⟨rfl,rfl,fun k hk=>?_⟩,Same.trans a3 b4 (fun k _ eq=>eq.elim .inl (fun eq=>.inr (eq.imp id .inl)))⟩
   ·rcases eq with eq|eq
    ·exact (oA T h a4 hk).1 eq
    ·exact (oA T h a4 hk).2.1 eq
   ·rcases a4 k hk with x|x
    ·exact h.low k x
    ·show B<=k;omega
   ·show (e.S.tick o.b).2.ansL.length<=j+1
    rw [(Qm e.S o.b).2.1]
    exact Nat.le_succ_of_le h.ans
   ·rcases hk with hk|hk
    ·exact (a4 k hk).imp .inl id
    ·exact .inl (.inr hk)
 ·refine (Lw e.x e.R o w hk e.S.now e.own (fun b hb=>lt b (.inl hb)) (Bp PS w B e e.S) (fun W hW=>?_) (fun W hq=>?_)).mono (by rintro r w' ⟨rfl,hq⟩;exact ⟨rfl,Um T h hq⟩)
  ·refine (K.clock (Ay T h hW) h.J).mono ?_
   rintro r w' ⟨rfl,ha⟩
   exact ⟨rfl,(bU h hW ha).1,(bU h hW ha).2⟩
  ·obtain ⟨own',a1,a2,a3,a4⟩:=hq
   exact (jS a2.blk).2.2.2.2.2.2.2.2.1
end
end
theorem Tryz.infoPair:(Tryz.prog.info? 119).map (fun i=>(i.zero,i.size,i.bytes))=some (some (.agg #[.pointer none,.pointer none]),2,16):=by kernel_rfl
structure OpenOK (PS:World->Nat->(Nat->Prop)->Sal->Prop):Prop where
 no:∀ {w:World} {n0 n1 n2 n3 n4 n5 n6:Int} {a:Option Addr} {len cap:Nat} {ts:List (Int × Int)},tiersAt w a len cap ts->mZ [n0,n1,n2,n3,n4,n5,n6] ts=false->Ca 18 #[.agg #[iv n0,iv n1,iv n2,iv n3,iv n4,iv n5,iv n6,.slice a len cap]] w fun e w'=>e=.returned (.tuple #[.pointer none,iv 1])/\Below w.heap.size w w'
 yes:∀ {w:World} {n0 n1 n2 n3 n4 n5 n6:Int} {a:Option Addr} {len cap:Nat} {ts:List (Int × Int)},tiersAt w a len cap ts->mZ [n0,n1,n2,n3,n4,n5,n6] ts=true->Ca 18 #[.agg #[iv n0,iv n1,iv n2,iv n3,iv n4,iv n5,iv n6,.slice a len cap]] w fun e w'=>∃ x own,e=.returned (.tuple #[pt x 0,iv 0])/\PS w' x own ⟨⟨n0,n1,n2,n3,n4,n5,n6,ts⟩,0,[],[]⟩/\(∀ k,own k->w.heap.size<=k)/\Below w.heap.size w w'
theorem Hx {PS:World->Nat->(Nat->Prop)->Sal->Prop} (K:OpenOK PS) (P:Nat) (n0 n1 n2 n3 n4 n5 n6:Int) (w:World) (hc:mZ [n0,n1,n2,n3,n4,n5,n6] []=false) :
 Ca 53 #[pt P 0,.agg #[iv n0,iv n1,iv n2,iv n3,iv n4,iv n5,iv n6,.slice none 0 0]] w fun e w'=>e=.returned (.bool true)/\Below w.heap.size w w':=by
 have HT:Hid (∀ w':World,tiersAt w' none 0 0 []):=fun w'=>⟨rfl,uA _,uO,fun _=>⟨rfl,rfl⟩,fun h=>absurd rfl h⟩
 have HC:Hid (mZ [n0,n1,n2,n3,n4,n5,n6] []=false):=hc
 have HO:Hid (∀ W,Ca 18 #[.agg #[iv n0,iv n1,iv n2,iv n3,iv n4,iv n5,iv n6,.slice none 0 0]] W fun e w'=>e=.returned (.tuple #[.pointer none,iv 1])/\Below W.heap.size W w'):=fun W=>K.no (HT.out W) hc
 have HR:Hid (∀ W,Ca 37 #[.agg #[iv n0,iv n1,iv n2,iv n3,iv n4,iv n5,iv n6,.slice none 0 0]] W fun e w'=>e=.returned (iv 1)/\Below W.heap.size W w'):=fun W=>by
  have:=fS n0 n1 n2 n3 n4 n5 n6 none 0 0 [] W (HT.out W)
  rw [HC.out] at this
  exact this
 clear hc
 go_enter Tryz.func53,Tryz.ntmps53
 go_wp2_with fail
 refine (Dg n0 n1 n2 n3 n4 n5 n6 _).mono ?_
 rintro e w1 ⟨rfl,b1⟩
 have hbox:Hid (w1.heap[w.heap.size]?=some (.cells #[iv n0,iv n1,iv n2,iv n3,iv n4,iv n5,iv n6,.slice none 0 0] 24)):=(b1.block w.heap.size vS).trans (uF w _)
 have s1:w.heap.size<w1.heap.size:=by have:=b1.size;simp at this;omega
 have w01:Below w.heap.size w w1:=((uM _ _).alloc (uA _) _).trans (b1.mono vS)
 go_wp2_with fail
 refine (HO.out _).mono ?_
 rintro e w2 ⟨rfl,b2⟩
 have hbox2:Hid (w2.heap[w.heap.size]?=some (.cells #[iv n0,iv n1,iv n2,iv n3,iv n4,iv n5,iv n6,.slice none 0 0] 24)):=(b2.block w.heap.size uT).trans ((uE _ _ _ s1).trans hbox.out)
 have hl2:Hid (w2.heap[w1.heap.size]?=some (.cells #[iv n0,iv n1,iv n2,iv n3,iv n4,iv n5,iv n6,.slice none 0 0] 24)):=(b2.block w1.heap.size vS).trans (uF w1 _)
 have s2:w1.heap.size<w2.heap.size:=by have:=b2.size;simp at this;omega
 have w02:Below w.heap.size w w2:=(w01.alloc (uY s1) _).trans (b2.mono uT)
 obtain ⟨k0,k1,k2,k3,k4,k5,k6,k7,kf⟩:=kS hbox2.out
 go_wp2_with fail
 refine (HR.out _).mono ?_
 rintro e w3 ⟨rfl,b3⟩
 clear k0 k1 k2 k3 k4 k5 k6 k7 kf
 obtain ⟨k0,k1,k2,k3,k4,k5,k6,k7,kf⟩:=kS ((b3.block w.heap.size uO).trans hbox2.out)
 obtain ⟨l0,l1,l2,l3,l4,l5,l6,l7,lf⟩:=kS ((b3.block w1.heap.size s2).trans hl2.out)
 have w03:Below w.heap.size w w3:=w02.trans (b3.mono uO)
 go_wp2_with fail
 refine (Kf n0 n1 n2 n3 n4 n5 n6 n0 n1 n2 n3 n4 n5 n6 _ _).mono ?_
 rintro e w4 ⟨rfl,b4⟩
 clear k0 k1 k2 k3 k4 k5 k6 k7 kf l0 l1 l2 l3 l4 l5 l6 l7 lf
 go_wp2
 go_ret
 exact ⟨rfl,w03.trans (b4.mono (by have:=b3.size;omega))⟩
theorem Mo {PS:World->Nat->(Nat->Prop)->Sal->Prop} (K:OpenOK PS) (P:Nat) (n0 n1 n2 n3 n4 n5 n6:Int) (x:Addr) (len cap:Nat) (ts:List (Int × Int)) (w:World) (h:tiersAt w (some x) len cap ts) (hb:len * 16<=140737488351232) (hc:mZ [n0,n1,n2,n3,n4,n5,n6] ts=false) :
 Ca 53 #[pt P 0,.agg #[iv n0,iv n1,iv n2,iv n3,iv n4,iv n5,iv n6,.slice (some x) len cap]] w fun e w'=>e=.returned (.bool true)/\Below w.heap.size w w':=by
 have HT:Hid (tiersAt w (some x) len cap ts):=h
 have hxw:ts≠[]->x.block<w.heap.size:=fun hn=>by
  obtain ⟨b,off,hx,hbw,_⟩:=h.2.2.2.2 hn
  have:=Option.some.inj hx
  subst this
  exact hbw
 have HX:Hid (ts≠[]->x.block<w.heap.size):=hxw
 have hl:Hid (ts.length=len):=h.1
 have HO:Hid (∀ W a len' cap',tiersAt W a len' cap' ts->Ca 18 #[.agg #[iv n0,iv n1,iv n2,iv n3,iv n4,iv n5,iv n6,.slice a len' cap']] W fun e w'=>e=.returned (.tuple #[.pointer none,iv 1])/\Below W.heap.size W w'):=fun W a len' cap' ht=>K.no ht hc
 have HR:Hid (∀ W,tiersAt W (some x) len cap ts->Ca 37 #[.agg #[iv n0,iv n1,iv n2,iv n3,iv n4,iv n5,iv n6,.slice (some x) len cap]] W fun e w'=>e=.returned (iv 1)/\Below W.heap.size W w'):=fun W ht=>by
  have:=fS n0 n1 n2 n3 n4 n5 n6 (some x) len cap ts W ht
  rw [hc] at this
  exact this
 clear h hxw hc
 go_enter Tryz.func53,Tryz.ntmps53
 go_wp2_with fail
 refine (iW n0 n1 n2 n3 n4 n5 n6 x len cap ts _ (HT.out.below ((uM _ _).alloc (uA _) _) (uA _))).mono ?_
 rintro e w1 ⟨g,rfl,hg,hrow,b1⟩
 have hg':w.heap.size<g:=by simp at hg;omega
 have hbox:Hid (w1.heap[w.heap.size]?=some (.cells #[iv n0,iv n1,iv n2,iv n3,iv n4,iv n5,iv n6,.slice (some x) len cap] 24)):=(b1.block w.heap.size vS).trans (uF w _)
 have hg1:g<w1.heap.size:=(blt hrow)
 have s1:w.heap.size<w1.heap.size:=uO
 have w01:Below w.heap.size w w1:=((uM _ _).alloc (uA _) _).trans (b1.mono vS)
 have HROW:Hid (w1.heap[g]?=some (.cells (qV (yX ts)).toArray 107 (0,0))):=hrow
 clear hrow b1 hg
 go_wp2_with fail
 refine (HO.out _ _ _ _ (bD ((uE _ _ _ hg1).trans HROW.out) hl.out hb)).mono ?_
 rintro e w2 ⟨rfl,b2⟩
 have hbox2:Hid (w2.heap[w.heap.size]?=some (.cells #[iv n0,iv n1,iv n2,iv n3,iv n4,iv n5,iv n6,.slice (some x) len cap] 24)):=(b2.block w.heap.size uT).trans ((uE _ _ _ s1).trans hbox.out)
 have hl2:Hid (w2.heap[w1.heap.size]?=some (.cells #[iv n0,iv n1,iv n2,iv n3,iv n4,iv n5,iv n6,.slice (some (aq g 0)) len (len+8)] 24)):=(b2.block w1.heap.size vS).trans (uF w1 _)
 have HROW2:Hid (w2.heap[g]?=some (.cells (qV (yX ts)).toArray 107 (0,0))):=(b2.block g uT).trans ((uE _ _ _ hg1).trans HROW.out)
 have s2:w1.heap.size<w2.heap.size:=by have:=b2.size;simp at this;omega
 have w02:Below w.heap.size w w2:=(w01.alloc (uY s1) _).trans (b2.mono uT)
 obtain ⟨k0,k1,k2,k3,k4,k5,k6,k7,kf⟩:=kS hbox2.out
 go_wp2_with fail
 refine (HR.out _ (HT.out.below w02 (uA _))).mono ?_
 rintro e w3 ⟨rfl,b3⟩
 clear k0 k1 k2 k3 k4 k5 k6 k7 kf
 obtain ⟨k0,k1,k2,k3,k4,k5,k6,k7,kf⟩:=kS ((b3.block w.heap.size uO).trans hbox2.out)
 obtain ⟨l0,l1,l2,l3,l4,l5,l6,l7,lf⟩:=kS ((b3.block w1.heap.size s2).trans hl2.out)
 have w03:Below w.heap.size w w3:=w02.trans (b3.mono uO)
 go_wp2_with fail
 refine (aW n0 n1 n2 n3 n4 n5 n6 n0 n1 n2 n3 n4 n5 n6 x g len cap ts _ (HT.out.below w03 (uA _)) (fun hn=>by have:=HX.out hn;omega) ((b3.block g uO).trans HROW2.out)).mono ?_
 rintro e w4 ⟨rfl,g4⟩
 clear k0 k1 k2 k3 k4 k5 k6 k7 kf l0 l1 l2 l3 l4 l5 l6 l7 lf
 go_wp2
 go_ret
 exact ⟨rfl,w03.grown g4 (by have:=b3.size;omega) (fun k hk=>by simp at hk;omega)⟩
