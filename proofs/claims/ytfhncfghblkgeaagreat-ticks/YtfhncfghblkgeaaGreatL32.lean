import Derived.Test.YtfhncfghblkgeaaGreatL26
import Derived.Test.YtfhncfghblkgeaaGreatL31
set_option maxRecDepth 100000
set_option maxHeartbeats 2000000
namespace Go.Proofs.YtfhncfghblkgeaaGreat
open Go.RowKit
theorem jvv (x R:Nat) (o:OpV) (w:World) (ho:o.k=13) (b0 b1 b2 b3 b4:Int) (own:Nat->Prop) (hown:∀ b,own b->b<w.heap.size) (Q1 Q2:World->Prop)
 (H1:Hid (∀ W,Below w.heap.size w W->Calls Tryz.prog 29 #[pt x 0] W fun e w'=>e=.returned (.agg #[iv b0,iv b1,iv b2,iv b3,iv b4])/\Q1 w'/\Same own W w'))
 (HQ:Hid (∀ W W',Q1 W->Below W.heap.size W W'->Q1 W'))
 (H2:Hid (∀ W,Q1 W->Calls Tryz.prog 87 #[pt R 0] W fun e w'=>e=.returned (.agg #[iv b0,iv b1,iv b2,iv b3,iv b4])/\Q2 w'/\Below W.heap.size W w'))
 (HQ2:Hid (∀ W W',Q2 W->Below W.heap.size W W'->Q2 W')) :
 Calls Tryz.prog 51 #[.agg #[pt x 0,pt R 0],o.val] w fun r w'=>r=.returned (.bool true)/\Q2 w':=by
 obtain ⟨ok,oa,ob,oc,od,oe,os⟩:=o
 simp only at ho
 subst ho
 unfold OpV.val
 simp only
 go_enter Tryz.func51,Tryz.ntmps51
 go_wp2_with fail
 refine (H1.out _ bL).mono ?_
 rintro e w1 ⟨rfl,hq1,hs1⟩
 have hz1:w.heap.size+2<=w1.heap.size:=by have:=hs1.size;simpa using this
 have pr1:Hid (w1.heap[w.heap.size]?=some (.cells #[pt x 0,pt R 0] 127 (0,0))):=(hs1.block w.heap.size (by simp;omega) (fun e=>by have:=hown _ e;omega)).trans ((Below.heap_alloc _ _ _ (by simp)).trans (heap_alloc_new w _))
 have qr1:Hid (w1.heap[w.heap.size+1]?=some (.cells #[iv 13,iv oa,iv ob,iv oc,iv od,iv oe,.string os] 69 (0,0))):=(hs1.block (w.heap.size+1) (by simp) (fun e=>by have:=hown _ e;omega)).trans (by
  have h:=heap_alloc_new (w.alloc (.cells #[pt x 0,pt R 0] 127)) (.cells #[iv 13,iv oa,iv ob,iv oc,iv od,iv oe,.string os] 69)
  rwa [show (w.alloc (.cells #[pt x 0,pt R 0] 127)).heap.size=w.heap.size+1 by simp] at h)
 obtain ⟨u0,u1⟩:=jd1 pr1.out
 obtain ⟨v0,v1,v2,v3,v4,v5,v6⟩:=jcr qr1.out
 have hw0:w.heap.size<w1.heap.size:=by omega
 have hw1:w.heap.size+1<w1.heap.size:=by omega
 clear hs1
 go_wp2_with fail
 refine (H2.out _ (HQ.out w1 _ hq1 ((Below.refl _ _).alloc (Nat.le_refl _) _))).mono ?_
 rintro e w2 ⟨rfl,hq2,b2'⟩
 have r2:Hid (w2.heap[w1.heap.size]?=some (.cells #[iv b0,iv b1,iv b2,iv b3,iv b4] 78 (0,0))):=(b2'.block _ (by simp)).trans (heap_alloc_new w1 _)
 obtain ⟨y0,y1,y2,y3,y4⟩:=jai r2.out
 have hz2:w1.heap.size<w2.heap.size:=(blt r2.out)
 have hqf:=HQ2.out w2 _ hq2 ((Below.refl _ _).alloc (Nat.le_refl _) (.cells #[iv b0,iv b1,iv b2,iv b3,iv b4] 78))
 clear b2' hq1 hq2 u0 u1 v0 v1 v2 v3 v4 v5 v6
 go_wp2
 go_ret
 exact ⟨rfl,hqf⟩
theorem jqq (x R:Nat) (o:OpV) (w:World) (ho:o.k=14) (b0 b1 b2 b3:Int) (own:Nat->Prop) (hown:∀ b,own b->b<w.heap.size) (Q1 Q2:World->Prop)
 (H1:Hid (∀ W,Below w.heap.size w W->Calls Tryz.prog 31 #[pt x 0,iv o.b] W fun e w'=>e=.returned (.tuple #[.agg #[iv b0,iv b1,iv b2],iv b3])/\Q1 w'/\Same own W w'))
 (HQ:Hid (∀ W W',Q1 W->Below W.heap.size W W'->Q1 W'))
 (H2:Hid (∀ W,Q1 W->Calls Tryz.prog 88 #[pt R 0,iv o.b] W fun e w'=>e=.returned (.tuple #[.agg #[iv b0,iv b1,iv b2],iv b3])/\Q2 w'/\Below W.heap.size W w'))
 (HQ2:Hid (∀ W W',Q2 W->Below W.heap.size W W'->Q2 W')) :
 Calls Tryz.prog 51 #[.agg #[pt x 0,pt R 0],o.val] w fun r w'=>r=.returned (.bool true)/\Q2 w':=by
 obtain ⟨ok,oa,ob,oc,od,oe,os⟩:=o
 simp only at ho
 subst ho
 unfold OpV.val
 simp only
 go_enter Tryz.func51,Tryz.ntmps51
 go_wp2_with fail
 refine (H1.out _ bL).mono ?_
 rintro e w1 ⟨rfl,hq1,hs1⟩
 have hz1:w.heap.size+2<=w1.heap.size:=by have:=hs1.size;simpa using this
 have pr1:Hid (w1.heap[w.heap.size]?=some (.cells #[pt x 0,pt R 0] 127 (0,0))):=(hs1.block w.heap.size (by simp;omega) (fun e=>by have:=hown _ e;omega)).trans ((Below.heap_alloc _ _ _ (by simp)).trans (heap_alloc_new w _))
 have qr1:Hid (w1.heap[w.heap.size+1]?=some (.cells #[iv 14,iv oa,iv ob,iv oc,iv od,iv oe,.string os] 69 (0,0))):=(hs1.block (w.heap.size+1) (by simp) (fun e=>by have:=hown _ e;omega)).trans (by
  have h:=heap_alloc_new (w.alloc (.cells #[pt x 0,pt R 0] 127)) (.cells #[iv 14,iv oa,iv ob,iv oc,iv od,iv oe,.string os] 69)
  rwa [show (w.alloc (.cells #[pt x 0,pt R 0] 127)).heap.size=w.heap.size+1 by simp] at h)
 obtain ⟨u0,u1⟩:=jd1 pr1.out
 obtain ⟨v0,v1,v2,v3,v4,v5,v6⟩:=jcr qr1.out
 have hw0:w.heap.size<w1.heap.size:=by omega
 have hw1:w.heap.size+1<w1.heap.size:=by omega
 clear hs1
 go_wp2_with fail
 refine (H2.out _ (HQ.out w1 _ hq1 ((Below.refl _ _).alloc (Nat.le_refl _) _))).mono ?_
 rintro e w2 ⟨rfl,hq2,b2'⟩
 have r2:Hid (w2.heap[w1.heap.size]?=some (.cells #[iv b0,iv b1,iv b2] 87 (0,0))):=(b2'.block _ (by simp)).trans (heap_alloc_new w1 _)
 obtain ⟨y0,y1,y2⟩:=jf3 r2.out
 have hz2:w1.heap.size<w2.heap.size:=(blt r2.out)
 have hqf:=HQ2.out w2 _ hq2 ((Below.refl _ _).alloc (Nat.le_refl _) (.cells #[iv b0,iv b1,iv b2] 87))
 clear b2' hq1 hq2 u0 u1 v0 v1 v2 v3 v4 v5 v6
 go_wp2
 go_ret
 exact ⟨rfl,hqf⟩
theorem jz9 (x R:Nat) (o:OpV) (w:World) (ho:o.k=15) (b0 b1:Int) (own:Nat->Prop) (hown:∀ b,own b->b<w.heap.size) (Q1 Q2:World->Prop)
 (H1:Hid (∀ W,Below w.heap.size w W->Calls Tryz.prog 36 #[pt x 0,iv o.b] W fun e w'=>e=.returned (.tuple #[iv b0,iv b1])/\Q1 w'/\Same own W w'))
 (H2:Hid (∀ W,Q1 W->Calls Tryz.prog 89 #[pt R 0,iv o.b] W fun e w'=>e=.returned (.tuple #[iv b0,iv b1])/\Q2 w')) :
 Calls Tryz.prog 51 #[.agg #[pt x 0,pt R 0],o.val] w fun r w'=>r=.returned (.bool true)/\Q2 w':=by
 obtain ⟨ok,oa,ob,oc,od,oe,os⟩:=o
 simp only at ho
 subst ho
 unfold OpV.val
 simp only
 go_enter Tryz.func51,Tryz.ntmps51
 go_wp2_with fail
 refine (H1.out _ bL).mono ?_
 rintro e w1 ⟨rfl,hq1,hs1⟩
 have hz1:w.heap.size+2<=w1.heap.size:=by have:=hs1.size;simpa using this
 have pr1:Hid (w1.heap[w.heap.size]?=some (.cells #[pt x 0,pt R 0] 127 (0,0))):=(hs1.block w.heap.size (by simp;omega) (fun e=>by have:=hown _ e;omega)).trans ((Below.heap_alloc _ _ _ (by simp)).trans (heap_alloc_new w _))
 have qr1:Hid (w1.heap[w.heap.size+1]?=some (.cells #[iv 15,iv oa,iv ob,iv oc,iv od,iv oe,.string os] 69 (0,0))):=(hs1.block (w.heap.size+1) (by simp) (fun e=>by have:=hown _ e;omega)).trans (by
  have h:=heap_alloc_new (w.alloc (.cells #[pt x 0,pt R 0] 127)) (.cells #[iv 15,iv oa,iv ob,iv oc,iv od,iv oe,.string os] 69)
  rwa [show (w.alloc (.cells #[pt x 0,pt R 0] 127)).heap.size=w.heap.size+1 by simp] at h)
 obtain ⟨u0,u1⟩:=jd1 pr1.out
 obtain ⟨v0,v1,v2,v3,v4,v5,v6⟩:=jcr qr1.out
 have hw0:w.heap.size<w1.heap.size:=by omega
 have hw1:w.heap.size+1<w1.heap.size:=by omega
 clear hs1
 go_wp2_with fail
 refine (H2.out _ hq1).mono ?_
 rintro e w2 ⟨rfl,hq2⟩
 clear hq1 u0 u1 v0 v1 v2 v3 v4 v5 v6
 go_wp2
 go_ret
 exact ⟨rfl,hq2⟩
theorem jvi (x R:Nat) (o:OpV) (w:World) (ho:o.k=16) (b0:Int) (own:Nat->Prop) (hown:∀ b,own b->b<w.heap.size) (Q1:World->Prop)
 (H1:Hid (∀ W,Below w.heap.size w W->Calls Tryz.prog 19 #[pt x 0] W fun e w'=>e=.returned (iv b0)/\Q1 w'/\Same own W w'))
 (H2:Hid (∀ W,Q1 W->W.cell? (aq R 8)=some (iv b0))) :
 Calls Tryz.prog 51 #[.agg #[pt x 0,pt R 0],o.val] w fun r w'=>r=.returned (.bool true)/\Q1 w':=by
 obtain ⟨ok,oa,ob,oc,od,oe,os⟩:=o
 simp only at ho
 subst ho
 unfold OpV.val
 simp only
 go_enter Tryz.func51,Tryz.ntmps51
 go_wp2_with fail
 refine (H1.out _ bL).mono ?_
 rintro e w1 ⟨rfl,hq1,hs1⟩
 have hz1:w.heap.size+2<=w1.heap.size:=by have:=hs1.size;simpa using this
 have pr1:Hid (w1.heap[w.heap.size]?=some (.cells #[pt x 0,pt R 0] 127 (0,0))):=(hs1.block w.heap.size (by simp;omega) (fun e=>by have:=hown _ e;omega)).trans ((Below.heap_alloc _ _ _ (by simp)).trans (heap_alloc_new w _))
 have qr1:Hid (w1.heap[w.heap.size+1]?=some (.cells #[iv 16,iv oa,iv ob,iv oc,iv od,iv oe,.string os] 69 (0,0))):=(hs1.block (w.heap.size+1) (by simp) (fun e=>by have:=hown _ e;omega)).trans (by
  have h:=heap_alloc_new (w.alloc (.cells #[pt x 0,pt R 0] 127)) (.cells #[iv 16,iv oa,iv ob,iv oc,iv od,iv oe,.string os] 69)
  rwa [show (w.alloc (.cells #[pt x 0,pt R 0] 127)).heap.size=w.heap.size+1 by simp] at h)
 obtain ⟨u0,u1⟩:=jd1 pr1.out
 obtain ⟨v0,v1,v2,v3,v4,v5,v6⟩:=jcr qr1.out
 have hw0:w.heap.size<w1.heap.size:=by omega
 have hw1:w.heap.size+1<w1.heap.size:=by omega
 clear hs1
 have r8:=H2.out w1 hq1
 have hRw:R<w1.heap.size:=World.block_lt_of_cell? w1 _ r8
 go_wp2
 go_ret
 exact ⟨rfl,hq1⟩
section
def Sal.acc (S:Sal) (c:Int):Int × Int × Int × Int:=if jc3 c then ((S.account c).1,(S.account c).2.1,(S.account c).2.2,0) else (0,0,0,3)
structure BookOK (PS:World->Nat->(Nat->Prop)->Sal->Prop):Prop where
 books:∀ {w x own S},PS w x own S->salJ S->Calls Tryz.prog 29 #[pt x 0] w fun e w'=>e=.returned (.agg #[iv S.free,iv (ja4 S.os 13 0),iv (ja4 S.os 14 0),iv (ja7 S.os).length,iv S.answers])/\js6 PS w w' x own S
 account:∀ {w x own S} (c:Int),PS w x own S->salJ S->Calls Tryz.prog 31 #[pt x 0,iv c] w fun e w'=>e=.returned (.tuple #[.agg #[iv (S.acc c).1,iv (S.acc c).2.1,iv (S.acc c).2.2.1],iv (S.acc c).2.2.2])/\js6 PS w w' x own S
structure TickOK (PS:World->Nat->(Nat->Prop)->Sal->Prop):Prop where
 tick:∀ {w x own S} (n:Int),-9223372036854775808<=n->n<=9223372036854775807->PS w x own S->salJ S->Calls Tryz.prog 36 #[pt x 0,iv n] w fun e w'=>e=.returned (.tuple #[iv (S.tick n).1.1,iv (S.tick n).1.2])/\js6 PS w w' x own (S.tick n).2
 clock:∀ {w x own S},PS w x own S->salJ S->Calls Tryz.prog 19 #[pt x 0] w fun e w'=>e=.returned (iv S.now)/\js6 PS w w' x own S
theorem jfh (S:Sal) (st en:Int):(S.past st en).C=S.C/\(S.past st en).now=S.now/\(S.past st en).ansL=S.ansL:=by
 obtain ⟨a,b,c⟩:=jec (jb9 S st en S.os.length)
 obtain ⟨d,e,f⟩:=je3 S st en S.os.length
 exact ⟨a.trans d,b.trans e,c.trans f⟩
theorem jv6 (S:Sal) (t:Int):(S.round t).C=S.C/\(S.round t).ansL=S.ansL/\(S.round t).os.length=S.os.length:=by
 obtain ⟨a,_,c⟩:=jfh (({ S with now:=t }:Sal).past 13 15) 12 17
 obtain ⟨d,_,f⟩:=jfh ({ S with now:=t }:Sal) 13 15
 exact ⟨a.trans d,c.trans f,(jjc _ 12 17).trans (jjc _ 13 15)⟩
theorem jjq:∀ (n:Nat) (S:Sal) (to:Int),(jg0 n S to).C=S.C/\(jg0 n S to).ansL=S.ansL/\(jg0 n S to).os.length=S.os.length
 | 0,_,_=>⟨rfl,rfl,rfl⟩
 | n+1,S,to=>by
   unfold jg0
   split
   ·exact ⟨rfl,rfl,rfl⟩
   ·obtain ⟨a,b,c⟩:=jjq n (S.round (S.due to)) to
    obtain ⟨d,e,f⟩:=jv6 S (S.due to)
    exact ⟨a.trans d,b.trans e,c.trans f⟩
theorem js0 (S:Sal) (n:Int):(S.tick n).2.C=S.C/\(S.tick n).2.ansL=S.ansL/\(S.tick n).2.os.length=S.os.length:=by
 unfold Sal.tick
 split
 ·exact ⟨rfl,rfl,rfl⟩
 split<;>exact jjq _ _ _
theorem jzf {S:Sal} (h:salJ S) (n:Int) (hI:salI (S.tick n).2):salJ (S.tick n).2:=by
 obtain ⟨a,b,c⟩:=js0 S n
 exact ⟨hI,by rw [a];exact h.cap,by rw [a];exact h.queue,by rw [c];exact h.len,by rw [b];exact h.ats⟩
section
variable {PS:World->Nat->(Nat->Prop)->Sal->Prop} {w:World} {B j:Nat} {e:SE}
def qax (PS:World->Nat->(Nat->Prop)->Sal->Prop) (w:World) (B:Nat) (e:SE) (S2:Sal) (W:World):Prop :=
 ∃ own',PS W e.x own' S2/\saleAt W B e.R e.S e.ap e.lp e.cp e.vo e.va/\Same e.own w W/\∀ k,own' k->e.own k\/w.heap.size<=k
theorem jl1 (h:entS PS w B j e) {W w':World} {S2:Sal} (hW:Below w.heap.size w W) (ha:js6 PS W w' e.x e.own S2):qax PS w B e S2 w'/\Same e.own W w':=by
 obtain ⟨own',a1,a2,a3⟩:=ha
 have hz:=hW.size
 refine ⟨⟨own',a1,jcq (ja9 h.ref hW) a2 h.apart.1 h.apart.2.1 h.apart.2.2 (fun _ b off eq ho=>?_),Same.trans (Same.of_below (own:=fun _=>False) hW) a2 (fun k _ eq=>eq.elim False.elim id),fun k hk=>(a3 k hk).imp id (fun eq=>by omega)⟩,a2⟩
 have:=h.low b ho
 have:=h.ref.low b off eq
 omega
theorem jfq (T:SendOK PS) {S2:Sal} {W W':World} (hq:qax PS w B e S2 W) (hb:Below W.heap.size W W'):qax PS w B e S2 W':=by
 obtain ⟨own',a1,a2,a3,a4⟩:=hq
 exact ⟨own',T.keep a1 hb.size (fun k hk=>hb.block k (T.lt a1 k hk)),ja9 a2 hb,Same.trans a3 (Same.of_below (own:=fun _=>False) hb) (fun k _ eq=>eq.elim id False.elim),a4⟩
theorem jy6 (T:SendOK PS) (h:entS PS w B j e) {W:World} (hW:Below w.heap.size w W):PS W e.x e.own e.S:=T.keep h.ps hW.size (fun k hk=>hW.block k (T.lt h.ps k hk))
theorem jeh (T:SendOK PS) (h:entS PS w B j e) {own':Nat->Prop} (ho:∀ k,own' k->e.own k\/w.heap.size<=k) {k:Nat} (hk:own' k):k≠e.R/\e.vo.ownBlock≠some k/\e.va.ownBlock≠some k:=by
 rcases ho k hk with x|x
 ·exact ⟨fun eq=>h.apart.1 (eq▸x),fun eq=>h.apart.2.1 k eq x,fun eq=>h.apart.2.2 k eq x⟩
 ·refine ⟨fun eq=>?_,fun eq=>?_,fun eq=>?_⟩
  ·have:=jfb T h (k:=k) (.inr (.inl eq));omega
  ·have:=jfb T h (k:=k) (.inr (.inr (.inl eq)));omega
  ·have:=jfb T h (k:=k) (.inr (.inr (.inr eq)));omega
theorem jtd (T:SendOK PS) (h:entS PS w B j e) {W:World} (hq:qax PS w B e e.S W):∃ e2,entS PS W B (j+1) e2/\e.then e2 w/\Same e.fp w W:=by
 obtain ⟨own',a1,a2,a3,a4⟩:=hq
 have hRw:=jfb T h (k:=e.R) (.inr (.inl rfl))
 have hBR:=h.hBR
 refine ⟨⟨e.x,e.R,own',e.ap,e.lp,e.cp,e.vo,e.va,e.S⟩,⟨a1,a2,h.J,h.hBR,⟨fun ho=>(jeh T h a4 ho).1 rfl,fun k hk ho=>(jeh T h a4 ho).2.1 hk,fun k hk ho=>(jeh T h a4 ho).2.2 hk⟩,fun k hk=>?_,Nat.le_succ_of_le h.ans⟩,⟨rfl,rfl,fun k hk=>?_⟩,⟨a3.os,a3.tape,a3.output,a3.size,fun k hk hn=>a3.block k hk (fun eq=>hn (.inl eq))⟩⟩
 ·rcases a4 k hk with x|x
  ·exact h.low k x
  ·show B<=k;omega
 ·rcases hk with hk|hk
  ·exact (a4 k hk).imp .inl id
  ·exact .inl (.inr hk)
theorem qcx (T:SendOK PS) (h:entS PS w B j e) (o:OpV) (ho:qcu o) (hj:(j+1) * 64<=140737488355328) (hk:o.k=11\/o.k=12\/((o.k=13\/o.k=14)/\BookOK PS)\/((o.k=15\/o.k=16)/\TickOK PS)) :
 Calls Tryz.prog 51 #[.agg #[pt e.x 0,pt e.R 0],o.val] w fun r w'=>r=.returned (.bool true)/\∃ e2,entS PS w' B (j+1) e2/\e.then e2 w/\Same e.fp w w':=by
 have lt:=fun k hk=>jfb T h (k:=k) hk
 have entB:∀ W,Below w.heap.size w W->entS PS W B j e:=fun W hW=>⟨jy6 T h hW,ja9 h.ref hW,h.J,h.hBR,h.apart,h.low,h.ans⟩
 have hsent:∀ s:ByteArray,s.size<=140737488351232->∀ W,Below w.heap.size w W->Calls Tryz.prog 85 #[.agg #[pt e.x 0,pt e.R 0],.string s] W fun r w'=>r=.returned (.bool true)/\(∃ e2,entS PS w' B (j+1) e2/\e.then e2 w/\Same e.fp w w')/\Same e.fp W w':=fun s hs W hW=>by
  refine (qc0 T (entB W hW) s hs hj).mono ?_
  rintro r w' ⟨rfl,e2,a1,a2,a3⟩
  have hz:=hW.size
  exact ⟨rfl,⟨e2,a1,⟨a2.1,a2.2.1,fun k hk=>(a2.2.2 k hk).imp id (fun x=>by omega)⟩,Same.trans (Same.of_below (own:=fun _=>False) hW) a3 (fun k _ eq=>eq.elim False.elim id)⟩,a3⟩
 rcases hk with hk|hk|⟨hk|hk,K⟩|⟨hk|hk,K⟩
 ·exact qad e.x e.R o w hk ho _ e.fp lt hsent
 ·exact jvq e.x e.R o w hk _ (fun W hW=>(hsent o.s ho.2.2.2.2.2.2 W hW).mono (by rintro r w' ⟨rfl,a,_⟩;exact ⟨rfl,a⟩))
 ·refine (jvv e.x e.R o w hk e.S.free (ja4 e.S.os 13 0) (ja4 e.S.os 14 0) (ja7 e.S.os).length e.S.answers e.own (fun b hb=>lt b (.inl hb)) (qax PS w B e e.S) (qax PS w B e e.S) (fun W hW=>?_) (fun W W' hq hb=>jfq T hq hb) (fun W hq=>?_) (fun W W' hq hb=>jfq T hq hb)).mono (by rintro r w' ⟨rfl,hq⟩;exact ⟨rfl,jtd T h hq⟩)
  ·refine (K.books (jy6 T h hW) h.J).mono ?_
   rintro r w' ⟨rfl,ha⟩
   exact ⟨rfl,(jl1 h hW ha).1,(jl1 h hW ha).2⟩
  ·obtain ⟨own',a1,a2,a3,a4⟩:=hq
   refine (jsh a2 h.J.I (jpj h.J) h.J.ats (by have:=h.ans;omega)).mono ?_
   rintro r w' ⟨rfl,hb⟩
   exact ⟨rfl,jfq T ⟨own',a1,a2,a3,a4⟩ hb,hb⟩
 ·refine (jqq e.x e.R o w hk (e.S.acc o.b).1 (e.S.acc o.b).2.1 (e.S.acc o.b).2.2.1 (e.S.acc o.b).2.2.2 e.own (fun b hb=>lt b (.inl hb)) (qax PS w B e e.S) (qax PS w B e e.S) (fun W hW=>?_) (fun W W' hq hb=>jfq T hq hb) (fun W hq=>?_) (fun W W' hq hb=>jfq T hq hb)).mono (by rintro r w' ⟨rfl,hq⟩;exact ⟨rfl,jtd T h hq⟩)
  ·refine (K.account o.b (jy6 T h hW) h.J).mono ?_
   rintro r w' ⟨rfl,ha⟩
   exact ⟨rfl,(jl1 h hW ha).1,(jl1 h hW ha).2⟩
  ·obtain ⟨own',a1,a2,a3,a4⟩:=hq
   refine (jpx a2 (h.J.I.N (jpj h.J)) o.b).mono ?_
   rintro r w' ⟨rfl,hb⟩
   refine ⟨?_,jfq T ⟨own',a1,a2,a3,a4⟩ hb,hb⟩
   unfold Sal.acc
   cases jc3 o.b<;>rfl
 ·refine (jz9 e.x e.R o w hk (e.S.tick o.b).1.1 (e.S.tick o.b).1.2 e.own (fun b hb=>lt b (.inl hb)) (qax PS w B e (e.S.tick o.b).2) (fun W=>∃ e2,entS PS W B (j+1) e2/\e.then e2 w/\Same e.fp w W) (fun W hW=>?_) (fun W hq=>?_))
  ·refine (K.tick o.b ho.2.2.1.1 ho.2.2.1.2 (jy6 T h hW) h.J).mono ?_
   rintro r w' ⟨rfl,ha⟩
   exact ⟨rfl,(jl1 h hW ha).1,(jl1 h hW ha).2⟩
  ·obtain ⟨own',a1,a2,a3,a4⟩:=hq
   refine (jwc a2 h.J.I h.hBR (jpj h.J) o.b ho.2.2.1.2).mono ?_
   rintro r w' ⟨rfl,b1,b2,b3,b4⟩
   have hRw:=lt e.R (.inr (.inl rfl))
   have hBR:=h.hBR
   refine ⟨rfl,⟨e.x,e.R,own',e.ap,e.lp,e.cp,e.vo,e.va,(e.S.tick o.b).2⟩,⟨T.keep a1 b4.size (fun k hk=>b4.block k (T.lt a1 k hk) (fun eq=>?_)),b1,jzf h.J o.b b2,h.hBR,⟨fun ho=>(jeh T h a4 ho).1 rfl,fun k hk ho=>(jeh T h a4 ho).2.1 hk,fun k hk ho=>(jeh T h a4 ho).2.2 hk⟩,fun k hk=>?_,?_⟩,⟨rfl,rfl,fun k hk=>?_⟩,Same.trans a3 b4 (fun k _ eq=>eq.elim .inl (fun eq=>.inr (eq.imp id .inl)))⟩
   ·rcases eq with eq|eq
    ·exact (jeh T h a4 hk).1 eq
    ·exact (jeh T h a4 hk).2.1 eq
   ·rcases a4 k hk with x|x
    ·exact h.low k x
    ·show B<=k;omega
   ·show (e.S.tick o.b).2.ansL.length<=j+1
    rw [(js0 e.S o.b).2.1]
    exact Nat.le_succ_of_le h.ans
   ·rcases hk with hk|hk
    ·exact (a4 k hk).imp .inl id
    ·exact .inl (.inr hk)
 ·refine (jvi e.x e.R o w hk e.S.now e.own (fun b hb=>lt b (.inl hb)) (qax PS w B e e.S) (fun W hW=>?_) (fun W hq=>?_)).mono (by rintro r w' ⟨rfl,hq⟩;exact ⟨rfl,jtd T h hq⟩)
  ·refine (K.clock (jy6 T h hW) h.J).mono ?_
   rintro r w' ⟨rfl,ha⟩
   exact ⟨rfl,(jl1 h hW ha).1,(jl1 h hW ha).2⟩
  ·obtain ⟨own',a1,a2,a3,a4⟩:=hq
   exact (jcf a2.blk).2.2.2.2.2.2.2.2.1
end
end
theorem jyw (p:Nat) (a:Option Addr) (len cap:Nat) (o:OpV) (w:World) (hk:o.k=10) (ho:-9223372036854775808<=o.a/\o.a<=9223372036854775807) (h0:w.cell? (aq p 0)=some (.slice a len cap)) (W0:World) (hbW:Below W0.heap.size W0 w) (hc:cfgsAt W0 a len) (Q:World->Prop)
 (HB:Hid (∀ w',Below w.heap.size w w'->Q w'))
 (HOP:Hid (∀ W n0 n1 n2 n3 n4 n5 n6 a' len' cap' ts,Below w.heap.size w W->tiersAt W0 a' len' cap' ts->len' * 16<=140737488351232->Calls Tryz.prog 50 #[pt p 0,.agg #[iv n0,iv n1,iv n2,iv n3,iv n4,iv n5,iv n6,.slice a' len' cap']] W fun e w'=>e=.returned (.bool true)/\Q w')) :
 Calls Tryz.prog 24 #[pt p 0,o.val] w fun e w'=>e=.returned (.bool true)/\Q w':=by
 obtain ⟨k,oa,ob,oc,od,oe,os⟩:=o
 simp only at hk ho
 subst hk
 unfold OpV.val
 simp only
 have hpw:p<w.heap.size:=World.block_lt_of_cell? w _ h0
 by_cases hz:len=0
 ·subst hz
  go_enter Tryz.func24,Tryz.ntmps24
  go_wp2
  go_ret
  exact ⟨rfl,HB.out _ ((Below.refl _ _).alloc (Nat.le_refl _) _)⟩
 ·have hz':((len:Int)==0)=false:=by simp;omega
  obtain ⟨hl80,hcs⟩:=hc
  obtain ⟨b,off,rfl,hbw,hcfg⟩:=hcs (by omega)
  have HC:Hid (∀ i,i<len->cfgAt W0 b (off+i * 8)):=hcfg
  have hb0:=hbw
  replace hbw:b<w.heap.size:=Nat.lt_of_lt_of_le hbw hbW.size
  have HO:Hid (-9223372036854775808<=oa/\oa<=9223372036854775807):=ho
  clear hcs hcfg ho
  go_enter Tryz.func24,Tryz.ntmps24
  go_wp2
  have hr:jhp oa len<len:=jp0 oa (by omega)
  have HPK:Hid (∀ w':World,Calls Tryz.prog 48 #[iv oa,iv len] w' fun e w2=>e=.returned (iv (jhp oa len))/\w'=w2):=fun w'=>juh oa len w' HO.out (by omega) (by omega)
  generalize jhp oa len=r at hr HPK
  obtain ⟨n0,n1,n2,n3,n4,n5,n6,a',len',cap',ts,c0,c1,c2,c3,c4,c5,c6,c7,ht,hl⟩:=HC.out r hr
  have HT:Hid (tiersAt W0 a' len' cap' ts):=ht
  have hr':(r:Int)<(len:Int):=by omega
  replace c0:=(hbW.cell (p:=(aq b (off+r * 8))) hb0).trans c0
  replace c1:=(hbW.cell (p:=(aq b (off+r * 8+1))) hb0).trans c1
  replace c2:=(hbW.cell (p:=(aq b (off+r * 8+2))) hb0).trans c2
  replace c3:=(hbW.cell (p:=(aq b (off+r * 8+3))) hb0).trans c3
  replace c4:=(hbW.cell (p:=(aq b (off+r * 8+4))) hb0).trans c4
  replace c5:=(hbW.cell (p:=(aq b (off+r * 8+5))) hb0).trans c5
  replace c6:=(hbW.cell (p:=(aq b (off+r * 8+6))) hb0).trans c6
  replace c7:=(hbW.cell (p:=(aq b (off+r * 8+7))) hb0).trans c7
  clear ht hb0
  replace hbW:Hid _:=hbW
  go_region_held3 (fun w'=>w'.cell? (aq p 0)=some (.slice (some (aq b off)) len cap)/\w'.cell? (aq w.heap.size 1)=some (iv oa)/\w'.cell? (aq b (off+r * 8))=some (iv n0)/\w'.cell? (aq b (off+r * 8+1))=some (iv n1)/\w'.cell? (aq b (off+r * 8+2))=some (iv n2)/\w'.cell? (aq b (off+r * 8+3))=some (iv n3)/\w'.cell? (aq b (off+r * 8+4))=some (iv n4)/\w'.cell? (aq b (off+r * 8+5))=some (iv n5)/\w'.cell? (aq b (off+r * 8+6))=some (iv n6)/\w'.cell? (aq b (off+r * 8+7))=some (.slice a' len' cap')) (simp [go_sem,World.cell?_alloc_past, *])
   (first
     | (go_at_call 48;refine (HPK.out _).mono ?_;rintro e w' ⟨rfl,rfl⟩))
  all_goals
   clear c0 c1 c2 c3 c4 c5 c6 c7
   go_wp2_with (go_at_call 50;refine (HOP.out _ n0 n1 n2 n3 n4 n5 n6 a' len' cap' ts bL HT.out hl).mono ?_;rintro e w2 ⟨rfl,hq⟩)
   go_ret
   exact ⟨rfl,hq⟩
theorem jxm (p:Nat) (a:Option Addr) (cap:Nat) (o:OpV) (w:World) (hk:11<=o.k/\o.k<=16) (h1:w.cell? (aq p 1)=some (.slice a 0 cap)) :
 Calls Tryz.prog 24 #[pt p 0,o.val] w fun e w'=>e=.returned (.bool true)/\Below w.heap.size w w':=by
 obtain ⟨k,oa,ob,oc,od,oe,os⟩:=o
 simp only at hk
 unfold OpV.val
 simp only
 have hpw:p<w.heap.size:=World.block_lt_of_cell? w _ h1
 have q2:(k==2)=false:=by simp;omega
 have q3:(k==3)=false:=by simp;omega
 have q4:decide (4<=k)=true:=by simp;omega
 have q9:decide (k<=9)=false:=by simp;omega
 have q1:(k==1)=false:=by simp;omega
 have q10:(k==10)=false:=by simp;omega
 have q11:decide (k<11)=false:=by simp;omega
 have q16:decide (16<k)=false:=by simp;omega
 clear hk
 go_enter Tryz.func24,Tryz.ntmps24
 go_wp2
 go_ret
 exact ⟨rfl,(Below.refl _ _).alloc (Nat.le_refl _) _⟩
theorem jxq (p rt n cap x R:Nat) (o:OpV) (w:World) (hk:11<=o.k/\o.k<=16) (ho:-9223372036854775808<=o.a/\o.a<=9223372036854775807) (h1:w.cell? (aq p 1)=some (.slice (some (aq rt 0)) n cap)) (hn:0<n) (hn':n<4611686018427387904)
 (hx:w.cell? (aq rt (jhp o.a n * 2))=some (pt x 0)) (hR:w.cell? (aq rt (jhp o.a n * 2+1))=some (pt R 0)) (fp:Nat->Prop) (hfp:∀ b,fp b->b<w.heap.size) (hfp1:¬ fp p) (hfp2:¬ fp rt) (Q:World->Prop)
 (HS:Hid (∀ W,Below w.heap.size w W->Calls Tryz.prog 51 #[.agg #[pt x 0,pt R 0],o.val] W fun e w'=>e=.returned (.bool true)/\Q w'/\Same fp W w')) :
 Calls Tryz.prog 24 #[pt p 0,o.val] w fun e w'=>e=.returned (.bool true)/\Q w':=by
 obtain ⟨k,oa,ob,oc,od,oe,os⟩:=o
 simp only at hk ho hx hR
 unfold OpV.val at HS ⊢
 simp only at HS ⊢
 have hpw:p<w.heap.size:=World.block_lt_of_cell? w _ h1
 have hrw:rt<w.heap.size:=World.block_lt_of_cell? w _ hx
 have q2:(k==2)=false:=by simp;omega
 have q3:(k==3)=false:=by simp;omega
 have q4:decide (4<=k)=true:=by simp;omega
 have q9:decide (k<=9)=false:=by simp;omega
 have q1:(k==1)=false:=by simp;omega
 have q10:(k==10)=false:=by simp;omega
 have q11:decide (k<11)=false:=by simp;omega
 have q16:decide (16<k)=false:=by simp;omega
 have hlen:((n:Int)==0)=false:=by simp;omega
 have hr':jhp oa n<n:=jp0 oa hn
 have HPK:Hid (∀ w':World,Calls Tryz.prog 48 #[iv oa,iv n] w' fun e w2=>e=.returned (iv (jhp oa n))/\w'=w2):=fun w'=>juh oa n w' ho hn hn'
 generalize jhp oa n=r at hr' HPK hx hR
 have hrn:(r:Int)<(n:Int):=by omega
 clear hk ho
 go_enter Tryz.func24,Tryz.ntmps24
 go_wp2_with fail
 go_region_held3 (fun w'=>w'.cell? (aq p 1)=some (.slice (some (aq rt 0)) n cap)/\w'.cell? (aq rt (r * 2))=some (pt x 0)/\w'.cell? (aq rt (r * 2+1))=some (pt R 0)/\w'.cell? (aq w.heap.size 0)=some (iv k)/\w'.cell? (aq w.heap.size 1)=some (iv oa)/\w'.cell? (aq w.heap.size 2)=some (iv ob)/\w'.cell? (aq w.heap.size 3)=some (iv oc)/\w'.cell? (aq w.heap.size 4)=some (iv od)/\w'.cell? (aq w.heap.size 5)=some (iv oe)/\w'.cell? (aq w.heap.size 6)=some (.string os)) (simp [go_sem, *])
  (first
    | (go_at_call 48;refine (HPK.out _).mono ?_;rintro e w' ⟨rfl,rfl⟩)
    | (go_at_call 51;refine (HS.out _ bL).mono ?_;rintro e w2 ⟨rfl,hq,hs2⟩
       have d1:=(hs2.cell (b:=p) (o:=1) (by simp<;>omega) hfp1).trans (by simp [go_sem, *]:_=some (.slice (some (aq rt 0)) n cap))
       have d2:=(hs2.cell (b:=rt) (o:=r * 2) (by simp<;>omega) hfp2).trans (by simp [go_sem, *]:_=some (pt x 0))
       have d3:=(hs2.cell (b:=rt) (o:=r * 2+1) (by simp<;>omega) hfp2).trans (by simp [go_sem, *]:_=some (pt R 0))
       obtain ⟨f0,f1,f2,f3,f4,f5,f6⟩:=jcr ((hs2.block w.heap.size (by simp) (fun e=>by have:=hfp _ e;omega)).trans (heap_alloc_new w _))
       clear hs2))
 all_goals
  go_wp2
  go_ret
  exact ⟨rfl,hq⟩
end Go.Proofs.YtfhncfghblkgeaaGreat
