import Derived.Test.YtfhncfghblkgeaaGreatL44
set_option maxRecDepth 100000
set_option maxHeartbeats 2000000
namespace Go.Proofs.YtfhncfghblkgeaaGreat
open Go.RowKit
def jkc (PS:World->Nat->(Nat->Prop)->Sal->Prop) (w w':World) (P:Nat) (c0 vs c2 c3 c4:Value) (n:Nat) (E:List Value) (C:Array Value) (S0:Sal):Prop :=
 ∃ x own R vs',w'.heap[P]?=some (.cells #[c0,vs',c2,c3,c4] 67 (0,0))/\w'.ownsRow (P+1) 127 2 vs' (n+1) (E++[pt x 0,pt R 0])/\PS w' x own S0/\w'.heap[R]?=some (.cells C 164 (0,0)) ∧
  Same (fun b=>b=P\/vs.ownBlock=some b) w w'/\(∀ k,own k->w.heap.size<=k)/\w.heap.size<=R/\¬ own R/\(∀ k,vs'.ownBlock=some k->vs.ownBlock=some k\/w.heap.size<=k)/\(∀ k,vs'.ownBlock=some k->¬ own k)/\vs'.ownBlock≠some R
theorem jpl {PS:World->Nat->(Nat->Prop)->Sal->Prop} (K:SendOK PS) {w w2 w3:World} {P n:Nat} {c0 vs c2 c3 c4:Value} {E:List Value} {C:Array Value} {S0:Sal} (h:jkc PS w w2 P c0 vs c2 c3 c4 n E C S0) (hb:Below w2.heap.size w2 w3):jkc PS w w3 P c0 vs c2 c3 c4 n E C S0:=by
 obtain ⟨x,own,R,vs',h1,h2,h3,h4,h5,h6,h7,h8,h9,h10,h11⟩:=h
 exact ⟨x,own,R,vs',(hb.block P (blt h1)).trans h1,jam h2 hb (Nat.le_refl _),K.keep h3 hb.size (fun k hk=>hb.block k (K.lt h3 k hk)),(hb.block R (blt h4)).trans h4,Same.trans h5 (Same.of_below (own:=fun _=>False) hb) (fun k _ e=>e.elim id False.elim),h6,h7,h8,h9,h10,h11⟩
theorem qbp {PS:World->Nat->(Nat->Prop)->Sal->Prop} (K:SendOK PS) {w w1 w3:World} {P n x:Nat} {own:Nat->Prop} {c0 vs c2 c3 c4 v':Value} {E:List Value} {C:Array Value} {S0:Sal} {O:Obj} (hb:Below w.heap.size w w1) (hP:P<w.heap.size)
 (hP1:w1.heap[P]?=some (.cells #[c0,vs,c2,c3,c4] 67 (0,0))) (ht1:w1.ownsRow (P+1) 127 2 vs n E) (hvt:∀ k,vs.ownBlock=some k->k<w.heap.size) (hp:PS w1 x own S0) (ho:∀ k,own k->w.heap.size<=k)
 (hown3:w3.ownsRow (P+1) 127 2 v' (n+1) (E++[pt x 0,pt w1.heap.size 0])) (hg:((w1.alloc (.cells C 164)).alloc O).grownBy w3 vs.ownBlock) (hat:v'.ownBlock=vs.ownBlock\/v'.ownBlock=some (w1.heap.size+2)) :
 jkc PS w (w3.setCell (aq P 1) v') P c0 vs c2 c3 c4 n E C S0:=by
 have z1:=hb.size
 have z3:w1.heap.size+2<=w3.heap.size:=by have:=hg.size;simpa using this
 have lt1:=K.lt hp
 have k3:∀ k,k<w1.heap.size+1->vs.ownBlock≠some k->w3.heap[k]?=(w1.alloc (.cells C 164)).heap[k]?:=fun k hk hn=>(hg.block k (by simp;omega) (fun e=>hn e.symm)).trans (Below.heap_alloc _ O k (by simpa using hk))
 have k1:∀ k,k<w1.heap.size->vs.ownBlock≠some k->w3.heap[k]?=w1.heap[k]?:=fun k hk hn=>(k3 k (by omega) hn).trans (Below.heap_alloc w1 _ k hk)
 have ks:∀ k,k≠P->(w3.setCell (aq P 1) v').heap[k]?=w3.heap[k]?:=fun k hk=>Below.heap_setCell _ (aq P 1) _ _ hk
 have hvP:vs.ownBlock≠some P:=jak ht1 hP1 (by decide)
 have hP3:w3.heap[P]?=some (.cells #[c0,vs,c2,c3,c4] 67 (0,0)):=(k1 P (by omega) hvP).trans hP1
 have hR3:w3.heap[w1.heap.size]?=some (.cells C 164 (0,0)):=(k3 _ (by omega) (fun e=>by have:=hvt _ e;omega)).trans (heap_alloc_new _ _)
 have nv:∀ k,v'.ownBlock=some k->k≠P:=by
  intro k hk
  rcases hat with e|e
  ·exact fun e'=>hvP (e'▸e.symm.trans hk)
  ·rw [hk] at e;simp at e;omega
 refine ⟨x,own,w1.heap.size,v',?_,?_,?_,?_,?_,ho,z1,fun e=>by have:=lt1 _ e;omega,?_,?_,?_⟩
 ·rw [Joins.block_setCell hP3];rfl
 ·exact jac hown3 (fun k hk=>ks k (nv k hk))
 ·exact K.keep hp (by simp [World.setCell];omega) (fun k hk=>(ks k (fun e=>by have:=ho k hk;omega)).trans (k1 k (lt1 k hk) (fun e=>by have:=hvt k e;have:=ho k hk;omega)))
 ·exact (ks _ (by omega)).trans hR3
 ·refine ⟨hg.os.trans hb.os,hg.tape.trans hb.tape,hg.output.trans hb.output,by simp [World.setCell];omega,fun k hk hn=>?_⟩
  rw [ks k (fun e=>hn (.inl e)),k1 k (by omega) (fun e=>hn (.inr e))]
  exact hb.block k hk
 ·intro k hk
  rcases hat with e|e
  ·exact .inl (e.symm.trans hk)
  ·rw [hk] at e;simp at e;exact .inr (by omega)
 ·intro k hk hk'
  rcases hat with e|e
  ·have:=hvt k (e.symm.trans hk);have:=ho k hk';omega
  ·rw [hk] at e;simp at e;have:=lt1 k hk';omega
 ·intro hk
  rcases hat with e|e
  ·have:=hvt _ (e.symm.trans hk);omega
  ·rw [hk] at e;simp at e
theorem jxg {PS:World->Nat->(Nat->Prop)->Sal->Prop} (K:OpenOK PS) (KS:SendOK PS) (P n:Nat) (c0 vs c2 c3 c4:Value) (E:List Value) (n0 n1 n2 n3 n4 n5 n6:Int) (x:Addr) (len cap:Nat) (ts:List (Int × Int)) (w:World) (h:tiersAt w (some x) len cap ts) (hb:len * 16<=140737488351232) (hc:jhs [n0,n1,n2,n3,n4,n5,n6] ts=true)
 (hw:w.heap[P]?=some (.cells #[c0,vs,c2,c3,c4] 67 (0,0))) (ht:w.ownsRow (P+1) 127 2 vs n E) (hn:n * 16+16<=140737488351232) :
 Calls Tryz.prog 50 #[pt P 0,.agg #[iv n0,iv n1,iv n2,iv n3,iv n4,iv n5,iv n6,.slice (some x) len cap]] w fun e w'=>e=.returned (.bool true)/\jkc PS w w' P c0 vs c2 c3 c4 n E #[iv n0,iv n1,iv n2,iv n3,iv n4,iv n5,iv n6,.slice (some x) len cap,iv 0,.slice none 0 0,.slice none 0 0] ⟨⟨n0,n1,n2,n3,n4,n5,n6,ts⟩,0,[],[]⟩:=by
 have HT:Hid (tiersAt w (some x) len cap ts):=h
 have hxw:ts≠[]->x.block<w.heap.size:=fun hn=>by
  obtain ⟨b,off,hx,hbw,_⟩:=h.2.2.2.2 hn
  have:=Option.some.inj hx
  subst this
  exact hbw
 have HX:Hid (ts≠[]->x.block<w.heap.size):=hxw
 have hl:Hid (ts.length=len):=h.1
 have HO:Hid (∀ W a len' cap',tiersAt W a len' cap' ts->Calls Tryz.prog 26 #[.agg #[iv n0,iv n1,iv n2,iv n3,iv n4,iv n5,iv n6,.slice a len' cap']] W fun e w'=>∃ xs own,e=.returned (.tuple #[pt xs 0,iv 0])/\PS w' xs own ⟨⟨n0,n1,n2,n3,n4,n5,n6,ts⟩,0,[],[]⟩/\(∀ k,own k->W.heap.size<=k)/\Below W.heap.size W w'):=fun W a len' cap' ht=>K.yes ht hc
 have HR:Hid (∀ W,tiersAt W (some x) len cap ts->Calls Tryz.prog 57 #[.agg #[iv n0,iv n1,iv n2,iv n3,iv n4,iv n5,iv n6,.slice (some x) len cap]] W fun e w'=>e=.returned (iv 0)/\Below W.heap.size W w'):=fun W ht=>by
  have:=jkk n0 n1 n2 n3 n4 n5 n6 (some x) len cap ts W ht
  rw [hc] at this
  exact this
 obtain ⟨i0,hi,hz0,hz1,hz2⟩:=info_parts Tryz.infoPair
 have hpw:P<w.heap.size:=(blt hw)
 have HIN:Hid (w.heap[P]?=some (.cells #[c0,vs,c2,c3,c4] 67 (0,0))/\w.ownsRow (P+1) 127 2 vs n E):=⟨hw,ht⟩
 obtain ⟨va,vc,rfl⟩:=jc7 ht
 clear h hxw hc hw ht
 go_enter Tryz.func50,Tryz.ntmps50
 go_wp2_with fail
 refine (jrk n0 n1 n2 n3 n4 n5 n6 x len cap ts _ (HT.out.below ((Below.refl _ _).alloc (Nat.le_refl _) _) (Nat.le_refl _))).mono ?_
 rintro e w1 ⟨g,rfl,hg,hrow,b1⟩
 have hg':w.heap.size<g:=by simp at hg;omega
 have hbox:Hid (w1.heap[w.heap.size]?=some (.cells #[iv n0,iv n1,iv n2,iv n3,iv n4,iv n5,iv n6,.slice (some x) len cap] 29 (0,0))):=(b1.block w.heap.size (by simp)).trans (heap_alloc_new w _)
 have hg1:g<w1.heap.size:=(blt hrow)
 have s1:w.heap.size<w1.heap.size:=by omega
 have w01:Below w.heap.size w w1:=((Below.refl _ _).alloc (Nat.le_refl _) _).trans (b1.mono (by simp))
 have HROW:Hid (w1.heap[g]?=some (.cells (jas (jba ts)).toArray 137 (0,0))):=hrow
 clear hrow b1 hg
 go_wp2_with fail
 refine (HO.out _ _ _ _ (jon ((Below.heap_alloc _ _ _ hg1).trans HROW.out) hl.out hb)).mono ?_
 rintro e w2 ⟨xs,own,rfl,hps,hfo,b2⟩
 have HPS:Hid (PS w2 xs own ⟨⟨n0,n1,n2,n3,n4,n5,n6,ts⟩,0,[],[]⟩/\∀ k,own k->w1.heap.size<k):=⟨hps,fun k hk=>by have:=hfo k hk;simp at this;omega⟩
 clear hps hfo
 have hbox2:Hid (w2.heap[w.heap.size]?=some (.cells #[iv n0,iv n1,iv n2,iv n3,iv n4,iv n5,iv n6,.slice (some x) len cap] 29 (0,0))):=(b2.block w.heap.size (by simp;omega)).trans ((Below.heap_alloc _ _ _ s1).trans hbox.out)
 have hl2:Hid (w2.heap[w1.heap.size]?=some (.cells #[iv n0,iv n1,iv n2,iv n3,iv n4,iv n5,iv n6,.slice (some (aq g 0)) len (len+8)] 29 (0,0))):=(b2.block w1.heap.size (by simp)).trans (heap_alloc_new w1 _)
 have HROW2:Hid (w2.heap[g]?=some (.cells (jas (jba ts)).toArray 137 (0,0))):=(b2.block g (by simp;omega)).trans ((Below.heap_alloc _ _ _ hg1).trans HROW.out)
 have s2:w1.heap.size<w2.heap.size:=by have:=b2.size;simp at this;omega
 have w02:Below w.heap.size w w2:=(w01.alloc (Nat.le_of_lt s1) _).trans (b2.mono (by simp;omega))
 obtain ⟨k0,k1,k2,k3,k4,k5,k6,k7,kf⟩:=jfr hbox2.out
 go_wp2_with fail
 refine (HR.out _ (HT.out.below w02 (Nat.le_refl _))).mono ?_
 rintro e w3 ⟨rfl,b3⟩
 clear k0 k1 k2 k3 k4 k5 k6 k7 kf
 obtain ⟨k0,k1,k2,k3,k4,k5,k6,k7,kf⟩:=jfr ((b3.block w.heap.size (by omega)).trans hbox2.out)
 obtain ⟨l0,l1,l2,l3,l4,l5,l6,l7,lf⟩:=jfr ((b3.block w1.heap.size s2).trans hl2.out)
 have w03:Below w.heap.size w w3:=w02.trans (b3.mono (by omega))
 go_wp2_with fail
 refine (jny n0 n1 n2 n3 n4 n5 n6 n0 n1 n2 n3 n4 n5 n6 x g len cap ts _ (HT.out.below w03 (Nat.le_refl _)) (fun hn=>by have:=HX.out hn;omega) ((b3.block g (by omega)).trans HROW2.out)).mono ?_
 rintro e w4 ⟨rfl,g4⟩
 clear k0 k1 k2 k3 k4 k5 k6 k7 kf l0 l1 l2 l3 l4 l5 l6 l7 lf
 have w04:Below w.heap.size w w4:=w03.grown g4 (by have:=b3.size;omega) (fun k hk=>by simp at hk;omega)
 have hz3:=b3.size
 have hz4:=g4.size
 have HP4:Hid (PS w4 xs own ⟨⟨n0,n1,n2,n3,n4,n5,n6,ts⟩,0,[],[]⟩):=by
  have e3:=KS.keep HPS.out.1 b3.size (fun k hk=>b3.block k (KS.lt HPS.out.1 k hk))
  exact KS.keep e3 g4.size (fun k hk=>g4.block k (KS.lt e3 k hk) (fun e=>by have:=HPS.out.2 k hk;simp at e;omega))
 have hfo:Hid (∀ k,own k->w.heap.size<=k):=fun k hk=>by have:=HPS.out.2 k hk;omega
 obtain ⟨k0,k1,k2,k3,k4,k5,k6,k7,kf⟩:=jfr ((g4.block w.heap.size (by omega) (by simp;omega)).trans ((b3.block w.heap.size (by omega)).trans hbox2.out))
 have hP1:w4.heap[P]?=some (.cells #[c0,.slice va n vc,c2,c3,c4] 67 (0,0)):=(w04.block P hpw).trans HIN.out.1
 have hO1:Hid (w4.ownsRow (P+1) 127 2 (.slice va n vc) n E):=jam HIN.out.2 w04 (Nat.le_refl _)
 have hvt:Hid (∀ k,Value.ownBlock (.slice va n vc)=some k->k<w.heap.size):=fun k hk=>(World.ownsRow.lt HIN.out.2 k hk).2
 have p1:w4.cell? (aq P 1)=some (.slice va n vc):=by rw [Joins.cell_of_block hP1];rfl
 have hPw4:P<w4.heap.size:=by omega
 have hww4:w.heap.size<w4.heap.size:=by omega
 have hPw:P≠w.heap.size:=by omega
 have hvP:Value.ownBlock (.slice va n vc)≠some P:=jak hO1.out hP1 (by decide)
 have HNE:Hid (∀ w5 v' O,w5.ownsRow (P+1) 127 2 v' (n+1) (E++[pt xs 0,pt w4.heap.size 0])->((w4.alloc (.cells #[iv n0,iv n1,iv n2,iv n3,iv n4,iv n5,iv n6,.slice (some x) len cap,iv 0,.slice none 0 0,.slice none 0 0] 164)).alloc O).grownBy w5 (Value.ownBlock (.slice va n vc))->(v'.ownBlock=Value.ownBlock (.slice va n vc)\/v'.ownBlock=some (w4.heap.size+2))->jkc PS w (w5.setCell (aq P 1) v') P c0 (.slice va n vc) c2 c3 c4 n E #[iv n0,iv n1,iv n2,iv n3,iv n4,iv n5,iv n6,.slice (some x) len cap,iv 0,.slice none 0 0,.slice none 0 0] ⟨⟨n0,n1,n2,n3,n4,n5,n6,ts⟩,0,[],[]⟩) :=
  fun w5 v' O h1 h2 h3=>qbp KS w04 hpw hP1 hO1.out hvt.out HP4.out hfo.out h1 h2 h3
 have hnb:Hid (((w4.alloc (.cells #[iv n0,iv n1,iv n2,iv n3,iv n4,iv n5,iv n6,.slice (some x) len cap,iv 0,.slice none 0 0,.slice none 0 0] 164)).alloc (.cells #[pt xs 0,pt w4.heap.size 0] 127)).heap[w4.heap.size+1]?=some (.cells #[pt xs 0,pt w4.heap.size 0] 127 (0,0))):=by
  have:=heap_alloc_new (w4.alloc (.cells #[iv n0,iv n1,iv n2,iv n3,iv n4,iv n5,iv n6,.slice (some x) len cap,iv 0,.slice none 0 0,.slice none 0 0] 164)) (.cells #[pt xs 0,pt w4.heap.size 0] 127)
  rw [show (w4.alloc (.cells #[iv n0,iv n1,iv n2,iv n3,iv n4,iv n5,iv n6,.slice (some x) len cap,iv 0,.slice none 0 0,.slice none 0 0] 164)).heap.size=w4.heap.size+1 by simp] at this
  exact this
 clear hbox hbox2 hl2 HROW HROW2 HPS HIN w01 w02 w03 b2 b3 g4 HT HX hl HO HR hz3 hz4 s1 s2 hg1 hg'
 replace hP1:Hid _:=hP1
 replace hvP:Hid _:=hvP
 go_wp2_with fail
 go_region_law ((refine step_append_lies _ (by rfl) _ _ _ (by rfl) (P+1) 127 i0 (.agg #[.pointer none,.pointer none]) 2 16 Tryz.underlying62 hi hz0 hz1 hz2 rfl (by omega) (.slice va n vc) n E (by rfl) ((((show w4.ownsRow (P+1) 127 2 (.slice va n vc) n E from hO1.out).alloc _).alloc _).drew) (aq (w4.heap.size+1) 0) 1 1 [pt xs 0,pt w4.heap.size 0] (by rfl) (by rfl) (World.news_of_block (cs:=#[pt xs 0,pt w4.heap.size 0]) (t:=127) (fr:=(0,0)) hnb.out) (by simp [Value.oneCell']) (by omega) (by unfold maxLen;omega) (by omega) (by simp;omega) (w4.heap.size+2) (by simp) ?_
                 intro gg cp w5 hown3 hgrow hat hlt
                 have hP3:w5.heap[P]?=some (.cells #[c0,.slice va n vc,c2,c3,c4] 67 (0,0)):=(hgrow.block P (by simp;omega) (fun e=>hvP.out e.symm)).trans ((Below.heap_alloc (w4.alloc (.cells #[iv n0,iv n1,iv n2,iv n3,iv n4,iv n5,iv n6,.slice (some x) len cap,iv 0,.slice none 0 0,.slice none 0 0] 164)) _ P (by simp;omega)).trans ((Below.heap_alloc w4 _ P hPw4).trans hP1.out))
                 have g1:w5.cell? (aq P 1)=some (.slice va n vc):=by rw [Joins.cell_of_block hP3];rfl
                 have gf:=ja0 hP3 1
                 replace hown3:Hid _:=hown3
                 replace hgrow:Hid _:=hgrow
                 replace hat:Hid _:=hat))
 all_goals (go_wp2;go_ret)
 all_goals exact ⟨rfl,jpl KS (HNE.out w5 _ (.cells #[pt xs 0,pt w4.heap.size 0] 127) hown3.out ⟨hgrow.out.os,hgrow.out.tape,hgrow.out.output,hgrow.out.size,hgrow.out.block⟩ (hat.out.elim (fun e=>.inl (by rw [e];rfl)) (fun e=>.inr (by rw [e];rfl)))) bL⟩
theorem cfgsAt.below {w w':World} {a:Option Addr} {len B:Nat} (h:cfgsAt w a len) (hb:Below B w w') (hB:w.heap.size<=B):cfgsAt w' a len :=
 ⟨h.1,fun h0=>by
   obtain ⟨b,off,ha,hbw,hc⟩:=h.2 h0
   exact ⟨b,off,ha,Nat.lt_of_lt_of_le hbw hb.size,fun i hi=>(hc i hi).below hb hB (Nat.lt_of_lt_of_le hbw hB)⟩⟩
theorem scriptAt.below {w w':World} {a:Option Addr} {len B:Nat} {ops:List OpV} (h:scriptAt w a len ops) (hb:Below B w w') (hB:w.heap.size<=B):scriptAt w' a len ops :=
 ⟨h.1,fun h0=>by
   obtain ⟨b,off,ha,hbw,hc⟩:=h.2 h0
   exact ⟨b,off,ha,Nat.lt_of_lt_of_le hbw hb.size,fun i hi=>(hc i hi).below hb (Nat.lt_of_lt_of_le hbw hB)⟩⟩
section
def SE.cells (e:SE):List Value:=[pt e.x 0,pt e.R 0]
def jgp (Es:List SE):List Value:=Es.flatMap SE.cells
theorem ju1:∀ {Es:List SE} {i:Nat} {e:SE},Es[i]?=some e->(jgp Es)[i * 2]?=some (pt e.x 0)/\(jgp Es)[i * 2+1]?=some (pt e.R 0)
 | [],_,_,h=>by simp at h
 | e0 :: Es,0,e,h=>by
   simp at h
   subst h
   exact ⟨rfl,rfl⟩
 | e0 :: Es,i+1,e,h=>by
   have:=ju1 (Es:=Es) (i:=i) (e:=e) (by simpa using h)
   have e1:(i+1) * 2=i * 2+1+1:=by omega
   rw [e1]
   exact ⟨by simpa [jgp,SE.cells] using this.1,by simpa [jgp,SE.cells] using this.2⟩
theorem jq3:∀ {Es:List SE} {i:Nat} {e e':SE},Es[i]?=some e->e'.x=e.x->e'.R=e.R->jgp (Es.set i e')=jgp Es
 | [],_,_,_,h,_,_=>by simp at h
 | e0 :: Es,0,e,e',h,hx,hR=>by
   simp at h
   subst h
   simp [jgp,SE.cells,hx,hR]
 | e0 :: Es,i+1,e,e',h,hx,hR=>by
   have:=jq3 (Es:=Es) (i:=i) (e:=e) (e':=e') (by simpa using h) hx hR
   simp only [List.set_cons_succ,jgp,List.flatMap_cons] at this ⊢
   rw [this]
theorem jx9 (Es:List SE) (e:SE):jgp (Es++[e])=jgp Es++e.cells:=by simp [jgp]
structure SS where
 Es:List SE
 vs:Value
structure invS (PS:World->Nat->(Nat->Prop)->Sal->Prop) (W:World) (ac:Option Addr) (lc cc:Nat) (j:Nat) (σ:SS) (w:World):Prop where
 bel:Below W.heap.size W w
 world:w.heap[W.heap.size]?=some (.cells #[.slice ac lc cc,σ.vs,.slice none 0 0,.slice none 0 0,.slice none 0 0] 67 (0,0))
 ss:w.ownsRow (W.heap.size+1) 127 2 σ.vs σ.Es.length (jgp σ.Es)
 lenE:σ.Es.length<=j
 ent:∀ (a:Nat) (e:SE),σ.Es[a]?=some e->entS PS w W.heap.size j e
 sep:∀ (a a':Nat) (e e':SE),σ.Es[a]?=some e->σ.Es[a']?=some e'->a≠a'->∀ b,e.fp b->¬ e'.fp b
 far:∀ (a:Nat) (e:SE),σ.Es[a]?=some e->∀ b,e.fp b->W.heap.size<b/\σ.vs.ownBlock≠some b
def qf3 (W:World) (σ:SS) (b:Nat):Prop:=b=W.heap.size\/σ.vs.ownBlock=some b\/∃ (a:Nat) (e:SE),σ.Es[a]?=some e/\e.fp b
section
variable {PS:World->Nat->(Nat->Prop)->Sal->Prop} {W:World} {ac:Option Addr} {lc cc j:Nat} {σ:SS} {w w':World}
theorem jr8 (T:SendOK PS) {B:Nat} {e:SE} (h:entS PS w B j e) (hb:Below w.heap.size w w'):entS PS w' B j e :=
 ⟨T.keep h.ps hb.size (fun k hk=>hb.block k (T.lt h.ps k hk)),ja9 h.ref hb,h.J,h.hBR,h.apart,h.low,h.ans⟩
theorem qc2 {B:Nat} {e:SE} (h:entS PS w B j e):entS PS w B (j+1) e:=⟨h.ps,h.ref,h.J,h.hBR,h.apart,h.low,Nat.le_succ_of_le h.ans⟩
theorem jko (T:SendOK PS) (h:invS PS W ac lc cc j σ w) (hb:Below w.heap.size w w'):invS PS W ac lc cc j σ w' :=
 ⟨h.bel.trans (hb.mono h.bel.size),(hb.block _ (blt h.world)).trans h.world,jam h.ss hb (Nat.le_refl _),h.lenE,fun a e he=>jr8 T (h.ent a e he) hb,h.sep,h.far⟩
theorem jqp (h:invS PS W ac lc cc j σ w):invS PS W ac lc cc (j+1) σ w :=
 ⟨h.bel,h.world,h.ss,Nat.le_succ_of_le h.lenE,fun a e he=>qc2 (h.ent a e he),h.sep,h.far⟩
theorem qel (T:SendOK PS) (h:invS PS W ac lc cc j σ w) {b:Nat} (hb:qf3 W σ b):b<w.heap.size:=by
 rcases hb with rfl|hb|⟨a,e,he,hb⟩
 ·exact (blt h.world)
 ·exact (World.ownsRow.lt h.ss b hb).2
 ·exact jfb T (h.ent a e he) hb
theorem jw9 (W:World) (ac:Option Addr) (lc cc:Nat):invS PS W ac lc cc 0 ⟨[],.slice none 0 0⟩ (W.alloc (.cells #[.slice ac lc cc,.slice none 0 0,.slice none 0 0,.slice none 0 0,.slice none 0 0] 67)) :=
 ⟨(Below.refl _ _).alloc (Nat.le_refl _) _,heap_alloc_new W _,World.ownsRow_nil _ _ _ _,Nat.le_refl _,fun a e he=>by simp at he,fun a a' e e' he=>by simp at he,fun a e he=>by simp at he⟩
theorem jik (T:SendOK PS) (h:invS PS W ac lc cc j σ w) (hb:Below w.heap.size w w'):(∃ σ',invS PS W ac lc cc (j+1) σ' w')/\Same (qf3 W σ) w w':=⟨⟨σ,jqp (jko T h hb)⟩,Same.of_below hb⟩
theorem qal (T:SendOK PS) {i:Nat} {e e':SE} (h:invS PS W ac lc cc j σ w) (hi:σ.Es[i]?=some e) (he:entS PS w' W.heap.size (j+1) e') (ht:e.then e' w) (hs:Same e.fp w w') :
 (∃ σ',invS PS W ac lc cc (j+1) σ' w')/\Same (qf3 W σ) w w':=by
 have hP:W.heap.size<w.heap.size:=(blt h.world)
 have hil:i<σ.Es.length:=(List.getElem?_eq_some_iff.1 hi).1
 have hvs:=World.ownsRow.lt h.ss
 have hfar:=h.far i e hi
 obtain ⟨hx,hR,hf⟩:=ht
 have hset:∀ (a:Nat) (e2:SE),(σ.Es.set i e')[a]?=some e2->(a=i/\e2=e')\/(a≠i/\σ.Es[a]?=some e2):=by
  intro a e2 ha
  rw [List.getElem?_set] at ha
  by_cases hai:i=a
  ·rw [if_pos hai,if_pos hil] at ha
   exact .inl ⟨hai.symm,(Option.some.inj ha).symm⟩
  ·rw [if_neg hai] at ha
   exact .inr ⟨fun e=>hai e.symm,ha⟩
 refine ⟨⟨⟨σ.Es.set i e',σ.vs⟩,⟨?_,?_,?_,by simpa using Nat.le_succ_of_le h.lenE,?_,?_,?_⟩⟩,⟨hs.os,hs.tape,hs.output,hs.size,fun k hk hn=>hs.block k hk (fun c=>hn (.inr (.inr ⟨i,e,hi,c⟩)))⟩⟩
 ·refine ⟨hs.os.trans h.bel.os,hs.tape.trans h.bel.tape,hs.output.trans h.bel.output,Nat.le_trans h.bel.size hs.size,fun b hb=>?_⟩
  rw [hs.block b (by omega) (fun c=>by have:=(hfar b c).1;omega)]
  exact h.bel.block b hb
 ·exact (hs.block _ hP (fun c=>by have:=(hfar _ c).1;omega)).trans h.world
 ·show w'.ownsRow _ _ 2 σ.vs (σ.Es.set i e').length (jgp (σ.Es.set i e'))
  rw [jq3 hi hx hR,List.length_set]
  exact jac h.ss (fun k hk=>hs.block k (hvs k hk).2 (fun c=>(hfar k c).2 hk))
 ·intro a e2 ha
  rcases hset a e2 ha with ⟨_,rfl⟩|⟨hai,ha⟩
  ·exact he
  ·exact juc T (h.ent a e2 ha) hs (fun k hk c=>h.sep a i e2 e ha hi hai k hk c) (fun k hk=>Nat.le_of_lt (hfar k hk).1)
 ·intro a a' e2 e3 ha ha' hne b hb hb'
  rcases hset a e2 ha with ⟨ea,rfl⟩|⟨hai,h2⟩<;>rcases hset a' e3 ha' with ⟨ea',rfl⟩|⟨hai',h3⟩
  ·exact hne (ea.trans ea'.symm)
  ·rcases hf b hb with c|c
   ·exact h.sep _ _ _ _ hi h3 (fun e=>hne (ea.trans e)) b c hb'
   ·have:=jfb T (h.ent _ _ h3) hb';omega
  ·rcases hf b hb' with c|c
   ·exact h.sep _ _ _ _ h2 hi (fun e=>hne (e.trans ea'.symm)) b hb c
   ·have:=jfb T (h.ent _ _ h2) hb;omega
  ·exact h.sep _ _ _ _ h2 h3 hne b hb hb'
 ·intro a e2 ha b hb
  rcases hset a e2 ha with ⟨rfl,rfl⟩|⟨hai,ha⟩
  ·rcases hf b hb with c|c
   ·exact hfar b c
   ·exact ⟨by omega,fun c'=>by have:=(hvs b c').2;omega⟩
  ·exact h.far a e2 ha b hb
theorem jvm {n0 n1 n2 n3 n4 n5 n6:Int} {ts:List (Int × Int)} (hc:jhs [n0,n1,n2,n3,n4,n5,n6] ts=true) (hp:∀ p∈ts,0<=p.2/\p.2<=1073741824):salJ ⟨⟨n0,n1,n2,n3,n4,n5,n6,ts⟩,0,[],[]⟩:=by
 unfold jhs jc3 at hc
 simp at hc
 refine ⟨⟨fun o ho=>by simp at ho,?_,fun c _=>by simp [ja4],⟨?_,?_,?_,?_,?_,?_⟩,by simp,fun o ho=>by simp at ho,hp⟩,?_,?_,by simp,fun a ha=>by simp at ha⟩
 ·show ja4 [] 13 0+ja4 [] 14 0<=n0
  simp [ja4];omega
 all_goals (simp only;omega)
theorem qbs (T:SendOK PS) (h:invS PS W ac lc cc j σ w) {n0 n1 n2 n3 n4 n5 n6:Int} {x:Addr} {len cap:Nat} {ts:List (Int × Int)} (ht:tiersAt w (some x) len cap ts) (hlow:x.block<W.heap.size) (hJ:salJ ⟨⟨n0,n1,n2,n3,n4,n5,n6,ts⟩,0,[],[]⟩)
 (hA:jkc PS w w' W.heap.size (.slice ac lc cc) σ.vs (.slice none 0 0) (.slice none 0 0) (.slice none 0 0) σ.Es.length (jgp σ.Es) #[iv n0,iv n1,iv n2,iv n3,iv n4,iv n5,iv n6,.slice (some x) len cap,iv 0,.slice none 0 0,.slice none 0 0] ⟨⟨n0,n1,n2,n3,n4,n5,n6,ts⟩,0,[],[]⟩) :
 (∃ σ',invS PS W ac lc cc (j+1) σ' w')/\Same (qf3 W σ) w w':=by
 obtain ⟨xs,own,R,vs',h1,h2,h3,h4,h5,h6,h7,h8,h9,h10,h11⟩:=hA
 have hP:W.heap.size<w.heap.size:=(blt h.world)
 have hvs:=World.ownsRow.lt h.ss
 generalize hE:(⟨xs,R,own,some x,len,cap,.slice none 0 0,.slice none 0 0,⟨⟨n0,n1,n2,n3,n4,n5,n6,ts⟩,0,[],[]⟩⟩:SE)=E
 have hEx:E.cells=[pt xs 0,pt R 0]:=by rw [← hE];rfl
 have hnew:∀ b,E.fp b->w.heap.size<=b:=by
  rw [← hE]
  rintro b (c|c|c|c)
  ·exact h6 b c
  ·have c':b=R:=c
   omega
  ·simp [Value.ownBlock] at c
  ·simp [Value.ownBlock] at c
 have hvs':∀ b,E.fp b->vs'.ownBlock≠some b:=by
  rw [← hE]
  rintro b (c|c|c|c)
  ·exact fun c'=>h10 b c' c
  ·have c':b=R:=c
   rw [c'];exact h11
  ·simp [Value.ownBlock] at c
  ·simp [Value.ownBlock] at c
 have hent:entS PS w' W.heap.size (j+1) E:=by
  rw [← hE]
  refine ⟨h3,⟨h4,jh4 ht h5 (fun b off e=>?_),fun b off e=>?_,World.ownsRow_nil _ _ _ _,World.ownsRow_nil _ _ _ _⟩,hJ,by show W.heap.size<=R;omega,⟨h8,fun k hk=>by simp [Value.ownBlock] at hk,fun k hk=>by simp [Value.ownBlock] at hk⟩,fun k hk=>by have:=h6 k hk;omega,by simp⟩
  ·have e':x.block=b:=by have:=Option.some.inj e;rw [this]
   rintro (c|c)
   ·omega
   ·have:=(hvs b c).1;omega
  ·have e':x.block=b:=by have:=Option.some.inj e;rw [this]
   omega
 have hget:∀ (a:Nat) (e2:SE),(σ.Es++[E])[a]?=some e2->(a=σ.Es.length/\e2=E)\/(a<σ.Es.length/\σ.Es[a]?=some e2):=by
  intro a e2 ha
  by_cases hal:a<σ.Es.length
  ·rw [List.getElem?_append_left hal] at ha
   exact .inr ⟨hal,ha⟩
  ·have hl:=(List.getElem?_eq_some_iff.1 ha).1
   have:a=σ.Es.length:=by simp at hl;omega
   subst this
   simp at ha
   exact .inl ⟨rfl,ha.symm⟩
 refine ⟨⟨⟨σ.Es++[E],vs'⟩,⟨?_,h1,?_,by simp;exact h.lenE,?_,?_,?_⟩⟩,⟨h5.os,h5.tape,h5.output,h5.size,fun k hk hn=>h5.block k hk (fun c=>hn (c.imp id .inl))⟩⟩
 ·refine ⟨h5.os.trans h.bel.os,h5.tape.trans h.bel.tape,h5.output.trans h.bel.output,Nat.le_trans h.bel.size h5.size,fun b hb=>?_⟩
  rw [h5.block b (by omega) (fun c=>c.elim (fun c=>by omega) (fun c=>by have:=(hvs b c).1;omega))]
  exact h.bel.block b hb
 ·show w'.ownsRow _ _ 2 vs' (σ.Es++[E]).length (jgp (σ.Es++[E]))
  rw [jx9,List.length_append,List.length_singleton,hEx]
  exact h2
 ·intro a e2 ha
  rcases hget a e2 ha with ⟨_,rfl⟩|⟨_,ha⟩
  ·exact hent
  ·exact juc T (h.ent a e2 ha) h5 (fun k hk c=>c.elim (fun c=>by have:=(h.far a e2 ha k hk).1;omega) (h.far a e2 ha k hk).2) (fun k c=>c.elim (fun c=>Nat.le_of_eq c.symm) (fun c=>by have:=(hvs k c).1;omega))
 ·intro a a' e2 e3 ha ha' hne b hb hb'
  rcases hget a e2 ha with ⟨ea,rfl⟩|⟨_,h2'⟩<;>rcases hget a' e3 ha' with ⟨ea',rfl⟩|⟨_,h3'⟩
  ·exact hne (ea.trans ea'.symm)
  ·have:=hnew b hb;have:=jfb T (h.ent _ _ h3') hb';omega
  ·have:=hnew b hb';have:=jfb T (h.ent _ _ h2') hb;omega
  ·exact h.sep _ _ _ _ h2' h3' hne b hb hb'
 ·intro a e2 ha b hb
  rcases hget a e2 ha with ⟨_,rfl⟩|⟨_,ha⟩
  ·exact ⟨by have:=hnew b hb;omega,hvs' b hb⟩
  ·have hfa:=h.far a e2 ha b hb
   refine ⟨hfa.1,fun c=>?_⟩
   rcases h9 b c with c|c
   ·exact hfa.2 c
   ·have:=jfb T (h.ent _ _ ha) hb;omega
end
end
section
theorem qd5 {w:World} {B g n cap:Nat} {Es:List SE} (h:w.ownsRow B 127 2 (.slice (some (aq g 0)) n cap) n (jgp Es)) {i:Nat} {e:SE} (hi:Es[i]?=some e) :
 w.cell? (aq g (i * 2))=some (pt e.x 0)/\w.cell? (aq g (i * 2+1))=some (pt e.R 0):=by
 have hf:=ju1 hi
 have c0:=h.cells (g:=g) rfl _ _ hf.1
 have c1:=h.cells (g:=g) rfl _ _ hf.2
 rw [Addr.add_lit,Nat.zero_add] at c0 c1
 exact ⟨c0,c1⟩
theorem jod {ns:List Int} {ts:List (Int × Int)} (hc:jhs ns ts=true):(∀ p∈ts,0<=p.2/\p.2<=1073741824)/\ts≠[]:=by
 unfold jhs jbx at hc
 simp only [Bool.and_eq_true,decide_eq_true_eq,List.all_eq_true,List.mem_range] at hc
 obtain ⟨_,⟨h1,_⟩,h3⟩:=hc
 refine ⟨fun p hp=>?_,fun e=>by rw [e] at h1;simp at h1⟩
 obtain ⟨i,hi,rfl⟩:=List.mem_iff_getElem.1 hp
 have:=h3 i hi
 unfold jeg at this
 simp only [List.getD,List.getElem?_eq_getElem hi,Option.getD_some,Bool.and_eq_true,decide_eq_true_eq] at this
 omega
section
variable {PS:World->Nat->(Nat->Prop)->Sal->Prop} {W:World} {ac:Option Addr} {lc cc j:Nat} {σ:SS} {w:World}
theorem jv1 (T:SendOK PS) (K:OpenOK PS) (h:invS PS W ac lc cc j σ w) (hj:j * 64+64<=140737488351232) (n0 n1 n2 n3 n4 n5 n6:Int) (a:Option Addr) (len cap:Nat) (ts:List (Int × Int)) (ht:tiersAt W a len cap ts) (hb:len * 16<=140737488351232) :
 Calls Tryz.prog 50 #[pt W.heap.size 0,.agg #[iv n0,iv n1,iv n2,iv n3,iv n4,iv n5,iv n6,.slice a len cap]] w fun e w'=>e=.returned (.bool true)/\(∃ σ',invS PS W ac lc cc (j+1) σ' w')/\Same (qf3 W σ) w w':=by
 have ht':=ht.below h.bel (Nat.le_refl _)
 have hlE:=h.lenE
 cases a with
 | none =>
   obtain ⟨rfl,rfl⟩:=ht.2.2.2.1 rfl
   have hts:ts=[]:=List.length_eq_zero_iff.1 ht.1
   subst hts
   have hc:jhs [n0,n1,n2,n3,n4,n5,n6] []=false:=by
    cases hc:jhs [n0,n1,n2,n3,n4,n5,n6] [] with
    | false=>rfl
    | true=>exact absurd rfl (jod hc).2
   exact (jwa K W.heap.size n0 n1 n2 n3 n4 n5 n6 w hc).mono (by rintro e w' ⟨rfl,b⟩;exact ⟨rfl,jik T h b⟩)
 | some x =>
   cases hc:jhs [n0,n1,n2,n3,n4,n5,n6] ts with
   | false=>exact (jz0 K W.heap.size n0 n1 n2 n3 n4 n5 n6 x len cap ts w ht' hb hc).mono (by rintro e w' ⟨rfl,b⟩;exact ⟨rfl,jik T h b⟩)
   | true =>
     obtain ⟨hp,hne⟩:=jod hc
     have hlow:x.block<W.heap.size:=by
      obtain ⟨b,off,hx,hbw,_⟩:=ht.2.2.2.2 hne
      have:=Option.some.inj hx
      rw [this]
      exact hbw
     refine (jxg K T W.heap.size σ.Es.length _ σ.vs _ _ _ (jgp σ.Es) n0 n1 n2 n3 n4 n5 n6 x len cap ts w ht' hb hc h.world h.ss (by omega)).mono ?_
     rintro e w' ⟨rfl,A⟩
     exact ⟨rfl,qbs T h ht' hlow (jvm hc hp) A⟩
theorem qd4 (T:SendOK PS) (K:OpenOK PS) (h:invS PS W ac lc cc j σ w) (hcf:cfgsAt W ac lc) (o:OpV) (ho:qcu o) (hj:j * 64+64<=140737488351232) (hk:o.k=10\/o.k=11\/o.k=12\/((o.k=13\/o.k=14)/\BookOK PS)\/((o.k=15\/o.k=16)/\TickOK PS)) :
 Calls Tryz.prog 24 #[jha W,o.val] w fun e w'=>e=.returned (.bool true)/\(∃ σ',invS PS W ac lc cc (j+1) σ' w')/\Same (qf3 W σ) w w':=by
 have hP:W.heap.size<w.heap.size:=(blt h.world)
 have hlE:=h.lenE
 unfold jha
 rcases hk with hk|hk
 ·have c0:w.cell? (aq W.heap.size 0)=some (.slice ac lc cc):=by rw [Joins.cell_of_block h.world];rfl
  refine jyw W.heap.size ac lc cc o w hk ho.2.1 c0 W h.bel hcf _ (fun w' hb=>jik T h hb) (fun W2 n0 n1 n2 n3 n4 n5 n6 a' len' cap' ts hb ht hl=>?_)
  refine (jv1 T K (jko T h hb) hj n0 n1 n2 n3 n4 n5 n6 a' len' cap' ts ht hl).mono ?_
  rintro e w3 ⟨rfl,hi,hs3⟩
  exact ⟨rfl,hi,Same.trans (Same.of_below (own:=fun _=>False) hb) hs3 (fun k _ e=>e.elim False.elim id)⟩
 ·have hr:11<=o.k/\o.k<=16:=by omega
  have c1:w.cell? (aq W.heap.size 1)=some σ.vs:=by rw [Joins.cell_of_block h.world];rfl
  by_cases hne:σ.Es.length=0
  ·obtain ⟨a,c,hv⟩:=jc7 h.ss
   rw [hne] at hv
   exact (jxm W.heap.size a c o w hr (by rw [c1,hv])).mono (by rintro e w' ⟨rfl,b⟩;exact ⟨rfl,jik T h b⟩)
  ·have hpos:0<σ.Es.length:=by omega
   have hpick:=jp0 o.a hpos
   obtain ⟨rt,cap,hvt⟩:∃ rt cap,σ.vs=.slice (some (aq rt 0)) σ.Es.length cap:=by
    rcases h.ss.2 with ⟨_,h0⟩|⟨g,c,cur,hv,_⟩
    ·omega
    ·exact ⟨g,c,hv⟩
   have hi:σ.Es[jhp o.a σ.Es.length]?=some σ.Es[jhp o.a σ.Es.length]:=List.getElem?_eq_getElem hpick
   generalize σ.Es[jhp o.a σ.Es.length]=e at hi
   have he:=h.ent _ e hi
   have hss:=h.ss
   rw [hvt] at hss c1
   obtain ⟨x0,x1⟩:=qd5 hss hi
   have hfar:=h.far _ e hi
   refine jxq W.heap.size rt σ.Es.length cap e.x e.R o w hr ho.2.1 c1 hpos (by omega) x0 x1 e.fp (fun b hb=>jfb T he hb) (fun c=>by have:=(hfar _ c).1;omega) (fun c=>(hfar _ c).2 (by rw [hvt];rfl)) _ (fun W2 hb=>?_)
   refine (qcx T (jr8 T he hb) o ho (by omega) hk).mono ?_
   rintro r w3 ⟨rfl,e2,a1,a2,a3⟩
   have hz:=hb.size
   exact ⟨rfl,qal T h hi a1 ⟨a2.1,a2.2.1,fun k hk=>(a2.2.2 k hk).imp id (fun c=>by omega)⟩ (Same.trans (Same.of_below (own:=fun _=>False) hb) a3 (fun k _ e=>e.elim False.elim id)),a3⟩
end
theorem jsj {PS:World->Nat->(Nat->Prop)->Sal->Prop} (T:SendOK PS) (K:OpenOK PS) (W:World) (ac:Option Addr) (lc cc:Nat) (hcf:cfgsAt W ac lc) (a:Option Addr) (len cap:Nat) (ops:List OpV) (bp cp bh ch:Nat) (play hold:List Int) (hs:scriptAt W a len ops) (hok:∀ o∈ops,qcu o) (hlen:len * 64<=140737488351232) (hp:rowAt W bp play) (hh:rowAt W bh hold)
 (hpl:∀ k,play.any (·==k)=true->k=10\/k=11\/k=12\/((k=13\/k=14)/\BookOK PS)\/((k=15\/k=16)/\TickOK PS)) :
 Calls Tryz.prog 12 #[.slice ac lc cc,.slice a len cap,.slice (some (aq bp 0)) play.length cp,.slice (some (aq bh 0)) hold.length ch] W fun e w'=>e=.returned (.bool true)/\Below W.heap.size W w':=by
 refine qa7 (invS PS W ac lc cc) (qf3 W) W ac lc cc a len cap ops bp cp bh ch play hold hs hlen hp hh (fun j σ w' b h hb=>qel T h hb) (fun j σ w1 w2 h hb=>jko T h hb) (fun j σ w1 h=>jqp h) (fun _ _ _ h=>h.bel) ⟨_,jw9 W ac lc cc⟩ ?_ ?_
 ·intro j σ w1 o hj ho hk h
  exact qd4 T K h hcf o (hok o ho) (by omega) (hpl o.k hk)
 ·intro j σ w1 hj h
  have c3:w1.cell? (aq W.heap.size 3)=some (.slice none 0 0):=by rw [Joins.cell_of_block h.world];rfl
  have c4:w1.cell? (aq W.heap.size 4)=some (.slice none 0 0):=by rw [Joins.cell_of_block h.world];rfl
  refine (jx4 W.heap.size w1 c3 c4).mono ?_
  rintro e w2 ⟨rfl,rfl⟩
  exact ⟨rfl,h⟩
end
end Go.Proofs.YtfhncfghblkgeaaGreat
