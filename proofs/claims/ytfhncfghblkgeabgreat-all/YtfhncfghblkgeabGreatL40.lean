import Derived.Test.YtfhncfghblkgeabGreatL39
set_option maxRecDepth 100000
set_option maxHeartbeats 2000000
namespace Go.Proofs.YtfhncfghblkgeabGreat
open Go.RowKit
def aO (PS:World->Nat->(Nat->Prop)->Sal->Prop) (w w':World) (P:Nat) (c0 vs c2 c3 c4:Value) (n:Nat) (E:List Value) (C:Array Value) (S0:Sal):Prop :=
 ∃ x own R vs',w'.heap[P]?=some (.cells #[c0,vs',c2,c3,c4] 81)/\w'.ownsRow (P+1) 119 2 vs' (n+1) (E++[pt x 0,pt R 0])/\PS w' x own S0/\w'.heap[R]?=some (.cells C 170) ∧
  Same (fun b=>b=P\/vs.ownBlock=some b) w w'/\(∀ k,own k->w.heap.size<=k)/\w.heap.size<=R/\¬ own R/\(∀ k,vs'.ownBlock=some k->vs.ownBlock=some k\/w.heap.size<=k)/\(∀ k,vs'.ownBlock=some k->¬ own k)/\vs'.ownBlock≠some R
theorem wX {PS:World->Nat->(Nat->Prop)->Sal->Prop} (K:SendOK PS) {w w2 w3:World} {P n:Nat} {c0 vs c2 c3 c4:Value} {E:List Value} {C:Array Value} {S0:Sal} (h:aO PS w w2 P c0 vs c2 c3 c4 n E C S0) (hb:Below w2.heap.size w2 w3):aO PS w w3 P c0 vs c2 c3 c4 n E C S0:=by
 obtain ⟨x,own,R,vs',h1,h2,h3,h4,h5,h6,h7,h8,h9,h10,h11⟩:=h
 exact ⟨x,own,R,vs',(hb.block P (blt h1)).trans h1,qH h2 hb (uA _),K.keep h3 hb.size (fun k hk=>hb.block k (K.lt h3 k hk)),(hb.block R (blt h4)).trans h4,Same.trans h5 (Same.of_below (own:=fun _=>False) hb) (fun k _ e=>e.elim id False.elim),h6,h7,h8,h9,h10,h11⟩
theorem Cd {PS:World->Nat->(Nat->Prop)->Sal->Prop} (K:SendOK PS) {w w1 w3:World} {P n x:Nat} {own:Nat->Prop} {c0 vs c2 c3 c4 v':Value} {E:List Value} {C:Array Value} {S0:Sal} {O:Obj} (hb:Below w.heap.size w w1) (hP:P<w.heap.size)
 (hP1:w1.heap[P]?=some (.cells #[c0,vs,c2,c3,c4] 81)) (ht1:w1.ownsRow (P+1) 119 2 vs n E) (hvt:∀ k,vs.ownBlock=some k->k<w.heap.size) (hp:PS w1 x own S0) (ho:∀ k,own k->w.heap.size<=k)
 (hown3:w3.ownsRow (P+1) 119 2 v' (n+1) (E++[pt x 0,pt w1.heap.size 0])) (hg:((w1.alloc (.cells C 170)).alloc O).grownBy w3 vs.ownBlock) (hat:v'.ownBlock=vs.ownBlock\/v'.ownBlock=some (w1.heap.size+2)) :
 aO PS w (w3.sc P 1 v') P c0 vs c2 c3 c4 n E C S0:=by
 have z1:=hb.size
 have z3:w1.heap.size+2<=w3.heap.size:=by have:=hg.size;simpa using this
 have lt1:=K.lt hp
 have k3:∀ k,k<w1.heap.size+1->vs.ownBlock≠some k->w3.heap[k]?=(w1.alloc (.cells C 170)).heap[k]?:=fun k hk hn=>(hg.block k uT (fun e=>hn e.symm)).trans (uE _ O k (by simpa using hk))
 have k1:∀ k,k<w1.heap.size->vs.ownBlock≠some k->w3.heap[k]?=w1.heap[k]?:=fun k hk hn=>(k3 k uO hn).trans (uE w1 _ k hk)
 have ks:∀ k,k≠P->(w3.sc P 1 v').heap[k]?=w3.heap[k]?:=fun k hk=>uG _ (aq P 1) _ _ hk
 have hvP:vs.ownBlock≠some P:=qP ht1 hP1 vO
 have hP3:w3.heap[P]?=some (.cells #[c0,vs,c2,c3,c4] 81):=(k1 P uO hvP).trans hP1
 have hR3:w3.heap[w1.heap.size]?=some (.cells C 170):=(k3 _ uO (fun e=>by have:=hvt _ e;omega)).trans (uF _ _)
 have nv:∀ k,v'.ownBlock=some k->k≠P:=by
  intro k hk
  rcases hat with e|e
  ·exact fun e'=>hvP (e'▸e.symm.trans hk)
  ·rw [hk] at e;simp at e;omega
 refine ⟨x,own,w1.heap.size,v',?_,?_,?_,?_,?_,ho,z1,fun e=>by have:=lt1 _ e;omega,?_,?_,?_⟩
 ·rw [uH hP3];rfl
 ·exact qG hown3 (fun k hk=>ks k (nv k hk))
 ·exact K.keep hp (by simp [World.setCell];omega) (fun k hk=>(ks k (fun e=>by have:=ho k hk;omega)).trans (k1 k (lt1 k hk) (fun e=>by have:=hvt k e;have:=ho k hk;omega)))
 ·exact (ks _ uO).trans hR3
 ·refine ⟨hg.os.trans hb.os,hg.tape.trans hb.tape,hg.output.trans hb.output,by simp [World.setCell];omega,fun k hk hn=>?_⟩
  rw [ks k (fun e=>hn (.inl e)),k1 k uO (fun e=>hn (.inr e))]
  exact hb.block k hk
 ·intro k hk
  rcases hat with e|e
  ·exact .inl (e.symm.trans hk)
  ·rw [hk] at e;simp at e;exact .inr uO
 ·intro k hk hk'
  rcases hat with e|e
  ·have:=hvt k (e.symm.trans hk);have:=ho k hk';omega
  ·rw [hk] at e;simp at e;have:=lt1 k hk';omega
 ·intro hk
  rcases hat with e|e
  ·have:=hvt _ (e.symm.trans hk);omega
  ·rw [hk] at e;simp at e
theorem Gu {PS:World->Nat->(Nat->Prop)->Sal->Prop} (K:OpenOK PS) (KS:SendOK PS) (P n:Nat) (c0 vs c2 c3 c4:Value) (E:List Value) (n0 n1 n2 n3 n4 n5 n6:Int) (x:Addr) (len cap:Nat) (ts:List (Int × Int)) (w:World) (h:tiersAt w (some x) len cap ts) (hb:len * 16<=140737488351232) (hc:mZ [n0,n1,n2,n3,n4,n5,n6] ts=true)
 (hw:w.heap[P]?=some (.cells #[c0,vs,c2,c3,c4] 81)) (ht:w.ownsRow (P+1) 119 2 vs n E) (hn:n * 16+16<=140737488351232) :
 Ca 53 #[pt P 0,.agg #[iv n0,iv n1,iv n2,iv n3,iv n4,iv n5,iv n6,.slice (some x) len cap]] w fun e w'=>e=.returned (.bool true)/\aO PS w w' P c0 vs c2 c3 c4 n E #[iv n0,iv n1,iv n2,iv n3,iv n4,iv n5,iv n6,.slice (some x) len cap,iv 0,.slice none 0 0,.slice none 0 0] ⟨⟨n0,n1,n2,n3,n4,n5,n6,ts⟩,0,[],[]⟩:=by
 have HT:Hid (tiersAt w (some x) len cap ts):=h
 have hxw:ts≠[]->x.block<w.heap.size:=fun hn=>by
  obtain ⟨b,off,hx,hbw,_⟩:=h.2.2.2.2 hn
  have:=Option.some.inj hx
  subst this
  exact hbw
 have HX:Hid (ts≠[]->x.block<w.heap.size):=hxw
 have hl:Hid (ts.length=len):=h.1
 have HO:Hid (∀ W a len' cap',tiersAt W a len' cap' ts->Ca 18 #[.agg #[iv n0,iv n1,iv n2,iv n3,iv n4,iv n5,iv n6,.slice a len' cap']] W fun e w'=>∃ xs own,e=.returned (.tuple #[pt xs 0,iv 0])/\PS w' xs own ⟨⟨n0,n1,n2,n3,n4,n5,n6,ts⟩,0,[],[]⟩/\(∀ k,own k->W.heap.size<=k)/\Below W.heap.size W w'):=fun W a len' cap' ht=>K.yes ht hc
 have HR:Hid (∀ W,tiersAt W (some x) len cap ts->Ca 37 #[.agg #[iv n0,iv n1,iv n2,iv n3,iv n4,iv n5,iv n6,.slice (some x) len cap]] W fun e w'=>e=.returned (iv 0)/\Below W.heap.size W w'):=fun W ht=>by
  have:=fS n0 n1 n2 n3 n4 n5 n6 (some x) len cap ts W ht
  rw [hc] at this
  exact this
 obtain ⟨i0,hi,hz0,hz1,hz2⟩:=info_parts Tryz.infoPair
 have hpw:P<w.heap.size:=(blt hw)
 have HIN:Hid (w.heap[P]?=some (.cells #[c0,vs,c2,c3,c4] 81)/\w.ownsRow (P+1) 119 2 vs n E):=⟨hw,ht⟩
 obtain ⟨va,vc,rfl⟩:=yE ht
 clear h hxw hc hw ht
 go_enter Tryz.func53,Tryz.ntmps53
 go_wp2_with fail
 refine (iW n0 n1 n2 n3 n4 n5 n6 x len cap ts _ (HT.out.below ((uM _ _).alloc (uA _) _) (uA _))).mono ?_
 rintro e w1 ⟨g,rfl,hg,hrow,b1⟩
 have hg':w.heap.size<g:=by simp at hg;omega
 have hbox:Hid (w1.heap[w.heap.size]?=some (.cells #[iv n0,iv n1,iv n2,iv n3,iv n4,iv n5,iv n6,.slice (some x) len cap] 24)):=(b1.block w.heap.size vS).trans (uF w _)
 have hg1:g<w1.heap.size:=(blt hrow)
 have s1:w.heap.size<w1.heap.size:=uO
 have w01:Below w.heap.size w w1:=((uM _ _).alloc (uA _) _).trans (b1.mono vS)
 have HROW:Hid (w1.heap[g]?=some (.cells (qV (yX ts)).toArray 107 (0,0))):=hrow
 clear hrow b1 hg
 go_wp2_with fail
 refine (HO.out _ _ _ _ (bD ((uE _ _ _ hg1).trans HROW.out) hl.out hb)).mono ?_
 rintro e w2 ⟨xs,own,rfl,hps,hfo,b2⟩
 have HPS:Hid (PS w2 xs own ⟨⟨n0,n1,n2,n3,n4,n5,n6,ts⟩,0,[],[]⟩/\∀ k,own k->w1.heap.size<k):=⟨hps,fun k hk=>by have:=hfo k hk;simp at this;omega⟩
 clear hps hfo
 have hbox2:Hid (w2.heap[w.heap.size]?=some (.cells #[iv n0,iv n1,iv n2,iv n3,iv n4,iv n5,iv n6,.slice (some x) len cap] 24)):=(b2.block w.heap.size uT).trans ((uE _ _ _ s1).trans hbox.out)
 have hl2:Hid (w2.heap[w1.heap.size]?=some (.cells #[iv n0,iv n1,iv n2,iv n3,iv n4,iv n5,iv n6,.slice (some (aq g 0)) len (len+8)] 24)):=(b2.block w1.heap.size vS).trans (uF w1 _)
 have HROW2:Hid (w2.heap[g]?=some (.cells (qV (yX ts)).toArray 107 (0,0))):=(b2.block g uT).trans ((uE _ _ _ hg1).trans HROW.out)
 have s2:w1.heap.size<w2.heap.size:=by have:=b2.size;simp at this;omega
 have w02:Below w.heap.size w w2:=(w01.alloc (uY s1) _).trans (b2.mono uT)
 obtain ⟨k0,k1,k2,k3,k4,k5,k6,k7,kf⟩:=kS hbox2.out
 go_wp2_with fail
 refine (HR.out _ (HT.out.below w02 (uA _))).mono ?_
 rintro e w3 ⟨rfl,b3⟩
 clear k0 k1 k2 k3 k4 k5 k6 k7 kf
 obtain ⟨k0,k1,k2,k3,k4,k5,k6,k7,kf⟩:=kS ((b3.block w.heap.size uO).trans hbox2.out)
 obtain ⟨l0,l1,l2,l3,l4,l5,l6,l7,lf⟩:=kS ((b3.block w1.heap.size s2).trans hl2.out)
 have w03:Below w.heap.size w w3:=w02.trans (b3.mono uO)
 go_wp2_with fail
 refine (aW n0 n1 n2 n3 n4 n5 n6 n0 n1 n2 n3 n4 n5 n6 x g len cap ts _ (HT.out.below w03 (uA _)) (fun hn=>by have:=HX.out hn;omega) ((b3.block g uO).trans HROW2.out)).mono ?_
 rintro e w4 ⟨rfl,g4⟩
 clear k0 k1 k2 k3 k4 k5 k6 k7 kf l0 l1 l2 l3 l4 l5 l6 l7 lf
 have w04:Below w.heap.size w w4:=w03.grown g4 (by have:=b3.size;omega) (fun k hk=>by simp at hk;omega)
 have hz3:=b3.size
 have hz4:=g4.size
 have HP4:Hid (PS w4 xs own ⟨⟨n0,n1,n2,n3,n4,n5,n6,ts⟩,0,[],[]⟩):=by
  have e3:=KS.keep HPS.out.1 b3.size (fun k hk=>b3.block k (KS.lt HPS.out.1 k hk))
  exact KS.keep e3 g4.size (fun k hk=>g4.block k (KS.lt e3 k hk) (fun e=>by have:=HPS.out.2 k hk;simp at e;omega))
 have hfo:Hid (∀ k,own k->w.heap.size<=k):=fun k hk=>by have:=HPS.out.2 k hk;omega
 obtain ⟨k0,k1,k2,k3,k4,k5,k6,k7,kf⟩:=kS ((g4.block w.heap.size uO uT).trans ((b3.block w.heap.size uO).trans hbox2.out))
 have hP1:w4.heap[P]?=some (.cells #[c0,.slice va n vc,c2,c3,c4] 81):=(w04.block P hpw).trans HIN.out.1
 have hO1:Hid (w4.ownsRow (P+1) 119 2 (.slice va n vc) n E):=qH HIN.out.2 w04 (uA _)
 have hvt:Hid (∀ k,Value.ownBlock (.slice va n vc)=some k->k<w.heap.size):=fun k hk=>(uJ HIN.out.2 k hk).2
 have p1:w4.cell? (aq P 1)=some (.slice va n vc):=cB hP1
 have hPw4:P<w4.heap.size:=uO
 have hww4:w.heap.size<w4.heap.size:=uO
 have hPw:P≠w.heap.size:=uO
 have hvP:Value.ownBlock (.slice va n vc)≠some P:=qP hO1.out hP1 vO
 have HNE:Hid (∀ w5 v' O,w5.ownsRow (P+1) 119 2 v' (n+1) (E++[pt xs 0,pt w4.heap.size 0])->((w4.alloc (.cells #[iv n0,iv n1,iv n2,iv n3,iv n4,iv n5,iv n6,.slice (some x) len cap,iv 0,.slice none 0 0,.slice none 0 0] 170)).alloc O).grownBy w5 (Value.ownBlock (.slice va n vc))->(v'.ownBlock=Value.ownBlock (.slice va n vc)\/v'.ownBlock=some (w4.heap.size+2))->aO PS w (w5.sc P 1 v') P c0 (.slice va n vc) c2 c3 c4 n E #[iv n0,iv n1,iv n2,iv n3,iv n4,iv n5,iv n6,.slice (some x) len cap,iv 0,.slice none 0 0,.slice none 0 0] ⟨⟨n0,n1,n2,n3,n4,n5,n6,ts⟩,0,[],[]⟩) :=
  fun w5 v' O h1 h2 h3=>Cd KS w04 hpw hP1 hO1.out hvt.out HP4.out hfo.out h1 h2 h3
 have hnb:Hid (((w4.alloc (.cells #[iv n0,iv n1,iv n2,iv n3,iv n4,iv n5,iv n6,.slice (some x) len cap,iv 0,.slice none 0 0,.slice none 0 0] 170)).alloc (.cells #[pt xs 0,pt w4.heap.size 0] 119)).heap[w4.heap.size+1]?=some (.cells #[pt xs 0,pt w4.heap.size 0] 119)):=by
  have:=uF (w4.alloc (.cells #[iv n0,iv n1,iv n2,iv n3,iv n4,iv n5,iv n6,.slice (some x) len cap,iv 0,.slice none 0 0,.slice none 0 0] 170)) (.cells #[pt xs 0,pt w4.heap.size 0] 119)
  rw [show (w4.alloc (.cells #[iv n0,iv n1,iv n2,iv n3,iv n4,iv n5,iv n6,.slice (some x) len cap,iv 0,.slice none 0 0,.slice none 0 0] 170)).heap.size=w4.heap.size+1 by simp] at this
  exact this
 clear hbox hbox2 hl2 HROW HROW2 HPS HIN w01 w02 w03 b2 b3 g4 HT HX hl HO HR hz3 hz4 s1 s2 hg1 hg'
 replace hP1:Hid _:=hP1
 replace hvP:Hid _:=hvP
 go_wp2_with fail
 go_region_law ((refine step_append_lies _ (by rfl) _ _ _ (by rfl) (P+1) 119 i0 (.agg #[.pointer none,.pointer none]) 2 16 Tryz.underlying76 hi hz0 hz1 hz2 rfl uO (.slice va n vc) n E (by rfl) ((((show w4.ownsRow (P+1) 119 2 (.slice va n vc) n E from hO1.out).alloc _).alloc _).drew) (aq (w4.heap.size+1) 0) 1 1 [pt xs 0,pt w4.heap.size 0] (by rfl) (by rfl) (World.news_of_block (cs:=#[pt xs 0,pt w4.heap.size 0]) (t:=119) (fr:=(0,0)) hnb.out) (by simp [Value.oneCell']) uO (by unfold maxLen;omega) uO uT (w4.heap.size+2) vS ?_
                 intro gg cp w5 hown3 hgrow hat hlt
                 have hP3:w5.heap[P]?=some (.cells #[c0,.slice va n vc,c2,c3,c4] 81):=(hgrow.block P uT (fun e=>hvP.out e.symm)).trans ((uE (w4.alloc (.cells #[iv n0,iv n1,iv n2,iv n3,iv n4,iv n5,iv n6,.slice (some x) len cap,iv 0,.slice none 0 0,.slice none 0 0] 170)) _ P uT).trans ((uE w4 _ P hPw4).trans hP1.out))
                 have g1:w5.cell? (aq P 1)=some (.slice va n vc):=cB hP3
                 have gf:=qA hP3 1
                 replace hown3:Hid _:=hown3
                 replace hgrow:Hid _:=hgrow
                 replace hat:Hid _:=hat))
 all_goals (go_wp2;go_ret)
 all_goals exact ⟨rfl,wX KS (HNE.out w5 _ (.cells #[pt xs 0,pt w4.heap.size 0] 119) hown3.out ⟨hgrow.out.os,hgrow.out.tape,hgrow.out.output,hgrow.out.size,hgrow.out.block⟩ (hat.out.elim (fun e=>.inl (by rw [e];rfl)) (fun e=>.inr (by rw [e];rfl)))) bL⟩
theorem Xx (x aw:Nat) (now er:Int) (D:List (Int × Int)) (w:World) (own:Nat->Prop) (P0:World->(Nat->Prop)->Prop) (Q:Nat->World->(Nat->Prop)->Prop) (K0:Keeps P0) (KQ:∀ j,Keeps (Q j)) (h:P0 w own) (hn:D.length<=4294967296)
 (HX:Hid (∀ loc W,qX P0 w own loc W->x<W.heap.size/\W.cell? (aq x 23)=some (pt aw 0)))
 (HA:Hid (∀ loc W,qX P0 w own loc W->Ca 101 #[pt aw 0,iv now] W fun e w'=>∃ da dc,e=.returned (.tuple #[.slice da D.length dc,iv er])/\qX (kM (Q 0) da D) w own loc w'))
 (HR:Hid (∀ da j,j<D.length->jX w own (kM (Q j) da D) (kM (Q (j+1)) da D) 105 #[pt x 23,iv (D.getD j (0,0)).2] (.tuple #[]))) :
 Ca 73 #[pt x 23,iv now] w fun e w'=>e=.returned (.tuple #[])/\zQ (Q D.length) w w' own:=by
 have hT0:Hid (qX P0 w own (fun _=>False) w):=yH K0 h (uM _ _) (fun _ e=>e.elim)
 obtain ⟨hx,c23⟩:=HX.out _ _ hT0.out
 clear h HX
 go_enter Tryz.func73,Tryz.ntmps73
 go_wp2_with (go_at_call 101;refine (HA.out _ _ (qI K0 hT0.out bL)).mono ?_;rintro e W1 ⟨da,dc,rfl,hT1⟩
              replace hT1:Hid (qX (kM (Q 0) da D) w own (fun _=>False) W1):=hT1
              clear c23 hx)
 clear hT0 HA
 go_loopw [6] (fun i wr=>∃ j:Nat,j<=D.length/\i=iv j/\Hid (qX (kM (Q j) da D) w own (fun _=>False) wr)) (fun i _=>D.length - (intOf i).toNat)
 case atStart=>exact ⟨0,Nat.zero_le _,rfl,hT1⟩
 case round =>
  obtain ⟨j,hj,rfl,HK⟩:=hrel
  clear hT1
  by_cases hlt:j<D.length
  ·obtain ⟨g,rfl,hb,c0,c1⟩:=ZN HK.out j hlt
   have HRj:Hid _:=HR.out (some (aq g 0)) j hlt
   have KJ:=Yr (KQ j) (some (aq g 0)) D
   have KJ1:=Yr (KQ (j+1)) (some (aq g 0)) D
   have HNX:Hid (∀ wr',qX (kM (Q (j+1)) (some (aq g 0)) D) w own (fun _=>False) wr'->∃ j':Nat,j'<=D.length/\Value.int .i64 ((j:Int)+1)=iv j'/\Hid (qX (kM (Q j') (some (aq g 0)) D) w own (fun _=>False) wr')):=fun wr' h=>⟨j+1,uO,by simp,h⟩
   have b0:(0:Int)<=(j:Int):=uO
   have b1:(j:Int)<(D.length:Int):=uO
   have hwj:IntKind.i64.wrap ((j:Int)+1)=(j:Int)+1:=yA uO uO
   generalize D.getD j (0,0)=dj at c0 c1 HRj
   obtain ⟨dt,di⟩:=dj
   simp only at c0 c1 HRj
   clear HR
   go_wp2_with (go_at_call 105;refine (HRj.out _ _ (qI KJ HK.out bL)).mono ?_;rintro e W4 ⟨rfl,hT4,hk⟩
                replace hT4:Hid _:=hT4
                clear hk c0 c1 hb)
   go_roundw
   case rel=>first|exact HNX.out _ (qI KJ1 hT4.out bL)|(rw [hwj];exact HNX.out _ (qI KJ1 hT4.out bL))
   case measure=>simp [intOf];omega
  ·have hje:j=D.length:=uO
   subst hje
   go_wp2_with fail
   first|go_end0|refine uK (uR rfl _ _ _) rfl ?_
   exact ⟨rfl,wL (qI (Yr (KQ _) da D) HK.out bL)⟩
theorem Ly (x tw:Nat) (now er:Int) (D:List (Int × Int)) (w:World) (own:Nat->Prop) (P0 P1 P2 P3 P4 P5 P6:World->(Nat->Prop)->Prop) (K0:Keeps P0) (K1:Keeps P1) (K2:Keeps P2) (K3:Keeps P3) (K4:Keeps P4) (K5:Keeps P5) (K6:Keeps P6) (h:P0 w own)
 (HX:Hid (∀ loc W,qX P0 w own loc W->x<W.heap.size/\W.cell? (aq x 10)=some (pt tw 0)/\W.cell? (aq x 8)=some (iv now)))
 (HX1:Hid (∀ da loc W,qX (kM P1 da D) w own loc W->x<W.heap.size/\W.cell? (aq x 10)=some (pt tw 0)/\W.cell? (aq x 8)=some (iv now)))
 (HA:Hid (∀ loc W,qX P0 w own loc W->Ca 101 #[pt tw 0,iv now] W fun e w'=>∃ da dc,e=.returned (.tuple #[.slice da D.length dc,iv er])/\qX (kM P1 da D) w own loc w'))
 (HF:Hid (∀ da dc,jX w own (kM P1 da D) (kM P2 da D) 102 #[pt x 0,.slice da D.length dc] (.tuple #[])))
 (HE:Hid (∀ da dc,jX w own (kM P2 da D) (kM P3 da D) 103 #[pt x 0,.slice da D.length dc,iv 13,iv 15] (.tuple #[])))
 (HP:Hid (∀ da,jX w own (kM P3 da D) (kM P4 da D) 104 #[pt x 0] (.tuple #[])))
 (HE2:Hid (∀ da dc,jX w own (kM P4 da D) (kM P5 da D) 103 #[pt x 0,.slice da D.length dc,iv 12,iv 17] (.tuple #[])))
 (HP2:Hid (∀ da,jX w own (kM P5 da D) (kM P6 da D) 104 #[pt x 0] (.tuple #[]))) :
 Ca 72 #[pt x 0] w fun e w'=>e=.returned (.tuple #[])/\zQ P6 w w' own:=by
 have hT0:Hid (qX P0 w own (fun _=>False) w):=yH K0 h (uM _ _) (fun _ e=>e.elim)
 obtain ⟨hx,c10,c8⟩:=HX.out _ _ hT0.out
 clear h HX
 go_enter Tryz.func72,Tryz.ntmps72
 go_wp2_with fail
 go_region_held3 (fun w'=>w'.cell? (aq x 10)=some (pt tw 0)/\w'.cell? (aq x 8)=some (iv now)) (simp [go_sem, *])
  (first
    | (go_at_call 101;refine (HA.out _ _ (qI K0 hT0.out bL)).mono ?_;rintro e W1 ⟨da,dc,rfl,hT1⟩
       obtain ⟨hx1,d10,d8⟩:=HX1.out _ _ _ hT1
       replace hT1:Hid (qX (kM P1 da D) w own (fun _=>False) W1):=hT1))
 clear c10 c8 d10 d8 hT0 HA HX1
 go_wp2_with (first
  | (go_at_call 102;refine (HF.out _ _ _ _ (qI (Yr K1 _ _) hT1.out bL)).mono ?_;rintro e W2 ⟨rfl,hT2,hk⟩
     replace hT2:Hid _:=hT2
     clear hk hT1)
  | (go_at_call 103;refine (HE.out _ _ _ _ (qI (Yr K2 _ _) hT2.out bL)).mono ?_;rintro e W3 ⟨rfl,hT3,hk⟩
     replace hT3:Hid _:=hT3
     clear hk hT2)
  | (go_at_call 104;refine (HP.out _ _ _ (qI (Yr K3 _ _) hT3.out bL)).mono ?_;rintro e W4 ⟨rfl,hT4,hk⟩
     replace hT4:Hid _:=hT4
     clear hk hT3)
  | (go_at_call 103;refine (HE2.out _ _ _ _ (qI (Yr K4 _ _) hT4.out bL)).mono ?_;rintro e W5 ⟨rfl,hT5,hk⟩
     replace hT5:Hid _:=hT5
     clear hk hT4)
  | (go_at_call 104;refine (HP2.out _ _ _ (qI (Yr K5 _ _) hT5.out bL)).mono ?_;rintro e W6 ⟨rfl,hT6,hk⟩
     replace hT6:Hid _:=hT6
     clear hk hT5))
 first|go_end0|refine uK (uR rfl _ _ _) rfl ?_
 exact ⟨rfl,wL (qI (Yr K6 _ _) hT6.out bL)⟩
def pO {σ:Type} (P PE:σ->World->(Nat->Prop)->Prop) (Inv:σ->Prop) (fs:σ->Int × Int) (fb:σ->Bool) (μ:σ->Nat) (s:σ) (w1:World) (own:Nat->Prop) (v:Value) (wr:World) (n:Nat):Prop :=
 ∃ s',Inv s'/\μ s'=n/\PE s'=PE s/\zF (P s') w1 own 1 wr/\v=.bool (fb s')/\wr.heap[w1.heap.size]?=some (.cells #[iv (fs s').1,iv (fs s').2] 123)
theorem aB {P P':World->(Nat->Prop)->Prop} {w W W':World} {own:Nat->Prop} {m:Nat} (h:zF P w own m W) (hx:∀ o,P W o->zQ P' W W' o):zF P' w own m W':=by
 obtain ⟨o1,a1,a2,a3,a4⟩:=h
 obtain ⟨o2,b1,b2,b3⟩:=hx o1 a1
 have z1:=a2.size
 have z2:=b2.size
 exact ⟨o2,b1,Same.trans a2 b2 (fun k hk e=>e.elim id (fun e=>(a3 k e).elim id (fun e=>uO))),fun k e=>(b3 k e).elim (a3 k) (fun e=>.inr uO),uO⟩
theorem Ba {σ:Type} (x:Nat) (to:Int) (P PE:σ->World->(Nat->Prop)->Prop) (PC:σ->Int->World->(Nat->Prop)->Prop) (KP:∀ s,Keeps (P s)) (KC:∀ s t,Keeps (PC s t)) (KE:∀ s,Keeps (PE s)) (Inv:σ->Prop) (fs:σ->Int × Int) (fb:σ->Bool) (nx:σ->σ) (μ:σ->Nat) (cd:σ->Prop) (hcd:Hid (∀ s,cd s↔(fs s).1<=to))
 (lo:σ->Int) (hLo:Hid (∀ s,Inv s->lo s<=to/\(fb s=true->lo s<=(fs s).1)))
 (hX:Hid (∀ s,Inv s->∀ W o,P s W o->o x/\∀ t,lo s<=t->zQ (PC s t) W (W.sc x 8 (iv t)) o))
 (hY:Hid (∀ s,Inv s->∀ W o,P s W o->x<W.heap.size/\(∃ u,W.cell? (aq x 8)=some u)/\W.frozen? (aq x 8)=false))
 (hF:Hid (∀ s,Inv s->∀ W o,P s W o->∃ tw,W.cell? (aq x 10)=some (pt tw 0)/\∀ W',Below W.heap.size W W'->Ca 71 #[pt tw 0] W' fun e w'=>e=.returned (.tuple #[.agg #[iv (fs s).1,iv (fs s).2],.bool (fb s)])/\Below W'.heap.size W' w'))
 (hS:Hid (∀ s,Inv s->fb s=true->cd s->∀ W o,PC s (fs s).1 W o->Ca 72 #[pt x 0] W fun e w'=>e=.returned (.tuple #[])/\zQ (P (nx s)) W w' o))
 (hN:Hid (∀ s,Inv s->fb s=true->cd s->Inv (nx s)/\μ (nx s)<μ s/\PE (nx s)=PE s))
 (hE:Hid (∀ s,Inv s->(fb s=true->¬ cd s)->∀ W o,PC s to W o->Ca 73 #[pt x 23,iv to] W fun e w'=>e=.returned (.tuple #[])/\zQ (PE s) W w' o)) (s:σ) (w:World) (own:Nat->Prop) (hi:Inv s) (h:P s w own) :
 Ca 47 #[pt x 0,iv to] w fun e w'=>e=.returned (.tuple #[])/\zQ (PE s) w w' own:=by
 have hw:=(KP s).lt h
 obtain ⟨tw,c10,HF0⟩:=hF.out s hi w own h
 obtain ⟨hxw,_,_⟩:=hY.out s hi w own h
 replace HF0:Hid _:=HF0
 go_enter Tryz.func47,Tryz.ntmps47
 go_wp2_with fail
 refine (HF0.out _ bL).mono ?_
 rintro e w1 ⟨rfl,b1⟩
 replace b1:Below w.heap.size w w1:=b1
 have h1:P s w1 own:=(KP s).keep h b1.size (fun k e=>b1.block k (hw k e))
 have hw1:Hid (∀ k,own k->k<w1.heap.size):=fun k e=>uB (hw k e) b1.size
 have HFRONT:Hid (∀ w',zQ (PE s) w1 w' own->zQ (PE s) w w' own):=fun w' ha=>aC b1 ha
 have HI0:Hid (pO P PE Inv fs fb μ s w1 own (.bool (fb s)) (w1.alloc (.cells #[iv (fs s).1,iv (fs s).2] 123)) (μ s)):=⟨s,hi,rfl,rfl,fR (KP s) h1 ((uM _ _).alloc (uA _) _) vS,rfl,uF w1 _⟩
 clear h h1 hi hw b1 c10 HF0 hxw
 generalize (fs s).1=p1 at HI0 ⊢
 generalize (fs s).2=p2 at HI0 ⊢
 generalize fb s=b0 at HI0 ⊢
 go_wp2_with fail
 go_loopw [5] (fun v wr=>∃ n,pO P PE Inv fs fb μ s w1 own v wr n) (fun v wr=>fuel (pO P PE Inv fs fb μ s w1 own v wr))
 case atStart=>exact ⟨_,HI0.out⟩
 case round =>
  have hfu:=Ua hrel
  obtain ⟨s',i1,i2,i3,hT,rfl,ob⟩:=hfu
  replace hT:Hid _:=hT
  replace i1:Hid _:=i1
  replace ob:Hid _:=ob
  have HM:Hid (∀ v' w' m,pO P PE Inv fs fb μ s w1 own v' w' m->m<μ s'->(∃ n,pO P PE Inv fs fb μ s w1 own v' w' n)/\fuel (pO P PE Inv fs fb μ s w1 own v' w')<fuel (pO P PE Inv fs fb μ s w1 own (.bool (fb s')) wr)):=fun v' w' m h1 h2=>⟨⟨m,h1⟩,by rw [← i2];exact vA (Kq h1) h2⟩
  clear hrel i2 HI0
  obtain ⟨hlo1,hlo2⟩:=hLo.out s' i1.out
  have HXs:Hid (∀ W o,P s' W o->o x/\∀ t,lo s'<=t->zQ (PC s' t) W (W.sc x 8 (iv t)) o):=hX.out s' i1.out
  have hy:x<wr.heap.size/\(∃ u,wr.cell? (aq x 8)=some u)/\wr.frozen? (aq x 8)=false:=by
   obtain ⟨o1,a1,_⟩:=hT.out
   exact hY.out s' i1.out wr o1 a1
  have hne:x≠w1.heap.size:=by
   obtain ⟨o1,a1,a2,a3,a4⟩:=hT.out
   rcases a3 x (HXs.out wr o1 a1).1 with e|e
   ·have:=hw1.out x e;omega
   ·omega
  obtain ⟨hxr,⟨u8,c8⟩,fz8⟩:=hy
  obtain ⟨s0,s1⟩:=kP ob.out
  have lw:w1.heap.size<wr.heap.size:=(blt ob.out)
  have HEs:Hid ((fb s'=true->¬ cd s')->∀ W,zF (PC s' to) w1 own 1 W->Ca 73 #[pt x 23,iv to] W fun e w'=>e=.returned (.tuple #[])/\zF (PE s) w1 own 1 w'/\∀ b,w1.heap.size<=b->b<w1.heap.size+1->w'.heap[b]?=W.heap[b]?):=fun hc W hW=>by
   rw [← i3]
   exact oF hw1.out (hE.out s' i1.out hc) W hW
  cases hb:fb s' with
  | false =>
    have HEs:Hid _:=HEs.out (fun c=>by rw [hb] at c;cases c)
    replace hlo1:Hid _:=hlo1
    clear HM hN hE hF hS hX hY ob s0 s1 hlo2 hLo
    go_wp2_with fail
    try go_quiet (fail)
    go_wp2_with fail
    have hC:=aB hT.out (fun o hp=>(HXs.out wr o hp).2 to hlo1.out)
    have hTc:Hid (zF (PC s' to) w1 own 1 (wr.sc x 8 (iv to))):=hC
    refine (HEs.out _ (yP (KC s' to) hTc.out bL)).mono ?_
    rintro e W1 ⟨rfl,hT1,hk⟩
    go_wp2
    first|go_end0|refine uK (uR rfl _ _ _) rfl ?_
    exact ⟨rfl,HFRONT.out _ (gD (yP (KE s) hT1 bL))⟩
  | true =>
    rw [hb] at HM
    by_cases hle:cd s'
    ·have HSs:Hid (∀ W,zF (PC s' (fs s').1) w1 own 1 W->Ca 72 #[pt x 0] W fun e w'=>e=.returned (.tuple #[])/\zF (P (nx s')) w1 own 1 w'/\∀ b,w1.heap.size<=b->b<w1.heap.size+1->w'.heap[b]?=W.heap[b]?):=fun W hW=>oF hw1.out (hS.out s' i1.out hb hle) W hW
     obtain ⟨n1,n2,n3⟩:=hN.out s' i1.out hb hle
     have HFs:Hid (∀ W,zF (P (nx s')) w1 own 1 W->∃ tw,(x<W.heap.size/\W.cell? (aq x 10)=some (pt tw 0))/\∀ W',Below W.heap.size W W'->Ca 71 #[pt tw 0] W' fun e w'=>e=.returned (.tuple #[.agg #[iv (fs (nx s')).1,iv (fs (nx s')).2],.bool (fb (nx s'))])/\Below W'.heap.size W' w'):=fun W hW=>by
      obtain ⟨o1,a1,_⟩:=hW
      obtain ⟨tw,q1,q2⟩:=hF.out (nx s') n1 W o1 a1
      exact ⟨tw,⟨(hY.out (nx s') n1 W o1 a1).1,q1⟩,q2⟩
     have HR:Hid (∀ W',zF (P (nx s')) w1 own 1 W'->W'.heap[w1.heap.size]?=some (.cells #[iv (fs (nx s')).1,iv (fs (nx s')).2] 123)->(∃ n,pO P PE Inv fs fb μ s w1 own (.bool (fb (nx s'))) W' n)/\fuel (pO P PE Inv fs fb μ s w1 own (.bool (fb (nx s'))) W')<fuel (pO P PE Inv fs fb μ s w1 own (.bool true) wr)):=fun W' h1 h2=>HM.out _ W' _ ⟨nx s',n1,rfl,n3.trans i3,h1,rfl,h2⟩ n2
     have hC:=aB hT.out (fun o hp=>(HXs.out wr o hp).2 (fs s').1 (hlo2 hb))
     have hTc:Hid (zF (PC s' (fs s').1) w1 own 1 (wr.sc x 8 (iv (fs s').1))):=hC
     have obc:Hid ((wr.sc x 8 (iv (fs s').1)).heap[w1.heap.size]?=some (.cells #[iv (fs s').1,iv (fs s').2] 123)):=(uG _ (aq x 8) _ _ (Ne.symm hne)).trans ob.out
     have hle2:=(hcd.out s').1 hle
     clear HM hN hE hF hS hX hY HEs hcd hle n1 n2 n3 i3 HXs hT hC ob hLo hlo1 hlo2
     have KPc:=KC s' (fs s').1
     have KPb:=KP (nx s')
     generalize (fs s').1=f1 at *
     generalize (fs s').2=f2 at *
     generalize (fs (nx s')).1=q1 at HFs HR
     generalize (fs (nx s')).2=q2 at HFs HR
     generalize fb (nx s')=b1 at HFs HR
     generalize PC s' f1=Pc at hTc HSs KPc
     generalize P (nx s')=Pb at HSs HFs HR KPb
     go_wp2_with fail
     try go_quiet (fail)
     go_wp2_with fail
     refine (HSs.out _ (yP KPc hTc.out bL)).mono ?_
     rintro e W2 ⟨rfl,hT2,hk⟩
     have ob2:Hid _:=(hk _ (uA _) uO).trans obc.out
     obtain ⟨tw,⟨hx2,c10⟩,HF2⟩:=HFs.out _ hT2
     replace HF2:Hid _:=HF2
     clear hk hTc obc s0 s1 c8 fz8
     go_wp2_with fail
     refine (HF2.out _ bL).mono ?_
     rintro e W3 ⟨rfl,b3⟩
     replace b3:Below W2.heap.size W2 W3:=b3
     have ob3:=(b3.block _ (blt ob2.out)).trans ob2.out
     have hT3:=yP KPb hT2 b3
     have HS2:Hid (((W3.sc w1.heap.size 0 (iv q1)).sc w1.heap.size 1 (iv q2)).heap[w1.heap.size]?=some (.cells #[iv q1,iv q2] 123)):=uH (i:=1) (uH (i:=0) ob3 _) _
     have hT4:Hid (zF Pb w1 own 1 ((W3.sc w1.heap.size 0 (iv q1)).sc w1.heap.size 1 (iv q2))):=oN KPb (oN KPb hT3 hw1.out (uA _) uO _) hw1.out (uA _) uO _
     obtain ⟨s0,s1⟩:=kP ob3
     have f0:=qA ob3 0
     have f1':=qA ob3 1
     have lw3:w1.heap.size<W3.heap.size:=(blt ob3)
     replace ob3:Hid _:=ob3
     clear hT2 ob2 hT3 b3 c10
     go_wp2
     exact HR.out _ hT4.out HS2.out
    ·have HEs:Hid _:=HEs.out (fun _=>hle)
     have hle2:¬ (fs s').1<=to:=fun c=>hle ((hcd.out s').2 c)
     replace hlo1:Hid _:=hlo1
     clear HM hN hE hF hS hX hY hcd hle ob hlo2 hLo
     generalize (fs s').1=f1 at s0 hle2
     go_wp2_with fail
     try go_quiet (fail)
     go_wp2_with fail
     have hC:=aB hT.out (fun o hp=>(HXs.out wr o hp).2 to hlo1.out)
     have hTc:Hid (zF (PC s' to) w1 own 1 (wr.sc x 8 (iv to))):=hC
     refine (HEs.out _ (yP (KC s' to) hTc.out bL)).mono ?_
     rintro e W1 ⟨rfl,hT1,hk⟩
     go_wp2
     first|go_end0|refine uK (uR rfl _ _ _) rfl ?_
     exact ⟨rfl,HFRONT.out _ (gD (yP (KE s) hT1 bL))⟩
