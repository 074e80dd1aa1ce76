import Derived.Test.YtfhncfghblkgeabGreatL40
set_option maxRecDepth 100000
set_option maxHeartbeats 2000000
namespace Go.Proofs.YtfhncfghblkgeabGreat
open Go.RowKit
theorem Nc (p:Nat) (a:Option Addr) (len cap:Nat) (o:OpV) (w:World) (hk:o.k=10) (ho:-9223372036854775808<=o.a/\o.a<=9223372036854775807) (h0:w.cell? (aq p 0)=some (.slice a len cap)) (W0:World) (hbW:Below W0.heap.size W0 w) (hc:cfgsAt W0 a len) (Q:World->Prop)
 (HB:Hid (∀ w',Below w.heap.size w w'->Q w'))
 (HOP:Hid (∀ W n0 n1 n2 n3 n4 n5 n6 a' len' cap' ts,Below w.heap.size w W->tiersAt W0 a' len' cap' ts->len' * 16<=140737488351232->Ca 53 #[pt p 0,.agg #[iv n0,iv n1,iv n2,iv n3,iv n4,iv n5,iv n6,.slice a' len' cap']] W fun e w'=>e=.returned (.bool true)/\Q w')) :
 Ca 32 #[pt p 0,o.val] w fun e w'=>e=.returned (.bool true)/\Q w':=by
 obtain ⟨k,oa,ob,oc,od,oe,os⟩:=o
 simp only at hk ho
 subst hk
 unfold OpV.val
 simp only
 have hpw:p<w.heap.size:=uC w _ h0
 by_cases hz:len=0
 ·subst hz
  go_enter Tryz.func32,Tryz.ntmps32
  go_wp2
  go_ret
  exact ⟨rfl,HB.out _ ((uM _ _).alloc (uA _) _)⟩
 ·have hz':((len:Int)==0)=false:=by simp;omega
  obtain ⟨hl80,hcs⟩:=hc
  obtain ⟨b,off,rfl,hbw,hcfg⟩:=hcs uO
  have HC:Hid (∀ i,i<len->cfgAt W0 b (off+i * 8)):=hcfg
  have hb0:=hbw
  replace hbw:b<w.heap.size:=uB hbw hbW.size
  have HO:Hid (-9223372036854775808<=oa/\oa<=9223372036854775807):=ho
  clear hcs hcfg ho
  go_enter Tryz.func32,Tryz.ntmps32
  go_wp2
  have hr:zZ oa len<len:=vX oa uO
  have HPK:Hid (∀ w':World,Ca 51 #[iv oa,iv len] w' fun e w2=>e=.returned (iv (zZ oa len))/\w'=w2):=fun w'=>dS oa len w' HO.out uO uO
  generalize zZ oa len=r at hr HPK
  obtain ⟨n0,n1,n2,n3,n4,n5,n6,a',len',cap',ts,c0,c1,c2,c3,c4,c5,c6,c7,ht,hl⟩:=HC.out r hr
  have HT:Hid (tiersAt W0 a' len' cap' ts):=ht
  have hr':(r:Int)<(len:Int):=uO
  replace c0:=(hbW.cell (p:=(aq b (off+r * 8))) hb0).trans c0
  replace c1:=(hbW.cell (p:=(aq b (off+r * 8+1))) hb0).trans c1
  replace c2:=(hbW.cell (p:=(aq b (off+r * 8+2))) hb0).trans c2
  replace c3:=(hbW.cell (p:=(aq b (off+r * 8+3))) hb0).trans c3
  replace c4:=(hbW.cell (p:=(aq b (off+r * 8+4))) hb0).trans c4
  replace c5:=(hbW.cell (p:=(aq b (off+r * 8+5))) hb0).trans c5
  replace c6:=(hbW.cell (p:=(aq b (off+r * 8+6))) hb0).trans c6
  replace c7:=(hbW.cell (p:=(aq b (off+r * 8+7))) hb0).trans c7
  clear ht hb0
  replace hbW:Hid _:=hbW
  go_region_held3 (fun w'=>w'.cell? (aq p 0)=some (.slice (some (aq b off)) len cap)/\w'.cell? (aq w.heap.size 1)=some (iv oa)/\w'.cell? (aq b (off+r * 8))=some (iv n0)/\w'.cell? (aq b (off+r * 8+1))=some (iv n1)/\w'.cell? (aq b (off+r * 8+2))=some (iv n2)/\w'.cell? (aq b (off+r * 8+3))=some (iv n3)/\w'.cell? (aq b (off+r * 8+4))=some (iv n4)/\w'.cell? (aq b (off+r * 8+5))=some (iv n5)/\w'.cell? (aq b (off+r * 8+6))=some (iv n6)/\w'.cell? (aq b (off+r * 8+7))=some (.slice a' len' cap')) (simp [go_sem,World.cell?_alloc_past, *])
   (first
     | (go_at_call 51;refine (HPK.out _).mono ?_;rintro e w' ⟨rfl,rfl⟩))
  all_goals
   clear c0 c1 c2 c3 c4 c5 c6 c7
   go_wp2_with (go_at_call 53;refine (HOP.out _ n0 n1 n2 n3 n4 n5 n6 a' len' cap' ts bL HT.out hl).mono ?_;rintro e w2 ⟨rfl,hq⟩)
   go_ret
   exact ⟨rfl,hq⟩
theorem Rp (p:Nat) (a:Option Addr) (cap:Nat) (o:OpV) (w:World) (hk:11<=o.k/\o.k<=16) (h1:w.cell? (aq p 1)=some (.slice a 0 cap)) :
 Ca 32 #[pt p 0,o.val] w fun e w'=>e=.returned (.bool true)/\Below w.heap.size w w':=by
 obtain ⟨k,oa,ob,oc,od,oe,os⟩:=o
 simp only at hk
 unfold OpV.val
 simp only
 have hpw:p<w.heap.size:=uC w _ h1
 have q2:(k==2)=false:=by simp;omega
 have q3:(k==3)=false:=by simp;omega
 have q4:decide (4<=k)=true:=by simp;omega
 have q9:decide (k<=9)=false:=by simp;omega
 have q1:(k==1)=false:=by simp;omega
 have q10:(k==10)=false:=by simp;omega
 have q11:decide (k<11)=false:=by simp;omega
 have q16:decide (16<k)=false:=by simp;omega
 clear hk
 go_enter Tryz.func32,Tryz.ntmps32
 go_wp2
 go_ret
 exact ⟨rfl,(uM _ _).alloc (uA _) _⟩
theorem Tc (p rt n cap x R:Nat) (o:OpV) (w:World) (hk:11<=o.k/\o.k<=16) (ho:-9223372036854775808<=o.a/\o.a<=9223372036854775807) (h1:w.cell? (aq p 1)=some (.slice (some (aq rt 0)) n cap)) (hn:0<n) (hn':n<4611686018427387904)
 (hx:w.cell? (aq rt (zZ o.a n * 2))=some (pt x 0)) (hR:w.cell? (aq rt (zZ o.a n * 2+1))=some (pt R 0)) (fp:Nat->Prop) (hfp:∀ b,fp b->b<w.heap.size) (hfp1:¬ fp p) (hfp2:¬ fp rt) (Q:World->Prop)
 (HS:Hid (∀ W,Below w.heap.size w W->Ca 54 #[.agg #[pt x 0,pt R 0],o.val] W fun e w'=>e=.returned (.bool true)/\Q w'/\Same fp W w')) :
 Ca 32 #[pt p 0,o.val] w fun e w'=>e=.returned (.bool true)/\Q w':=by
 obtain ⟨k,oa,ob,oc,od,oe,os⟩:=o
 simp only at hk ho hx hR
 unfold OpV.val at HS ⊢
 simp only at HS ⊢
 have hpw:p<w.heap.size:=uC w _ h1
 have hrw:rt<w.heap.size:=uC w _ hx
 have q2:(k==2)=false:=by simp;omega
 have q3:(k==3)=false:=by simp;omega
 have q4:decide (4<=k)=true:=by simp;omega
 have q9:decide (k<=9)=false:=by simp;omega
 have q1:(k==1)=false:=by simp;omega
 have q10:(k==10)=false:=by simp;omega
 have q11:decide (k<11)=false:=by simp;omega
 have q16:decide (16<k)=false:=by simp;omega
 have hlen:((n:Int)==0)=false:=by simp;omega
 have hr':zZ oa n<n:=vX oa hn
 have HPK:Hid (∀ w':World,Ca 51 #[iv oa,iv n] w' fun e w2=>e=.returned (iv (zZ oa n))/\w'=w2):=fun w'=>dS oa n w' ho hn hn'
 generalize zZ oa n=r at hr' HPK hx hR
 have hrn:(r:Int)<(n:Int):=uO
 clear hk ho
 go_enter Tryz.func32,Tryz.ntmps32
 go_wp2_with fail
 go_region_held3 (fun w'=>w'.cell? (aq p 1)=some (.slice (some (aq rt 0)) n cap)/\w'.cell? (aq rt (r * 2))=some (pt x 0)/\w'.cell? (aq rt (r * 2+1))=some (pt R 0)/\w'.cell? (aq w.heap.size 0)=some (iv k)/\w'.cell? (aq w.heap.size 1)=some (iv oa)/\w'.cell? (aq w.heap.size 2)=some (iv ob)/\w'.cell? (aq w.heap.size 3)=some (iv oc)/\w'.cell? (aq w.heap.size 4)=some (iv od)/\w'.cell? (aq w.heap.size 5)=some (iv oe)/\w'.cell? (aq w.heap.size 6)=some (.string os)) (simp [go_sem, *])
  (first
    | (go_at_call 51;refine (HPK.out _).mono ?_;rintro e w' ⟨rfl,rfl⟩)
    | (go_at_call 54;refine (HS.out _ bL).mono ?_;rintro e w2 ⟨rfl,hq,hs2⟩
       have d1:=(hs2.cell (b:=p) (o:=1) uS hfp1).trans (uN:_=some (.slice (some (aq rt 0)) n cap))
       have d2:=(hs2.cell (b:=rt) (o:=r * 2) uS hfp2).trans (uN:_=some (pt x 0))
       have d3:=(hs2.cell (b:=rt) (o:=r * 2+1) uS hfp2).trans (uN:_=some (pt R 0))
       obtain ⟨f0,f1,f2,f3,f4,f5,f6⟩:=xJ ((hs2.block w.heap.size vS (fun e=>by have:=hfp _ e;omega)).trans (uF w _))
       clear hs2))
 all_goals
  go_wp2
  go_ret
  exact ⟨rfl,hq⟩
section
def SE.cells (e:SE):List Value:=[pt e.x 0,pt e.R 0]
def lM (Es:List SE):List Value:=Es.flatMap SE.cells
theorem Dh:∀ {Es:List SE} {i:Nat} {e:SE},Es[i]?=some e->(lM Es)[i * 2]?=some (pt e.x 0)/\(lM Es)[i * 2+1]?=some (pt e.R 0)
 | [],_,_,h=>by simp at h
 | e0 :: Es,0,e,h=>by
   simp at h
   subst h
   exact ⟨rfl,rfl⟩
 | e0 :: Es,i+1,e,h=>by
   have:=Dh (Es:=Es) (i:=i) (e:=e) (by simpa using h)
   have e1:(i+1) * 2=i * 2+1+1:=uO
   rw [e1]
   exact ⟨by simpa [lM,SE.cells] using this.1,by simpa [lM,SE.cells] using this.2⟩
theorem Kh:∀ {Es:List SE} {i:Nat} {e e':SE},Es[i]?=some e->e'.x=e.x->e'.R=e.R->lM (Es.set i e')=lM Es
 | [],_,_,_,h,_,_=>by simp at h
 | e0 :: Es,0,e,e',h,hx,hR=>by
   simp at h
   subst h
   simp [lM,SE.cells,hx,hR]
 | e0 :: Es,i+1,e,e',h,hx,hR=>by
   have:=Kh (Es:=Es) (i:=i) (e:=e) (e':=e') (by simpa using h) hx hR
   simp only [List.set_cons_succ,lM,List.flatMap_cons] at this ⊢
   rw [this]
theorem Gy (Es:List SE) (e:SE):lM (Es++[e])=lM Es++e.cells:=by simp [lM]
structure SS where
 Es:List SE
 vs:Value
structure invS (PS:World->Nat->(Nat->Prop)->Sal->Prop) (W:World) (ac:Option Addr) (lc cc:Nat) (c2 c3 c4:Value) (j:Nat) (σ:SS) (w:World):Prop where
 bel:Below W.heap.size W w
 world:w.heap[W.heap.size]?=some (.cells #[.slice ac lc cc,σ.vs,c2,c3,c4] 81)
 ss:w.ownsRow (W.heap.size+1) 119 2 σ.vs σ.Es.length (lM σ.Es)
 lenE:σ.Es.length<=j
 ent:∀ (a:Nat) (e:SE),σ.Es[a]?=some e->entS PS w W.heap.size j e
 sep:∀ (a a':Nat) (e e':SE),σ.Es[a]?=some e->σ.Es[a']?=some e'->a≠a'->∀ b,e.fp b->¬ e'.fp b
 far:∀ (a:Nat) (e:SE),σ.Es[a]?=some e->∀ b,e.fp b->W.heap.size<b/\σ.vs.ownBlock≠some b
def ZQ (W:World) (σ:SS) (b:Nat):Prop:=b=W.heap.size\/σ.vs.ownBlock=some b\/∃ (a:Nat) (e:SE),σ.Es[a]?=some e/\e.fp b
def Ic (σ:SS) (b:Nat):Prop:=σ.vs.ownBlock=some b\/∃ (a:Nat) (e:SE),σ.Es[a]?=some e/\e.fp b
def Qf (PS:World->Nat->(Nat->Prop)->Sal->Prop) (W:World) (ac:Option Addr) (lc cc:Nat) (c2 c3 c4:Value) (j:Nat) (σ:SS) (w w':World):Prop:=∃ σ',invS PS W ac lc cc c2 c3 c4 (j+1) σ' w'/\Same (ZQ W σ) w w'/\∀ b,Ic σ' b->Ic σ b\/w.heap.size<=b
section
variable {PS:World->Nat->(Nat->Prop)->Sal->Prop} {W:World} {c2 c3 c4:Value} {ac:Option Addr} {lc cc j:Nat} {σ:SS} {w w':World}
theorem Xr (T:SendOK PS) {B:Nat} {e:SE} (h:entS PS w B j e) (hb:Below w.heap.size w w'):entS PS w' B j e :=
 ⟨T.keep h.ps hb.size (fun k hk=>hb.block k (T.lt h.ps k hk)),qL h.ref hb,h.J,h.hBR,h.apart,h.low,h.ans⟩
theorem Iq {B:Nat} {e:SE} (h:entS PS w B j e):entS PS w B (j+1) e:=⟨h.ps,h.ref,h.J,h.hBR,h.apart,h.low,Nat.le_succ_of_le h.ans⟩
theorem aE (T:SendOK PS) (h:invS PS W ac lc cc c2 c3 c4 j σ w) (hb:Below w.heap.size w w'):invS PS W ac lc cc c2 c3 c4 j σ w' :=
 ⟨h.bel.trans (hb.mono h.bel.size),(hb.block _ (blt h.world)).trans h.world,qH h.ss hb (uA _),h.lenE,fun a e he=>Xr T (h.ent a e he) hb,h.sep,h.far⟩
theorem Ki (h:invS PS W ac lc cc c2 c3 c4 j σ w):invS PS W ac lc cc c2 c3 c4 (j+1) σ w :=
 ⟨h.bel,h.world,h.ss,Nat.le_succ_of_le h.lenE,fun a e he=>Iq (h.ent a e he),h.sep,h.far⟩
theorem Gx (W:World) (ac:Option Addr) (lc cc:Nat):invS PS W ac lc cc (.slice none 0 0) (.slice none 0 0) (.slice none 0 0) 0 ⟨[],.slice none 0 0⟩ (W.alloc (.cells #[.slice ac lc cc,.slice none 0 0,.slice none 0 0,.slice none 0 0,.slice none 0 0] 81)) :=
 ⟨(uM _ _).alloc (uA _) _,uF W _,World.ownsRow_nil _ _ _ _,uA _,fun a e he=>by simp at he,fun a a' e e' he=>by simp at he,fun a e he=>by simp at he⟩
theorem Cn {w2:World} (hb:Below w.heap.size w w2) (h:Qf PS W ac lc cc c2 c3 c4 j σ w2 w'):Qf PS W ac lc cc c2 c3 c4 j σ w w':=by
 obtain ⟨σ',h1,h2,h3⟩:=h
 have hz:=hb.size
 exact ⟨σ',h1,Same.trans (Same.of_below (own:=fun _=>False) hb) h2 (fun k _ e=>e.elim False.elim id),fun b hb=>(h3 b hb).imp id (fun c=>uO)⟩
theorem tB (T:SendOK PS) (h:invS PS W ac lc cc c2 c3 c4 j σ w) (hb:Below w.heap.size w w'):Qf PS W ac lc cc c2 c3 c4 j σ w w':=⟨σ,Ki (aE T h hb),Same.of_below hb,fun _ hb=>.inl hb⟩
theorem wV (T:SendOK PS) {c2' c3' c4':Value} (h:invS PS W ac lc cc c2 c3 c4 j σ w) (hw:w'.heap[W.heap.size]?=some (.cells #[.slice ac lc cc,σ.vs,c2',c3',c4'] 81)) (hb:Below W.heap.size W w') {own:Nat->Prop} (hs:Same own w w') (hk:∀ b,Ic σ b->¬ own b) (hlow:∀ b,own b->W.heap.size<=b):invS PS W ac lc cc c2' c3' c4' (j+1) σ w' :=
 ⟨hb,hw,qG h.ss (fun k e=>hs.block k (uJ h.ss k e).2 (hk k (.inl e))),Nat.le_succ_of_le h.lenE,fun a e he=>Zf T (h.ent a e he) hs (fun k hk' c=>hk k (.inr ⟨a,e,he,hk'⟩) c) hlow,h.sep,h.far⟩
theorem Au (T:SendOK PS) {i:Nat} {e e':SE} (h:invS PS W ac lc cc c2 c3 c4 j σ w) (hi:σ.Es[i]?=some e) (he:entS PS w' W.heap.size (j+1) e') (ht:e.then e' w) (hs:Same e.fp w w') :
 Qf PS W ac lc cc c2 c3 c4 j σ w w':=by
 have hP:W.heap.size<w.heap.size:=(blt h.world)
 have hil:i<σ.Es.length:=(List.getElem?_eq_some_iff.1 hi).1
 have hvs:=uJ h.ss
 have hfar:=h.far i e hi
 obtain ⟨hx,hR,hf⟩:=ht
 have hset:∀ (a:Nat) (e2:SE),(σ.Es.set i e')[a]?=some e2->(a=i/\e2=e')\/(a≠i/\σ.Es[a]?=some e2):=by
  intro a e2 ha
  rw [List.getElem?_set] at ha
  by_cases hai:i=a
  ·rw [uQ hai,uQ hil] at ha
   exact .inl ⟨hai.symm,(Option.some.inj ha).symm⟩
  ·rw [uP hai] at ha
   exact .inr ⟨fun e=>hai e.symm,ha⟩
 refine ⟨⟨σ.Es.set i e',σ.vs⟩,⟨?_,?_,?_,by simpa using Nat.le_succ_of_le h.lenE,?_,?_,?_⟩,⟨hs.os,hs.tape,hs.output,hs.size,fun k hk hn=>hs.block k hk (fun c=>hn (.inr (.inr ⟨i,e,hi,c⟩)))⟩,?_⟩
 ·refine ⟨hs.os.trans h.bel.os,hs.tape.trans h.bel.tape,hs.output.trans h.bel.output,uX h.bel.size hs.size,fun b hb=>?_⟩
  rw [hs.block b uO (fun c=>by have:=(hfar b c).1;omega)]
  exact h.bel.block b hb
 ·exact (hs.block _ hP (fun c=>by have:=(hfar _ c).1;omega)).trans h.world
 ·show w'.ownsRow _ _ 2 σ.vs (σ.Es.set i e').length (lM (σ.Es.set i e'))
  rw [Kh hi hx hR,List.length_set]
  exact qG h.ss (fun k hk=>hs.block k (hvs k hk).2 (fun c=>(hfar k c).2 hk))
 ·intro a e2 ha
  rcases hset a e2 ha with ⟨_,rfl⟩|⟨hai,ha⟩
  ·exact he
  ·exact Zf T (h.ent a e2 ha) hs (fun k hk c=>h.sep a i e2 e ha hi hai k hk c) (fun k hk=>uY (hfar k hk).1)
 ·intro a a' e2 e3 ha ha' hne b hb hb'
  rcases hset a e2 ha with ⟨ea,rfl⟩|⟨hai,h2⟩<;>rcases hset a' e3 ha' with ⟨ea',rfl⟩|⟨hai',h3⟩
  ·exact hne (ea.trans ea'.symm)
  ·rcases hf b hb with c|c
   ·exact h.sep _ _ _ _ hi h3 (fun e=>hne (ea.trans e)) b c hb'
   ·have:=dO T (h.ent _ _ h3) hb';omega
  ·rcases hf b hb' with c|c
   ·exact h.sep _ _ _ _ h2 hi (fun e=>hne (e.trans ea'.symm)) b hb c
   ·have:=dO T (h.ent _ _ h2) hb;omega
  ·exact h.sep _ _ _ _ h2 h3 hne b hb hb'
 ·intro a e2 ha b hb
  rcases hset a e2 ha with ⟨rfl,rfl⟩|⟨hai,ha⟩
  ·rcases hf b hb with c|c
   ·exact hfar b c
   ·exact ⟨uO,fun c'=>by have:=(hvs b c').2;omega⟩
  ·exact h.far a e2 ha b hb
 ·rintro b (c|⟨a,e2,ha,hb⟩)
  ·exact .inl (.inl c)
  ·rcases hset a e2 ha with ⟨_,rfl⟩|⟨_,ha⟩
   ·exact (hf b hb).imp (fun c=>.inr ⟨i,e,hi,c⟩) id
   ·exact .inl (.inr ⟨a,e2,ha,hb⟩)
theorem Hd {n0 n1 n2 n3 n4 n5 n6:Int} {ts:List (Int × Int)} (hc:mZ [n0,n1,n2,n3,n4,n5,n6] ts=true) (hp:∀ p∈ts,0<=p.2/\p.2<=1073741824):salJ ⟨⟨n0,n1,n2,n3,n4,n5,n6,ts⟩,0,[],[]⟩:=by
 unfold mZ yU at hc
 simp at hc
 refine ⟨⟨fun o ho=>by simp at ho,?_,fun c _=>by simp [qF],⟨?_,?_,?_,?_,?_,?_⟩,by simp,fun o ho=>by simp at ho,hp⟩,?_,?_,by simp,fun a ha=>by simp at ha⟩
 ·show qF [] 13 0+qF [] 14 0<=n0
  simp [qF];omega
 all_goals (simp only;omega)
theorem Cw (T:SendOK PS) (h:invS PS W ac lc cc c2 c3 c4 j σ w) {n0 n1 n2 n3 n4 n5 n6:Int} {x:Addr} {len cap:Nat} {ts:List (Int × Int)} (ht:tiersAt w (some x) len cap ts) (hlow:x.block<W.heap.size) (hJ:salJ ⟨⟨n0,n1,n2,n3,n4,n5,n6,ts⟩,0,[],[]⟩)
 (hA:aO PS w w' W.heap.size (.slice ac lc cc) σ.vs c2 c3 c4 σ.Es.length (lM σ.Es) #[iv n0,iv n1,iv n2,iv n3,iv n4,iv n5,iv n6,.slice (some x) len cap,iv 0,.slice none 0 0,.slice none 0 0] ⟨⟨n0,n1,n2,n3,n4,n5,n6,ts⟩,0,[],[]⟩) :
 Qf PS W ac lc cc c2 c3 c4 j σ w w':=by
 obtain ⟨xs,own,R,vs',h1,h2,h3,h4,h5,h6,h7,h8,h9,h10,h11⟩:=hA
 have hP:W.heap.size<w.heap.size:=(blt h.world)
 have hvs:=uJ h.ss
 generalize hE:(⟨xs,R,own,some x,len,cap,.slice none 0 0,.slice none 0 0,⟨⟨n0,n1,n2,n3,n4,n5,n6,ts⟩,0,[],[]⟩⟩:SE)=E
 have hEx:E.cells=[pt xs 0,pt R 0]:=by rw [← hE];rfl
 have hnew:∀ b,E.fp b->w.heap.size<=b:=by
  rw [← hE]
  rintro b (c|c|c|c)
  ·exact h6 b c
  ·have c':b=R:=c
   omega
  ·simp [Value.ownBlock] at c
  ·simp [Value.ownBlock] at c
 have hvs':∀ b,E.fp b->vs'.ownBlock≠some b:=by
  rw [← hE]
  rintro b (c|c|c|c)
  ·exact fun c'=>h10 b c' c
  ·have c':b=R:=c
   rw [c'];exact h11
  ·simp [Value.ownBlock] at c
  ·simp [Value.ownBlock] at c
 have hent:entS PS w' W.heap.size (j+1) E:=by
  rw [← hE]
  refine ⟨h3,⟨h4,mE ht h5 (fun b off e=>?_),fun b off e=>?_,World.ownsRow_nil _ _ _ _,World.ownsRow_nil _ _ _ _⟩,hJ,by show W.heap.size<=R;omega,⟨h8,fun k hk=>by simp [Value.ownBlock] at hk,fun k hk=>by simp [Value.ownBlock] at hk⟩,fun k hk=>by have:=h6 k hk;omega,by simp⟩
  ·have e':x.block=b:=by have:=Option.some.inj e;rw [this]
   rintro (c|c)
   ·omega
   ·have:=(hvs b c).1;omega
  ·have e':x.block=b:=by have:=Option.some.inj e;rw [this]
   omega
 have hget:∀ (a:Nat) (e2:SE),(σ.Es++[E])[a]?=some e2->(a=σ.Es.length/\e2=E)\/(a<σ.Es.length/\σ.Es[a]?=some e2):=by
  intro a e2 ha
  by_cases hal:a<σ.Es.length
  ·rw [List.getElem?_append_left hal] at ha
   exact .inr ⟨hal,ha⟩
  ·have hl:=(List.getElem?_eq_some_iff.1 ha).1
   have:a=σ.Es.length:=by simp at hl;omega
   subst this
   simp at ha
   exact .inl ⟨rfl,ha.symm⟩
 refine ⟨⟨σ.Es++[E],vs'⟩,⟨?_,h1,?_,by simp;exact h.lenE,?_,?_,?_⟩,⟨h5.os,h5.tape,h5.output,h5.size,fun k hk hn=>h5.block k hk (fun c=>hn (c.imp id .inl))⟩,?_⟩
 ·refine ⟨h5.os.trans h.bel.os,h5.tape.trans h.bel.tape,h5.output.trans h.bel.output,uX h.bel.size h5.size,fun b hb=>?_⟩
  rw [h5.block b uO (fun c=>c.elim (fun c=>uO) (fun c=>by have:=(hvs b c).1;omega))]
  exact h.bel.block b hb
 ·show w'.ownsRow _ _ 2 vs' (σ.Es++[E]).length (lM (σ.Es++[E]))
  rw [Gy,List.length_append,List.length_singleton,hEx]
  exact h2
 ·intro a e2 ha
  rcases hget a e2 ha with ⟨_,rfl⟩|⟨_,ha⟩
  ·exact hent
  ·exact Zf T (h.ent a e2 ha) h5 (fun k hk c=>c.elim (fun c=>by have:=(h.far a e2 ha k hk).1;omega) (h.far a e2 ha k hk).2) (fun k c=>c.elim (fun c=>Nat.le_of_eq c.symm) (fun c=>by have:=(hvs k c).1;omega))
 ·intro a a' e2 e3 ha ha' hne b hb hb'
  rcases hget a e2 ha with ⟨ea,rfl⟩|⟨_,h2'⟩<;>rcases hget a' e3 ha' with ⟨ea',rfl⟩|⟨_,h3'⟩
  ·exact hne (ea.trans ea'.symm)
  ·have:=hnew b hb;have:=dO T (h.ent _ _ h3') hb';omega
  ·have:=hnew b hb';have:=dO T (h.ent _ _ h2') hb;omega
  ·exact h.sep _ _ _ _ h2' h3' hne b hb hb'
 ·intro a e2 ha b hb
  rcases hget a e2 ha with ⟨_,rfl⟩|⟨_,ha⟩
  ·exact ⟨by have:=hnew b hb;omega,hvs' b hb⟩
  ·have hfa:=h.far a e2 ha b hb
   refine ⟨hfa.1,fun c=>?_⟩
   rcases h9 b c with c|c
   ·exact hfa.2 c
   ·have:=dO T (h.ent _ _ ha) hb;omega
 ·rintro b (c|⟨a,e2,ha,hb⟩)
  ·exact (h9 b c).imp .inl id
  ·rcases hget a e2 ha with ⟨_,rfl⟩|⟨_,ha⟩
   ·exact .inr (hnew b hb)
   ·exact .inl (.inr ⟨a,e2,ha,hb⟩)
end
theorem If {w:World} {B g n cap:Nat} {Es:List SE} (h:w.ownsRow B 119 2 (.slice (some (aq g 0)) n cap) n (lM Es)) {i:Nat} {e:SE} (hi:Es[i]?=some e) :
 w.cell? (aq g (i * 2))=some (pt e.x 0)/\w.cell? (aq g (i * 2+1))=some (pt e.R 0):=by
 have hf:=Dh hi
 have c0:=h.cells (g:=g) rfl _ _ hf.1
 have c1:=h.cells (g:=g) rfl _ _ hf.2
 rw [Addr.add_lit,Nat.zero_add] at c0 c1
 exact ⟨c0,c1⟩
theorem sR {ns:List Int} {ts:List (Int × Int)} (hc:mZ ns ts=true):(∀ p∈ts,0<=p.2/\p.2<=1073741824)/\ts≠[]:=by
 unfold mZ jB at hc
 simp only [Bool.and_eq_true,decide_eq_true_eq,List.all_eq_true,List.mem_range] at hc
 obtain ⟨_,⟨h1,_⟩,h3⟩:=hc
 refine ⟨fun p hp=>?_,fun e=>by rw [e] at h1;simp at h1⟩
 obtain ⟨i,hi,rfl⟩:=List.mem_iff_getElem.1 hp
 have:=h3 i hi
 unfold oG at this
 simp only [List.getD,uD hi,Option.getD_some,Bool.and_eq_true,decide_eq_true_eq] at this
 omega
section
variable {PS:World->Nat->(Nat->Prop)->Sal->Prop} {W:World} {c2 c3 c4:Value} {ac:Option Addr} {lc cc j:Nat} {σ:SS} {w:World}
theorem Hc (T:SendOK PS) (K:OpenOK PS) (h:invS PS W ac lc cc c2 c3 c4 j σ w) (hj:j * 64+64<=140737488351232) (n0 n1 n2 n3 n4 n5 n6:Int) (a:Option Addr) (len cap:Nat) (ts:List (Int × Int)) (ht:tiersAt W a len cap ts) (hb:len * 16<=140737488351232) :
 Ca 53 #[pt W.heap.size 0,.agg #[iv n0,iv n1,iv n2,iv n3,iv n4,iv n5,iv n6,.slice a len cap]] w fun e w'=>e=.returned (.bool true)/\Qf PS W ac lc cc c2 c3 c4 j σ w w':=by
 have ht':=ht.below h.bel (uA _)
 have hlE:=h.lenE
 cases a with
 | none =>
   obtain ⟨rfl,rfl⟩:=ht.2.2.2.1 rfl
   have hts:ts=[]:=List.length_eq_zero_iff.1 ht.1
   subst hts
   have hc:mZ [n0,n1,n2,n3,n4,n5,n6] []=false:=by
    cases hc:mZ [n0,n1,n2,n3,n4,n5,n6] [] with
    | false=>rfl
    | true=>exact absurd rfl (sR hc).2
   exact (Hx K W.heap.size n0 n1 n2 n3 n4 n5 n6 w hc).mono (by rintro e w' ⟨rfl,b⟩;exact ⟨rfl,tB T h b⟩)
 | some x =>
   cases hc:mZ [n0,n1,n2,n3,n4,n5,n6] ts with
   | false=>exact (Mo K W.heap.size n0 n1 n2 n3 n4 n5 n6 x len cap ts w ht' hb hc).mono (by rintro e w' ⟨rfl,b⟩;exact ⟨rfl,tB T h b⟩)
   | true =>
     obtain ⟨hp,hne⟩:=sR hc
     have hlow:x.block<W.heap.size:=by
      obtain ⟨b,off,hx,hbw,_⟩:=ht.2.2.2.2 hne
      have:=Option.some.inj hx
      rw [this]
      exact hbw
     refine (Gu K T W.heap.size σ.Es.length _ σ.vs _ _ _ (lM σ.Es) n0 n1 n2 n3 n4 n5 n6 x len cap ts w ht' hb hc h.world h.ss uO).mono ?_
     rintro e w' ⟨rfl,A⟩
     exact ⟨rfl,Cw T h ht' hlow (Hd hc hp) A⟩
theorem Cr (T:SendOK PS) (K:OpenOK PS) (h:invS PS W ac lc cc c2 c3 c4 j σ w) (hcf:cfgsAt W ac lc) (o:OpV) (ho:Bo o) (hj:j * 64+64<=140737488351232) (hk:o.k=10\/o.k=11\/o.k=12\/((o.k=13\/o.k=14)/\BookOK PS)\/((o.k=15\/o.k=16)/\TickOK PS)) :
 Ca 32 #[lW W,o.val] w fun e w'=>e=.returned (.bool true)/\Qf PS W ac lc cc c2 c3 c4 j σ w w':=by
 have hP:W.heap.size<w.heap.size:=(blt h.world)
 have hlE:=h.lenE
 unfold lW
 rcases hk with hk|hk
 ·have c0:w.cell? (aq W.heap.size 0)=some (.slice ac lc cc):=cB h.world
  refine Nc W.heap.size ac lc cc o w hk ho.2.1 c0 W h.bel hcf _ (fun w' hb=>tB T h hb) (fun W2 n0 n1 n2 n3 n4 n5 n6 a' len' cap' ts hb ht hl=>?_)
  refine (Hc T K (aE T h hb) hj n0 n1 n2 n3 n4 n5 n6 a' len' cap' ts ht hl).mono ?_
  rintro e w3 ⟨rfl,hi⟩
  exact ⟨rfl,Cn hb hi⟩
 ·have hr:11<=o.k/\o.k<=16:=uO
  have c1:w.cell? (aq W.heap.size 1)=some σ.vs:=cB h.world
  by_cases hne:σ.Es.length=0
  ·obtain ⟨a,c,hv⟩:=yE h.ss
   rw [hne] at hv
   exact (Rp W.heap.size a c o w hr (by rw [c1,hv])).mono (by rintro e w' ⟨rfl,b⟩;exact ⟨rfl,tB T h b⟩)
  ·have hpos:0<σ.Es.length:=uO
   have hpick:=vX o.a hpos
   obtain ⟨rt,cap,hvt⟩:∃ rt cap,σ.vs=.slice (some (aq rt 0)) σ.Es.length cap:=by
    rcases h.ss.2 with ⟨_,h0⟩|⟨g,c,cur,hv,_⟩
    ·omega
    ·exact ⟨g,c,hv⟩
   have hi:σ.Es[zZ o.a σ.Es.length]?=some σ.Es[zZ o.a σ.Es.length]:=uD hpick
   generalize σ.Es[zZ o.a σ.Es.length]=e at hi
   have he:=h.ent _ e hi
   have hss:=h.ss
   rw [hvt] at hss c1
   obtain ⟨x0,x1⟩:=If hss hi
   have hfar:=h.far _ e hi
   refine Tc W.heap.size rt σ.Es.length cap e.x e.R o w hr ho.2.1 c1 hpos uO x0 x1 e.fp (fun b hb=>dO T he hb) (fun c=>by have:=(hfar _ c).1;omega) (fun c=>(hfar _ c).2 (by rw [hvt];rfl)) _ (fun W2 hb=>?_)
   refine (Cf T (Xr T he hb) o ho uO hk).mono ?_
   rintro r w3 ⟨rfl,e2,a1,a2,a3⟩
   have hz:=hb.size
   exact ⟨rfl,Au T h hi a1 ⟨a2.1,a2.2.1,fun k hk=>(a2.2.2 k hk).imp id (fun c=>uO)⟩ (Same.trans (Same.of_below (own:=fun _=>False) hb) a3 (fun k _ e=>e.elim False.elim id)),a3⟩
end
end
def QF (n:Nat):Int:=200+(n:Int) % 50
theorem bX (n:Nat) (w:World) (hn:n<4611686018427387904) :
 Ca 55 #[iv n] w fun e w'=>e=.returned (.int .u8 (QF n))/\w=w':=by
 go_enter Tryz.func55,Tryz.ntmps55
 go_wp2
 go_ret
 exact ⟨rfl,rfl⟩
def marked (w:World) (P i:Nat) (v:Value):Prop :=
 v=.slice none 0 0\/∃ g n,v=.slice (some (aq g 0)) n n/\n<=maxLen/\P<g/\w.heap[g]?=some (.cells (List.replicate n (.int .u8 (QF i))).toArray 5 (0,0))
theorem Tryz.infoBytes:(Tryz.prog.info? 70).map (fun i=>(i.zero,i.size,i.bytes))=some (some (.slice none 0 0),1,24):=by kernel_rfl
def packedAns (w w':World) (P:Nat) (c0 c1 c2 vb c4:Value) (L:List Value):Prop :=
 ∃ v vb',w'.heap[P]?=some (.cells #[c0,c1,c2,vb',c4] 81)/\w'.ownsRow (P+1) 70 1 vb' (L++[v]).length (L++[v])/\marked w' P L.length v/\Same (fun b=>b=P\/vb.ownBlock=some b) w w'/\(∀ k,vb'.ownBlock=some k->vb.ownBlock=some k\/w.heap.size<=k)/\∀ k,v.ownBlock=some k->w.heap.size<=k
theorem wQ {w wr w3:World} {P:Nat} {c0 c1 c2 vb vb' c4 v:Value} {L:List Value} {O:Obj} (hP:P<w.heap.size) (hsz:w.heap.size<=wr.heap.size) (hos:wr.os=w.os/\wr.tape=w.tape/\wr.output=w.output) (hkeep:∀ k,k<w.heap.size->wr.heap[k]?=w.heap[k]?)
 (hw:w.heap[P]?=some (.cells #[c0,c1,c2,vb,c4] 81)) (hown:wr.ownsRow (P+1) 70 1 vb L.length L) (hown3:w3.ownsRow (P+1) 70 1 vb' (L.length+1) (L++[v])) (hg:(wr.alloc O).grownBy w3 vb.ownBlock) (hm:marked wr P L.length v) (hfb:∀ k,vb'.ownBlock=some k->vb.ownBlock=some k\/w.heap.size<=k) (hfv:∀ k,v.ownBlock=some k->w.heap.size<=k) :
 packedAns w (w3.sc P 3 vb') P c0 c1 c2 vb c4 L:=by
 have hvb:=uJ hown
 have hkeep3:∀ k,k<wr.heap.size->vb.ownBlock≠some k->w3.heap[k]?=wr.heap[k]?:=fun k hk hn=>(hg.block k uT (fun e=>hn e.symm)).trans (uE wr O k hk)
 have hP3:w3.heap[P]?=some (.cells #[c0,c1,c2,vb,c4] 81):=(hkeep3 P uO (fun e=>by have:=(hvb P e).1;omega)).trans ((hkeep P hP).trans hw)
 refine ⟨v,vb',?_,?_,?_,?_,hfb,hfv⟩
 ·rw [uH hP3];rfl
 ·have:=ownsRow_setCell_below hown3 (a:=(aq P 3)) (Nat.lt_succ_self P) vb'
  simpa using this
 ·rcases hm with h|⟨g,n,h,hn,hPg,hh⟩
  ·exact .inl h
  ·refine .inr ⟨g,n,h,hn,hPg,?_⟩
   have hgw:g<wr.heap.size:=(blt hh)
   rw [uG _ (aq P 3) _ _ (by show g≠P;omega),hkeep3 g hgw (fun e=>?_)]
   ·exact hh
   ·rcases hown.2 with ⟨rfl,_⟩|⟨g',cap,cur,rfl,_,hh',_⟩
    ·simp [Value.ownBlock] at e
    ·simp [Value.ownBlock] at e
     subst e
     rw [hh] at hh'
     simp at hh'
 ·have hsz3:w.heap.size<=w3.heap.size:=by have:=hg.size;simp at this;omega
  refine ⟨hg.os.trans hos.1,hg.tape.trans hos.2.1,hg.output.trans hos.2.2,by simpa [World.setCell] using hsz3,fun k hk hn=>?_⟩
  rw [uG _ (aq P 3) _ _ (fun e=>hn (.inl e)),hkeep3 k uO (fun e=>hn (.inr e)),hkeep k hk]
theorem Tf (P:Nat) (c0 c1 c2 vb c4:Value) (L:List Value) (k t c u o:Int) (w:World) (h:QH k t c u o=false) (hw:w.heap[P]?=some (.cells #[c0,c1,c2,vb,c4] 81)) (hown:w.ownsRow (P+1) 70 1 vb L.length L) (hL:L.length * 64<=140737488351232) :
 Ca 48 #[pt P 0,.agg #[iv k,iv t,iv c,iv u,iv o]] w fun e w'=>e=.returned (.bool true)/\packedAns w w' P c0 c1 c2 vb c4 L:=by
 obtain ⟨i0,hi,hz0,hz1,hz2⟩:=info_parts Tryz.infoBytes
 have HI:Hid (QH k t c u o=false):=h
 have hP:P<w.heap.size:=(blt hw)
 have HW:Hid (w.heap[P]?=some (.cells #[c0,c1,c2,vb,c4] 81)):=hw
 have HO:Hid (w.ownsRow (P+1) 70 1 vb L.length L):=hown
 have hq:∀ w',(binOp .eql 70 (.slice none 0 0) (.slice none 0 0)).run Tryz.prog w'=.ok (.bool true) w':=fun w'=>Lib.run_eql_slice_nil w' 70 5 none 0 0 0 0 Tryz.underlying70
 have hcv:∀ w':World,(convert 70 9 (.slice none 0 0)).run Tryz.prog w'=.ok (.string ByteArray.empty) w':=fun w'=>run_convert_bytes_nil w' 70 5 Tryz.underlying70 Tryz.underlying5 0 0 9 Tryz.underlying9
 clear h hw hown
 go_enter Tryz.func48,Tryz.ntmps48
 go_wp2_with fail
 refine (Sk k t c u o _ HI.out).mono ?_
 rintro e w1 ⟨rfl,b1⟩
 have s1:w.heap.size<w1.heap.size:=by have:=b1.size;simp at this;omega
 have k0:w1.cell? (aq w.heap.size 0)=some (iv k):=(b1.cell (p:=(aq w.heap.size 0)) vS).trans uU
 have k1:w1.cell? (aq w.heap.size 1)=some (iv t):=(b1.cell (p:=(aq w.heap.size 1)) vS).trans uU
 have k2:w1.cell? (aq w.heap.size 2)=some (iv c):=(b1.cell (p:=(aq w.heap.size 2)) vS).trans uU
 have k3:w1.cell? (aq w.heap.size 3)=some (iv u):=(b1.cell (p:=(aq w.heap.size 3)) vS).trans uU
 have k4:w1.cell? (aq w.heap.size 4)=some (iv o):=(b1.cell (p:=(aq w.heap.size 4)) vS).trans uU
 go_wp2_with fail
 refine (dP k t c u o _ HI.out).mono ?_
 rintro e w2 ⟨rfl,b2⟩
 have w02:Below w.heap.size w w2:=(((uM _ _).alloc (uA _) _).trans (b1.mono vS)).trans (b2.mono uO)
 have hP2:w2.heap[P]?=some (.cells #[c0,c1,c2,vb,c4] 81):=(w02.block P hP).trans HW.out
 obtain ⟨_,_,_,p3,_⟩:=yD hP2
 have pf:=qA hP2 3
 have hpw2:P<w2.heap.size:=by have:=w02.size;omega
 have hown2:=qH HO.out w02 (uA _)
 obtain ⟨va,vc,rfl⟩:∃ va vc,vb=.slice va L.length vc:=by
  rcases HO.out.2 with ⟨rfl,h0⟩|⟨g,cap,cur,rfl,_⟩
  ·exact ⟨none,0,by rw [h0]⟩
  ·exact ⟨_,_,rfl⟩
 clear b1 b2 k0 k1 k2 k3 k4 hP2
 go_wp2_with fail
 go_loopw [11] (fun i wr=>i=iv 0/\wr=w2) (fun _ _=>0)
 case atStart=>exact ⟨rfl,rfl⟩
 case round =>
  obtain ⟨rfl,rfl⟩:=hrel
  go_wp2_with (at_builtin;refine wpList_append_own_at _ rfl _ _ 78 rfl (P+1) 70 i0 (.slice none 0 0) 1 24 Tryz.underlying78 hi hz0 hz1 hz2 rfl vO _ _ _ rfl (hown2.alloc _) (aq wr.heap.size 0) 1 1 [.slice none 0 0] rfl rfl ?c1 ?c2 ?c3 ?c4 ?c5 ?_)
  case c1=>exact cell_one_new _ _ _
  case c2=>intro u hu;simp at hu;subst hu;rfl
  case c3=>unfold maxLen;omega
  case c4=>omega
  case c5=>simp;omega
  intro v' w3 hown3 hgrow _ hat
  obtain ⟨g3,cap3,rfl⟩:∃ g3 cap3,v'=.slice (some (aq g3 0)) (L.length+1) cap3:=by
   rcases hown3.2 with ⟨_,h0⟩|⟨g,cap,cur,hv,_⟩
   ·omega
   ·exact ⟨_,_,hv⟩
  have hfb:∀ k,Value.ownBlock (.slice (some (aq g3 0)) (L.length+1) cap3)=some k->Value.ownBlock (.slice va L.length vc)=some k\/w.heap.size<=k:=fun k hk=>by
   rcases hat with h|h
   ·exact .inl (h▸hk)
   ·rw [h] at hk
    simp only [Option.some.injEq] at hk
    have:=w02.size
    try simp at hk
    right
    omega
  have hPn:some P≠Value.ownBlock (.slice va L.length vc):=fun e=>by have:=(uJ hown2 P e.symm).1;omega
  have hP3:w3.heap[P]?=some (.cells #[c0,c1,c2,.slice va L.length vc,c4] 81):=(hgrow.block P uT hPn).trans ((uE _ _ _ uO).trans ((w02.block P hP).trans HW.out))
  obtain ⟨_,_,_,p3',_⟩:=yD hP3
  have pf':=qA hP3 3
  have HA:Hid (packedAns w (w3.sc P 3 (.slice (some (aq g3 0)) (L.length+1) cap3)) P c0 c1 c2 (.slice va L.length vc) c4 L):=wQ hP w02.size ⟨w02.os,w02.tape,w02.output⟩ w02.block HW.out hown2 hown3 hgrow (.inl rfl) hfb (fun k hk=>by simp [Value.ownBlock] at hk)
  clear hown3 hgrow hP3 hat hfb
  go_wp2
  go_ret
  exact ⟨rfl,HA.out⟩
theorem Gk (P:Nat) (c0 c1 c2 vb c4:Value) (L:List Value) (k t c u o:Int) (w:World) (h:QH k t c u o=true) (hw:w.heap[P]?=some (.cells #[c0,c1,c2,vb,c4] 81)) (hown:w.ownsRow (P+1) 70 1 vb L.length L) (hL:L.length * 64<=140737488351232) :
 Ca 48 #[pt P 0,.agg #[iv k,iv t,iv c,iv u,iv o]] w fun e w'=>e=.returned (.bool true)/\packedAns w w' P c0 c1 c2 vb c4 L:=by
 obtain ⟨i0,hi,hz0,hz1,hz2⟩:=info_parts Tryz.infoBytes
 have HI:Hid (QH k t c u o=true):=h
 have hP:P<w.heap.size:=(blt hw)
 have HW:Hid (w.heap[P]?=some (.cells #[c0,c1,c2,vb,c4] 81)):=hw
 have HO:Hid (w.ownsRow (P+1) 70 1 vb L.length L):=hown
 clear h hw hown
 go_enter Tryz.func48,Tryz.ntmps48
 go_wp2_with fail
 refine (Ew k t c u o _ HI.out).mono ?_
 rintro e w1 ⟨v1,rfl,ho1,b1⟩
 have s1:w.heap.size<w1.heap.size:=by have:=b1.size;simp at this;omega
 have k0:w1.cell? (aq w.heap.size 0)=some (iv k):=(b1.cell (p:=(aq w.heap.size 0)) vS).trans uU
 have k1:w1.cell? (aq w.heap.size 1)=some (iv t):=(b1.cell (p:=(aq w.heap.size 1)) vS).trans uU
 have k2:w1.cell? (aq w.heap.size 2)=some (iv c):=(b1.cell (p:=(aq w.heap.size 2)) vS).trans uU
 have k3:w1.cell? (aq w.heap.size 3)=some (iv u):=(b1.cell (p:=(aq w.heap.size 3)) vS).trans uU
 have k4:w1.cell? (aq w.heap.size 4)=some (iv o):=(b1.cell (p:=(aq w.heap.size 4)) vS).trans uU
 obtain ⟨g,cap,cur,rfl,hg1,hh1,hN,hm1,hcs,hct⟩:∃ g cap cur,v1=.slice (some (aq g 0)) (qE k (qT k t c u o)).length cap/\w.heap.size+1<=g/\w1.heap[g]?=some (.cells cur 5)/\(qE k (qT k t c u o)).length<=cap/\cap<=maxLen/\cur.size=cap/\cur.toList.take (qE k (qT k t c u o)).length=(qE k (qT k t c u o)).map (Value.int .u8):=by
  rcases ho1.2 with ⟨_,h0⟩|⟨g,cap,cur,hv,hb,hh,hn,hm,hc,ht⟩
  ·have:=oT k (qT k t c u o);omega
  ·exact ⟨g,cap,cur,hv,by simpa using hb,hh,hn,hm,by simpa using hc,by simpa using ht⟩
 have hby:=jZ HI.out
 obtain ⟨g1',cap1',hv1,hs1⟩:=zT (fL ho1 (oT _ _)) hby
 simp at hv1
 obtain ⟨rfl,rfl⟩:=hv1
 have hgw1:g<w1.heap.size:=(blt hh1)
 go_wp2_with fail
 refine (oD k t c u o _ HI.out).mono ?_
 rintro e w2 ⟨v2,rfl,hv2,b2⟩
 obtain ⟨g2,cap2,rfl,hs2⟩:=zT hv2 hby
 have e1:=xP (qM hs1 b2)
 have e2:=xP hs2
 have q1:∀ (x:Addr) (l c:Nat) (w':World),(binOp .eql 70 (.slice (some x) l c) (.slice none 0 0)).run Tryz.prog w'=.ok (.bool false) w':=fun x l c w'=>Lib.run_eql_slice_nil w' 70 5 (some x) l c 0 0 Tryz.underlying70
 have w02:Below w.heap.size w w2:=(((uM _ _).alloc (uA _) _).trans (b1.mono vS)).trans (b2.mono uO)
 have HG2:Hid (w2.heap[g]?=some (.cells cur 5)):=(b2.block g hgw1).trans hh1
 have hpw2:P<w2.heap.size:=by have:=w02.size;omega
 have hown2:=qH HO.out w02 (uA _)
 obtain ⟨va,vc,rfl⟩:∃ va vc,vb=.slice va L.length vc:=by
  rcases HO.out.2 with ⟨rfl,h0⟩|⟨g,cap,cur,rfl,_⟩
  ·exact ⟨none,0,by rw [h0]⟩
  ·exact ⟨_,_,rfl⟩
 have hP2:Hid (w2.heap[P]?=some (.cells #[c0,c1,c2,.slice va L.length vc,c4] 81)):=(w02.block P hP).trans HW.out
 have HO2:Hid (w2.ownsRow (P+1) 70 1 (.slice va L.length vc) L.length L):=hown2
 have hgP:P<g:=uO
 have hmk:∀ w':World,Ca 55 #[iv L.length] w' fun e w3=>e=.returned (.int .u8 (QF L.length))/\w'=w3:=fun w'=>bX L.length w' uO
 have HMK:Hid (∀ w':World,Ca 55 #[iv L.length] w' fun e w3=>e=.returned (.int .u8 (QF L.length))/\w'=w3):=hmk
 have hcm:cap<=9223372036854775807:=by unfold maxLen at hm1;omega
 clear b1 b2 k0 k1 k2 k3 k4 hs1 hs2 hv2 ho1 hown2 hmk hby hct
 go_wp2_with fail
 clear e1 e2 q1
 go_loopw [11] (fun i wr=>∃ j:Nat,j<=cap/\i=iv j/\Hid (wr.heap[g]?=some (.cells (List.replicate j (Value.int .u8 (QF L.length))++cur.toList.drop j).toArray 5 (0,0)))/\w2.grownBy wr (some g)) (fun i _=>cap - (intOf i).toNat)
 case atStart=>exact ⟨0,Nat.zero_le _,rfl,by simpa [Hid] using HG2.out,World.grownBy.refl _ _⟩
 case round =>
  obtain ⟨j,hj,rfl,hrow,hgr⟩:=hrel
  have hPr:wr.heap[P]?=some (.cells #[c0,c1,c2,.slice va L.length vc,c4] 81):=(hgr.block P hpw2 uT).trans hP2.out
  obtain ⟨_,_,_,p3,_⟩:=yD hPr
  by_cases hlt:j<cap
  ·have hA:(List.replicate j (Value.int .u8 (QF L.length))).length=j:=by simp
   obtain ⟨z,hz⟩:∃ z,cur.toList.drop j=z :: cur.toList.drop (j+1):=⟨_,List.drop_eq_getElem_cons (show j<cur.toList.length by simpa [hcs] using hlt)⟩
   rw [hz] at hrow
   clear hz
   have d0:=oP hrow.out hA
   have df:=qA hrow.out
   have HR:Hid (∀ v:Value,(wr.sc g j v).heap[g]?=some (.cells (List.replicate j (Value.int .u8 (QF L.length))++v :: cur.toList.drop (j+1)).toArray 5 (0,0))):=fun v=>xV hrow.out hA v
   clear hrow hA hPr
   go_wp2_with (go_at_call 55;refine (HMK.out _).mono ?_;rintro e w3 ⟨rfl,rfl⟩)
   go_roundw
   case rel =>
    refine ⟨j+1,uO,vN,?_,yT hgr⟩
    unfold Hid
    rw [List.replicate_succ',List.append_assoc]
    exact HR.out _
   case measure=>simp [intOf];omega
  ·have hje:j=cap:=uO
   subst hje
   have hfin:Hid (wr.heap[g]?=some (.cells (List.replicate j (Value.int .u8 (QF L.length))).toArray 5 (0,0))):=by
    have:=hrow.out
    rw [List.drop_eq_nil_of_le (by simp [hcs]),List.append_nil] at this
    exact this
   have hgwr:g<wr.heap.size:=(blt hfin.out)
   have hszr:w.heap.size<=wr.heap.size:=uX w02.size hgr.size
   have hgne:Value.ownBlock (.slice va L.length vc)≠some g:=fun e=>by
    rcases HO2.out.2 with ⟨hv,_⟩|⟨g',c',cur',hv,_,hh',_⟩
    ·simp at hv
     obtain ⟨rfl,_⟩:=hv
     simp [Value.ownBlock] at e
    ·simp at hv
     obtain ⟨rfl,_⟩:=hv
     simp [Value.ownBlock] at e
     subst e
     rw [HG2.out] at hh'
     simp at hh'
   have hownr:wr.ownsRow (P+1) 70 1 (.slice va L.length vc) L.length L:=HO2.out.kept hgr (.inr hgne)
   have hkeep:∀ k,k<w.heap.size->wr.heap[k]?=w.heap[k]?:=fun k hk=>(hgr.block k (by have:=w02.size;omega) uT).trans (w02.block k hk)
   have pf:=qA hPr 3
   have hPwr:P<wr.heap.size:=uO
   have HK:Hid (∀ k,k<w.heap.size->wr.heap[k]?=w.heap[k]?):=hkeep
   have hpr':Hid (wr.heap[P]?=some (.cells #[c0,c1,c2,.slice va L.length vc,c4] 81)):=hPr
   clear hrow hkeep hPr
   go_wp2_with (at_builtin;refine wpList_append_own_at _ rfl _ _ 78 rfl (P+1) 70 i0 (.slice none 0 0) 1 24 Tryz.underlying78 hi hz0 hz1 hz2 rfl vO _ _ _ rfl (hownr.alloc _) (aq wr.heap.size 0) 1 1 [.slice (some (aq g 0)) j j] rfl rfl ?c1 ?c2 ?c3 ?c4 ?c5 ?_)
   case c1=>exact cell_one_new _ _ _
   case c2=>intro u hu;simp at hu;subst hu;rfl
   case c3=>unfold maxLen;omega
   case c4=>omega
   case c5=>simp;omega
   intro v' w3 hown3 hgrow _ hat
   obtain ⟨g3,cap3,rfl⟩:∃ g3 cap3,v'=.slice (some (aq g3 0)) (L.length+1) cap3:=by
    rcases hown3.2 with ⟨_,h0⟩|⟨g,cap,cur,hv,_⟩
    ·omega
    ·exact ⟨_,_,hv⟩
   have hfb:∀ k,Value.ownBlock (.slice (some (aq g3 0)) (L.length+1) cap3)=some k->Value.ownBlock (.slice va L.length vc)=some k\/w.heap.size<=k:=fun k hk=>by
    rcases hat with h|h
    ·exact .inl (h▸hk)
    ·rw [h] at hk
     simp only [Option.some.injEq] at hk
     have:=hszr
     try simp at hk
     right
     omega
   have hPn:some P≠Value.ownBlock (.slice va L.length vc):=fun e=>by have:=(uJ hownr P e.symm).1;omega
   have hP3:w3.heap[P]?=some (.cells #[c0,c1,c2,.slice va L.length vc,c4] 81):=(hgrow.block P uT hPn).trans ((uE _ _ _ uO).trans hpr'.out)
   obtain ⟨_,_,_,p3',_⟩:=yD hP3
   have pf':=qA hP3 3
   have HA:Hid (packedAns w (w3.sc P 3 (.slice (some (aq g3 0)) (L.length+1) cap3)) P c0 c1 c2 (.slice va L.length vc) c4 L):=wQ hP hszr ⟨hgr.os.trans w02.os,hgr.tape.trans w02.tape,hgr.output.trans w02.output⟩ HK.out HW.out hownr hown3 hgrow (.inr ⟨g,j,rfl,hm1,hgP,hfin.out⟩) hfb (fun k hk=>by simp [Value.ownBlock] at hk;omega)
   clear hown3 hgrow hP3 hat hfb
   go_wp2
   go_ret
   exact ⟨rfl,HA.out⟩
theorem Same.thru {own:Nat->Prop} {w w1 w2:World} (h:Same own w w1) (h':Same own w1 w2):Same own w w2 :=
 ⟨h'.os.trans h.os,h'.tape.trans h.tape,h'.output.trans h.output,uX h.size h'.size,fun k hk hn=>(h'.block k (uB hk h.size) hn).trans (h.block k hk hn)⟩
theorem packedAns.of_alloc {w w':World} {P:Nat} {c0 c1 c2 vb c4:Value} {L:List Value} {O:Obj} (h:packedAns (w.alloc O) w' P c0 c1 c2 vb c4 L):packedAns w w' P c0 c1 c2 vb c4 L:=by
 obtain ⟨v,vb',h1,h2,h3,h4,h5,h6⟩:=h
 exact ⟨v,vb',h1,h2,h3,(Same.of_below ((uM _ _).alloc (uA _) O)).thru h4,fun k hk=>(h5 k hk).imp id (fun e=>by simp at e;omega),fun k hk=>by have:=h6 k hk;simp at this;omega⟩
theorem Fu (P:Nat) (c0 c1 c2 vb c4:Value) (L:List Value) (k t c u o:Int) (w:World) (hw:w.heap[P]?=some (.cells #[c0,c1,c2,vb,c4] 81)) (hown:w.ownsRow (P+1) 70 1 vb L.length L) (hL:L.length * 64<=140737488351232) :
 Ca 48 #[pt P 0,.agg #[iv k,iv t,iv c,iv u,iv o]] w fun e w'=>e=.returned (.bool true)/\packedAns w w' P c0 c1 c2 vb c4 L:=by
 by_cases h:QH k t c u o=true
 ·exact Gk P c0 c1 c2 vb c4 L k t c u o w h hw hown hL
 ·exact Tf P c0 c1 c2 vb c4 L k t c u o w (by simpa using h) hw hown hL
theorem Rj (P:Nat) (c0 c1 c2 vb c4:Value) (L:List Value) (o:OpV) (w:World) (hk:o.k=2) (hw:w.heap[P]?=some (.cells #[c0,c1,c2,vb,c4] 81)) (hown:w.ownsRow (P+1) 70 1 vb L.length L) (hL:L.length * 64<=140737488351232) :
 Ca 32 #[pt P 0,o.val] w fun e w'=>e=.returned (.bool true)/\packedAns w w' P c0 c1 c2 vb c4 L:=by
 obtain ⟨k,oa,ob,oc,od,oe,os⟩:=o
 simp only at hk
 subst hk
 unfold OpV.val
 simp only
 have hP:P<w.heap.size:=(blt hw)
 have HW:Hid (w.heap[P]?=some (.cells #[c0,c1,c2,vb,c4] 81)):=hw
 have HO:Hid (w.ownsRow (P+1) 70 1 vb L.length L):=hown
 clear hw hown
 go_enter Tryz.func32,Tryz.ntmps32
 go_wp2_with fail
 refine (Fu P c0 c1 c2 vb c4 L oa ob oc od oe _ ((uE _ _ _ hP).trans HW.out) (HO.out.alloc _) hL).mono ?_
 rintro e w1 ⟨rfl,hans⟩
 have HA:Hid (packedAns w w1 P c0 c1 c2 vb c4 L):=hans.of_alloc
 clear hans
 go_wp2
 go_ret
 exact ⟨rfl,HA.out⟩
theorem Vj (P:Nat) (o:OpV) (w:World) (hk:o.k=3) (hs:o.s.size<=140737488351232) :
 Ca 32 #[pt P 0,o.val] w fun e w'=>e=.returned (.bool true)/\Below w.heap.size w w':=by
 obtain ⟨k,oa,ob,oc,od,oe,os⟩:=o
 simp only at hk hs
 subst hk
 unfold OpV.val
 simp only
 go_enter Tryz.func32,Tryz.ntmps32
 go_wp2_with fail
 refine (Jy os _ hs).mono ?_
 rintro e w1 ⟨rfl,b1⟩
 have w01:Below w.heap.size w w1:=((uM _ _).alloc (uA _) _).trans (b1.mono vS)
 clear b1
 go_wp2
 go_ret
 exact ⟨rfl,w01⟩
theorem marked.keep {w w':World} {P i:Nat} {v:Value} (h:marked w P i v) (hb:∀ g,P<g->g<w.heap.size->(∃ C,w.heap[g]?=some (.cells C 5))->w'.heap[g]?=w.heap[g]?):marked w' P i v:=by
 rcases h with h|⟨g,n,h1,h2,h3,h4⟩
 ·exact .inl h
 ·exact .inr ⟨g,n,h1,h2,h3,(hb g h3 (blt h4) ⟨_,h4⟩).trans h4⟩
theorem Il {w:World} {B n g:Nat} {vb:Value} {L:List Value} {C:Array Value} (h:w.ownsRow B 70 1 vb n L) (hg:w.heap[g]?=some (.cells C 5)):vb.ownBlock≠some g:=by
 intro e
 rcases h.2 with ⟨rfl,_⟩|⟨g',c,cur,rfl,_,hh,_⟩
 ·simp [Value.ownBlock] at e
 ·simp [Value.ownBlock] at e
  subst e
  rw [hg] at hh
  simp at hh
theorem Qo {L:List Value} {v:Value} {i:Nat} (h:i<L.length):(L++[v]).getD i undef=L.getD i undef:=by
 simp [List.getD,List.getElem?_append_left h]
theorem Jw {L:List Value} {v:Value}:(L++[v]).getD L.length undef=v:=by simp [List.getD]
theorem Bb (P nb cb nd cd:Nat) (ab ad:Option Addr) (Lb Ld:List Value) (w:World) (h3:w.cell? (aq P 3)=some (.slice ab nb cb)) (h4:w.cell? (aq P 4)=some (.slice ad nd cd)) (hnb:nb<4611686018427387904) (hnd:nd<4611686018427387904)
 (hc:∀ i,i<nb->∃ rb,ab=some (aq rb 0)/\w.cell? (aq rb i)=some (Lb.getD i undef)) (hm:∀ i,i<nb->marked w P i (Lb.getD i undef))
 (hcd:∀ i,i<nd->∃ rb,ad=some (aq rb 0)/\w.cell? (aq rb i)=some (Ld.getD i undef)) (hmd:∀ i,i<nd->gI w P i (Ld.getD i undef)) :
 Ca 33 #[pt P 0] w fun e w'=>e=.returned (.bool true)/\Below w.heap.size w w':=by
 have hPw:P<w.heap.size:=uC w _ h3
 have HC:Hid (∀ i,i<nb->∃ rb,ab=some (aq rb 0)/\w.cell? (aq rb i)=some (Lb.getD i undef)):=hc
 have HM:Hid (∀ i,i<nb->marked w P i (Lb.getD i undef)):=hm
 have HCd:Hid (∀ i,i<nd->∃ rb,ad=some (aq rb 0)/\w.cell? (aq rb i)=some (Ld.getD i undef)):=hcd
 have HMd:Hid (∀ i,i<nd->gI w P i (Ld.getD i undef)):=hmd
 have HH:Hid (w.cell? (aq P 3)=some (.slice ab nb cb)/\w.cell? (aq P 4)=some (.slice ad nd cd)):=⟨h3,h4⟩
 clear hc hm h3 h4 hcd hmd
 go_enter Tryz.func33,Tryz.ntmps33
 go_wp2_with fail
 go_loopw [3] (fun i wr=>∃ j:Nat,j<=nb/\i=iv j/\Below w.heap.size w wr) (fun i _=>nb - (intOf i).toNat)
 case atStart=>exact ⟨0,Nat.zero_le _,rfl,uM _ _⟩
 case round =>
  obtain ⟨j,hj,rfl,hbel⟩:=hrel
  by_cases hlt:j<nb
  ·obtain ⟨rb,rfl,hcj⟩:=HC.out j hlt
   have k3:wr.cell? (aq P 3)=some (.slice (some (aq rb 0)) nb cb):=(hbel.cell (p:=(aq P 3)) hPw).trans HH.out.1
   have hrw:rb<w.heap.size:=uC w _ hcj
   have kr:wr.cell? (aq rb j)=some (Lb.getD j undef):=(hbel.cell (p:=(aq rb j)) hrw).trans (hcj)
   rcases HM.out j hlt with hv|⟨g,m,hv,hmm,hPg,hg⟩
   ·rw [hv] at kr
    go_wp2_with fail
    go_loopw [4] (fun i w2=>i=iv 0/\Below w.heap.size w w2) (fun _ _=>0)
    case atStart=>exact ⟨rfl,hbel⟩
    case round =>
     obtain ⟨rfl,hbel2⟩:=hrel
     have l3:wr.cell? (aq P 3)=some (.slice (some (aq rb 0)) nb cb):=(hbel2.cell (p:=(aq P 3)) hPw).trans HH.out.1
     have lr:wr.cell? (aq rb j)=some (.slice none 0 0):=by rw [hbel2.cell (p:=(aq rb j)) hrw,hcj,hv]
     go_wp2
     go_roundw
     case rel=>exact ⟨j+1,uO,vN,hbel2⟩
     case measure=>simp [intOf];omega
   ·rw [hv] at kr
    have HG:Hid (w.heap[g]?=some (.cells (List.replicate m (.int .u8 (QF j))).toArray 5 (0,0))):=hg
    have hgw:g<w.heap.size:=(blt hg)
    clear hg
    unfold maxLen at hmm
    go_wp2_with fail
    go_loopw [4] (fun i w2=>∃ q:Nat,q<=m/\i=iv q/\Below w.heap.size w w2) (fun i _=>m - (intOf i).toNat)
    case atStart=>exact ⟨0,Nat.zero_le _,rfl,hbel⟩
    case round =>
     obtain ⟨q,hq,rfl,hbel2⟩:=hrel
     have l3:wr.cell? (aq P 3)=some (.slice (some (aq rb 0)) nb cb):=(hbel2.cell (p:=(aq P 3)) hPw).trans HH.out.1
     have lr:wr.cell? (aq rb j)=some (.slice (some (aq g 0)) m m):=by rw [hbel2.cell (p:=(aq rb j)) hrw,hcj,hv]
     by_cases hqm:q<m
     ·have lg:wr.cell? (aq g q)=some (.int .u8 (QF j)):=by
           rw [hbel2.cell (p:=(aq g q)) hgw,uI HG.out,List.getElem?_toArray,List.getElem?_replicate,uQ hqm]
      have HMK:Hid (∀ w':World,Ca 55 #[iv j] w' fun e w2=>e=.returned (.int .u8 (QF j))/\w2=w'):=fun w'=>(bX j w' uO).mono (by rintro e w2 ⟨rfl,rfl⟩;exact ⟨rfl,rfl⟩)
      generalize QF j=mk at lg HMK
      go_wp2_with fail
      go_quiet ((go_at_call 55;exact Calls.quiet_of_same (HMK.out _)))
      go_wp2
      go_roundw
      case rel=>exact ⟨q+1,uO,vN,qY hbel2⟩
      case measure=>simp [intOf];omega
     ·have hqe:q=m:=uO
      subst hqe
      go_wp2
      go_roundw
      case rel=>exact ⟨j+1,uO,vN,hbel2⟩
      case measure=>simp [intOf];omega
  ·have hje:j=nb:=uO
   subst hje
   have k3:wr.cell? (aq P 3)=some (.slice ab j cb):=(hbel.cell (p:=(aq P 3)) hPw).trans HH.out.1
   clear HC HM
   go_wp2_with fail
   clear k3
   go_loopw [5] (fun i wr=>∃ j:Nat,j<=nd/\i=iv j/\Below w.heap.size w wr) (fun i _=>nd - (intOf i).toNat)
   case atStart=>exact ⟨0,Nat.zero_le _,rfl,hbel⟩
   case round =>
    obtain ⟨j,hj,rfl,hbel⟩:=hrel
    have k4:wr.cell? (aq P 4)=some (.slice ad nd cd):=(hbel.cell (p:=(aq P 4)) hPw).trans HH.out.2
    by_cases hlt:j<nd
    ·obtain ⟨rb,rfl,hcj⟩:=HCd.out j hlt
     have hrw:rb<w.heap.size:=uC w _ hcj
     have kr:wr.cell? (aq rb j)=some (Ld.getD j undef):=(hbel.cell (p:=(aq rb j)) hrw).trans (hcj)
     rcases HMd.out j hlt with hv|⟨g,m,hv,hmm,hPg,hg⟩
     ·rw [hv] at kr
      go_wp2_with fail
      go_loopw [6] (fun i w2=>i=iv 0/\Below w.heap.size w w2) (fun _ _=>0)
      case atStart=>exact ⟨rfl,hbel⟩
      case round =>
       obtain ⟨rfl,hbel2⟩:=hrel
       have l3:wr.cell? (aq P 4)=some (.slice (some (aq rb 0)) nd cd):=(hbel2.cell (p:=(aq P 4)) hPw).trans HH.out.2
       have lr:wr.cell? (aq rb j)=some (.slice none 0 0):=by rw [hbel2.cell (p:=(aq rb j)) hrw,hcj,hv]
       go_wp2
       go_roundw
       case rel=>exact ⟨j+1,uO,vN,hbel2⟩
       case measure=>simp [intOf];omega
     ·rw [hv] at kr
      have HG:Hid (w.heap[g]?=some (.cells (qV (List.replicate m (ZZ j,ZZ j))).toArray 123 (0,0))):=hg
      have hgw:g<w.heap.size:=(blt hg)
      clear hg
      unfold maxLen at hmm
      go_wp2_with fail
      go_loopw [6] (fun i w2=>∃ q:Nat,q<=m/\i=iv q/\Below w.heap.size w w2) (fun i _=>m - (intOf i).toNat)
      case atStart=>exact ⟨0,Nat.zero_le _,rfl,hbel⟩
      case round =>
       obtain ⟨q,hq,rfl,hbel2⟩:=hrel
       have l3:wr.cell? (aq P 4)=some (.slice (some (aq rb 0)) nd cd):=(hbel2.cell (p:=(aq P 4)) hPw).trans HH.out.2
       have lr:wr.cell? (aq rb j)=some (.slice (some (aq g 0)) m m):=by rw [hbel2.cell (p:=(aq rb j)) hrw,hcj,hv]
       have hPr:P<wr.heap.size:=uB hPw hbel2.size
       have hrr:rb<wr.heap.size:=uB hrw hbel2.size
       have hgr:g<wr.heap.size:=uB hgw hbel2.size
       by_cases hqm:q<m
       ·have lg0:wr.cell? (aq g (q * 2))=some (iv (ZZ j)):=(hbel2.cell (p:=(aq g (q * 2))) hgw).trans (bN HG.out hqm).1
        have lg1:wr.cell? (aq g (q * 2+1))=some (iv (ZZ j)):=(hbel2.cell (p:=(aq g (q * 2+1))) hgw).trans (bN HG.out hqm).2
        have HMK:Hid (∀ w':World,Ca 56 #[iv j] w' fun e w2=>e=.returned (.agg #[iv (ZZ j),iv (ZZ j)])/\Below w'.heap.size w' w2):=fun w'=>iJ j w' uO
        generalize ZZ j=mk at lg0 lg1 HMK
        go_wp2_with fail
        go_region_held3 (fun w'=>w'.cell? (aq P 4)=some (.slice (some (aq rb 0)) nd cd)/\w'.cell? (aq rb j)=some (.slice (some (aq g 0)) m m)/\w'.cell? (aq g (q * 2))=some (iv mk)/\w'.cell? (aq g (q * 2+1))=some (iv mk)) (simp [go_sem, *])
             (first
               | (go_at_call 56;refine (HMK.out _).mono ?_;rintro e w2 ⟨rfl,b2⟩
                  have e0:=(b2.cell (p:=(aq P 4)) uT).trans (uN:_=some (.slice (some (aq rb 0)) nd cd))
                  have e1:=(b2.cell (p:=(aq rb j)) uT).trans (uN:_=some (.slice (some (aq g 0)) m m))
                  have e3:=(b2.cell (p:=(aq g (q * 2))) uT).trans (uN:_=some (iv mk))
                  have e4:=(b2.cell (p:=(aq g (q * 2+1))) uT).trans (uN:_=some (iv mk))))
        have hbel3:Below w.heap.size w w2:=uL hbel2.drew (b2.mono (by simp;exact hbel2.size))
        clear e0 e1 e3 e4 lg0 lg1 b2
        go_wp2
        go_roundw
        case rel=>exact ⟨q+1,uO,vN,hbel3⟩
        case measure=>simp [intOf];omega
       ·have hqe:q=m:=uO
        subst hqe
        go_wp2
        go_roundw
        case rel=>exact ⟨j+1,uO,vN,hbel2⟩
        case measure=>simp [intOf];omega
    ·have hje:j=nd:=uO
     subst hje
     go_wp2
     go_ret
     exact ⟨rfl,hbel⟩
