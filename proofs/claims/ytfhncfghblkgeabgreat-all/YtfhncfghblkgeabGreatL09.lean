import Derived.Test.YtfhncfghblkgeabGreatL08
set_option maxRecDepth 100000
set_option maxHeartbeats 2000000
namespace Go.Proofs.YtfhncfghblkgeabGreat
open Go.RowKit
theorem Ko {PW:World->Nat->(Nat->Prop)->Int->List (Int × Int)->Prop} (T:TimersAll PW) (P B R x rt n cap:Nat) (own:Nat->Prop) (v:Value) (now:Int) (L:List (Int × Int)) (o:OpV) (w:World) (hk:o.k=6) (ho:-9223372036854775808<=o.a/\o.a<=9223372036854775807)
 (h2:w.cell? (aq P 2)=some (.slice (some (aq rt 0)) n cap)) (hn:0<n) (hn':n<4611686018427387904) (hx:w.cell? (aq rt (zZ o.a n * 2))=some (pt x 0)) (hR:w.cell? (aq rt (zZ o.a n * 2+1))=some (pt R 0))
 (hp:PW w x own now L) (hr:fC w B R now v L) (ha:apart R v own) (hB:B<=w.heap.size) (hl:L.length * 16+16<=140737488351232) :
 Ca 50 #[pt P 0,o.val] w fun e w'=>e=.returned (.bool true)/\xS PW w w' B R x own v now (yL L o.b):=by
 obtain ⟨k,oa,ob,oc,od,oe,os⟩:=o
 simp only at hk ho hx hR
 subst hk
 unfold OpV.val
 simp only
 have hpw:P<w.heap.size:=uC w _ h2
 have hrw:rt<w.heap.size:=uC w _ hx
 have HIN:Hid (PW w x own now L/\fC w B R now v L/\apart R v own):=⟨hp,hr,ha⟩
 have hlen:((n:Int)==0)=false:=by simp;omega
 have hr':zZ oa n<n:=vX oa hn
 have HPK:Hid (∀ w':World,Ca 51 #[iv oa,iv n] w' fun e w2=>e=.returned (iv (zZ oa n))/\w'=w2):=fun w'=>dS oa n w' ho hn hn'
 generalize zZ oa n=r at hr' HPK hx hR
 have HCALL:Hid (∀ W0,Below w.heap.size w W0->Ca 81 #[pt x 0,iv ob] W0 fun e w1=>e=.returned (iv (gT L ob))/\(∀ w2,rwAns w1 w2 B R v now (yL L ob)->xS PW w w2 B R x own v now (yL L ob))/\fC w1 B R now v L/\B<=w1.heap.size/\∀ b o,w.heap.size<=b->b<W0.heap.size->w1.cell? (aq b o)=W0.cell? (aq b o)):=by
  intro W0 hb
  refine (T.unset ob (T.keep hp hb.size (fun k hk=>hb.block k (T.lt hp k hk))) hl).mono ?_
  rintro e w1 ⟨rfl,h1⟩
  exact ⟨rfl,nZ T hp hr ha hB hb h1⟩
 clear hp hr ha HIN
 go_enter Tryz.func50,Tryz.ntmps50
 go_wp2_with fail
 have hrn:(r:Int)<(n:Int):=uO
 go_region_held3 (fun w'=>w'.cell? (aq P 2)=some (.slice (some (aq rt 0)) n cap)/\w'.cell? (aq w.heap.size 1)=some (iv oa)/\w'.cell? (aq rt (r * 2))=some (pt x 0)/\w'.cell? (aq rt (r * 2+1))=some (pt R 0)) (simp [go_sem, *])
  (first
    | (go_at_call 51;refine (HPK.out _).mono ?_;rintro e w' ⟨rfl,rfl⟩))
 all_goals
  go_wp2_with fail
  refine (HCALL.out _ bL).mono ?_
  rintro e w1 ⟨rfl,hans,hr1,hB1,hcell⟩
  have q2:w1.cell? (aq w.heap.size 2)=some (iv ob):=(hcell w.heap.size 2 (uA _) uS).trans uU
  have qr:w1.cell? (aq (w.heap.size+1) 1)=some (pt R 0):=(hcell (w.heap.size+1) 1 uO uS).trans uU
  have HRC:Hid (Ca 82 #[pt R 0,iv ob] w1 fun e w'=>e=.returned (iv (gT L ob))/\rwAns w1 w' B R v now (yL L ob)):=He B R now v L ob w1 hr1 hB1 uO
  have HANS:Hid (∀ w2,rwAns w1 w2 B R v now (yL L ob)->xS PW w w2 B R x own v now (yL L ob)):=hans
  clear hcell hans hr1
  go_wp2_with (go_at_call 82;refine HRC.out.mono ?_;rintro e w2 ⟨rfl,hrw2⟩)
  go_ret
  exact ⟨by simp,HANS.out _ hrw2⟩
theorem Kw {PW:World->Nat->(Nat->Prop)->Int->List (Int × Int)->Prop} (T:TimersAll PW) (P B R x rt n cap:Nat) (own:Nat->Prop) (v:Value) (now:Int) (L:List (Int × Int)) (o:OpV) (w:World) (hk:o.k=7) (ho:-9223372036854775808<=o.a/\o.a<=9223372036854775807)
 (h2:w.cell? (aq P 2)=some (.slice (some (aq rt 0)) n cap)) (hn:0<n) (hn':n<4611686018427387904) (hx:w.cell? (aq rt (zZ o.a n * 2))=some (pt x 0)) (hR:w.cell? (aq rt (zZ o.a n * 2+1))=some (pt R 0))
 (hp:PW w x own now L) (hr:fC w B R now v L) (ha:apart R v own) (hB:B<=w.heap.size) (hl:L.length * 16+16<=140737488351232) :
 Ca 50 #[pt P 0,o.val] w fun e w'=>e=.returned (.bool true)/\xS PW w w' B R x own v now (L):=by
 obtain ⟨k,oa,ob,oc,od,oe,os⟩:=o
 simp only at hk ho hx hR
 subst hk
 unfold OpV.val
 simp only
 have hpw:P<w.heap.size:=uC w _ h2
 have hrw:rt<w.heap.size:=uC w _ hx
 have HIN:Hid (PW w x own now L/\fC w B R now v L/\apart R v own):=⟨hp,hr,ha⟩
 have hlen:((n:Int)==0)=false:=by simp;omega
 have hr':zZ oa n<n:=vX oa hn
 have HPK:Hid (∀ w':World,Ca 51 #[iv oa,iv n] w' fun e w2=>e=.returned (iv (zZ oa n))/\w'=w2):=fun w'=>dS oa n w' ho hn hn'
 generalize zZ oa n=r at hr' HPK hx hR
 have HCALL:Hid (∀ W0,Below w.heap.size w W0->Ca 71 #[pt x 0] W0 fun e w1=>e=.returned (.tuple #[.agg #[iv (qN L).1,iv (qN L).2],.bool (zB L)])/\(∀ w2,rwAns w1 w2 B R v now L->xS PW w w2 B R x own v now L)/\fC w1 B R now v L/\B<=w1.heap.size/\∀ b o,w.heap.size<=b->b<W0.heap.size->w1.cell? (aq b o)=W0.cell? (aq b o)):=by
  intro W0 hb
  refine (T.first (T.keep hp hb.size (fun k hk=>hb.block k (T.lt hp k hk))) hl).mono ?_
  rintro e w1 ⟨rfl,h1⟩
  exact ⟨rfl,nZ T hp hr ha hB hb h1⟩
 clear hp hr ha HIN
 go_enter Tryz.func50,Tryz.ntmps50
 go_wp2_with fail
 have hrn:(r:Int)<(n:Int):=uO
 go_region_held3 (fun w'=>w'.cell? (aq P 2)=some (.slice (some (aq rt 0)) n cap)/\w'.cell? (aq w.heap.size 1)=some (iv oa)/\w'.cell? (aq rt (r * 2))=some (pt x 0)/\w'.cell? (aq rt (r * 2+1))=some (pt R 0)) (simp [go_sem, *])
  (first
    | (go_at_call 51;refine (HPK.out _).mono ?_;rintro e w' ⟨rfl,rfl⟩))
 all_goals
  go_wp2_with fail
  refine (HCALL.out _ bL).mono ?_
  rintro e w1 ⟨rfl,hans,hr1,hB1,hcell⟩
  have qr:w1.cell? (aq (w.heap.size+1) 1)=some (pt R 0):=(hcell (w.heap.size+1) 1 uO uS).trans uU
  have hz1:w.heap.size+1<w1.heap.size:=uC w1 _ qr
  have HRC:Hid (∀ W1,Below w1.heap.size w1 W1->Ca 83 #[pt R 0] W1 fun e w'=>e=.returned (.tuple #[.agg #[iv (qN L).1,iv (qN L).2],.bool (zB L)])/\Below W1.heap.size W1 w'/\Below w1.heap.size w1 w'):=fun W1 hb=>(Li B R now v L W1 (rY hr1 (Same.of_below (own:=fun _=>False) hb) ⟨id,fun _ _=>id⟩) uO).mono (fun e w' h=>⟨h.1,h.2,hb.trans (h.2.mono hb.size)⟩)
  have HANS:Hid (∀ w2,Below w1.heap.size w1 w2->xS PW w w2 B R x own v now L):=fun w2 hb=>hans w2 (rwAns.same hr1 hb)
  clear hcell hans hr1
  generalize qN L=ft at HRC
  generalize zB L=fb at HRC
  obtain ⟨d0,d1⟩:=ft
  simp only at HRC
  go_wp2_with fail
  refine (HRC.out _ ((uM _ _).alloc (uA _) _)).mono ?_
  rintro e w2 ⟨rfl,b2,b12⟩
  have z0:w2.cell? (aq w1.heap.size 0)=some (iv d0):=(b2.cell (p:=(aq w1.heap.size 0)) vS).trans uU
  have z1:w2.cell? (aq w1.heap.size 1)=some (iv d1):=(b2.cell (p:=(aq w1.heap.size 1)) vS).trans uU
  have hz2:w1.heap.size<w2.heap.size:=uC w2 _ z0
  have HANS3:Hid (∀ O,xS PW w (w2.alloc O) B R x own v now L):=fun O=>HANS.out _ (b12.alloc b12.size O)
  clear b2 b12
  go_wp2
  go_ret
  exact ⟨rfl,HANS3.out _⟩
theorem Fz {PW:World->Nat->(Nat->Prop)->Int->List (Int × Int)->Prop} (T:TimersAll PW) (P B R x rt n cap:Nat) (own:Nat->Prop) (v:Value) (now:Int) (L:List (Int × Int)) (o:OpV) (w:World) (hk:o.k=8) (ho:-9223372036854775808<=o.a/\o.a<=9223372036854775807)
 (h2:w.cell? (aq P 2)=some (.slice (some (aq rt 0)) n cap)) (hn:0<n) (hn':n<4611686018427387904) (hx:w.cell? (aq rt (zZ o.a n * 2))=some (pt x 0)) (hR:w.cell? (aq rt (zZ o.a n * 2+1))=some (pt R 0))
 (hp:PW w x own now L) (hr:fC w B R now v L) (ha:apart R v own) (hB:B<=w.heap.size) (hl:L.length * 16+16<=140737488351232) :
 Ca 50 #[pt P 0,o.val] w fun e w'=>e=.returned (.bool true)/\xS PW w w' B R x own v now (L):=by
 obtain ⟨k,oa,ob,oc,od,oe,os⟩:=o
 simp only at hk ho hx hR
 subst hk
 unfold OpV.val
 simp only
 have hpw:P<w.heap.size:=uC w _ h2
 have hrw:rt<w.heap.size:=uC w _ hx
 have HIN:Hid (PW w x own now L/\fC w B R now v L/\apart R v own):=⟨hp,hr,ha⟩
 have hlen:((n:Int)==0)=false:=by simp;omega
 have hr':zZ oa n<n:=vX oa hn
 have HPK:Hid (∀ w':World,Ca 51 #[iv oa,iv n] w' fun e w2=>e=.returned (iv (zZ oa n))/\w'=w2):=fun w'=>dS oa n w' ho hn hn'
 generalize zZ oa n=r at hr' HPK hx hR
 have HCALL:Hid (∀ W0,Below w.heap.size w W0->Ca 84 #[pt x 0] W0 fun e w1=>e=.returned (iv L.length)/\(∀ w2,rwAns w1 w2 B R v now L->xS PW w w2 B R x own v now L)/\fC w1 B R now v L/\B<=w1.heap.size/\∀ b o,w.heap.size<=b->b<W0.heap.size->w1.cell? (aq b o)=W0.cell? (aq b o)):=by
  intro W0 hb
  refine (T.size (T.keep hp hb.size (fun k hk=>hb.block k (T.lt hp k hk))) hl).mono ?_
  rintro e w1 ⟨rfl,h1⟩
  exact ⟨rfl,nZ T hp hr ha hB hb h1⟩
 clear hp hr ha HIN
 go_enter Tryz.func50,Tryz.ntmps50
 go_wp2_with fail
 have hrn:(r:Int)<(n:Int):=uO
 go_region_held3 (fun w'=>w'.cell? (aq P 2)=some (.slice (some (aq rt 0)) n cap)/\w'.cell? (aq w.heap.size 1)=some (iv oa)/\w'.cell? (aq rt (r * 2))=some (pt x 0)/\w'.cell? (aq rt (r * 2+1))=some (pt R 0)) (simp [go_sem, *])
  (first
    | (go_at_call 51;refine (HPK.out _).mono ?_;rintro e w' ⟨rfl,rfl⟩))
 all_goals
  go_wp2_with fail
  refine (HCALL.out _ bL).mono ?_
  rintro e w1 ⟨rfl,hans,hr1,hB1,hcell⟩
  have qr:w1.cell? (aq (w.heap.size+1) 1)=some (pt R 0):=(hcell (w.heap.size+1) 1 uO uS).trans uU
  have hz1:w.heap.size+1<w1.heap.size:=uC w1 _ qr
  have e1:=(jH hr1.1).2
  obtain ⟨va,vc,rfl⟩:=Dj hr1
  have HANS:Hid (xS PW w w1 B R x own (.slice va L.length vc) now L):=hans w1 (rwAns.same hr1 (uM _ _))
  clear hcell hans hr1
  go_wp2
  go_ret
  exact ⟨by simp,HANS.out⟩
