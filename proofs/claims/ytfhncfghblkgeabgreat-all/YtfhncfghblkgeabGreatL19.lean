import Derived.Test.YtfhncfghblkgeabGreatL18
set_option maxRecDepth 100000
set_option maxHeartbeats 2000000
namespace Go.Proofs.YtfhncfghblkgeabGreat
open Go.RowKit
theorem Wb (t c u:Int) (w:World) (hn:[t,c,u].all yU=true) (hi:QH 1 t c u 0=true) :
 Ca 75 #[.agg #[iv 1,iv t,iv c,iv u,iv 0]] w fun e w'=>∃ v,e=.returned (.tuple #[v,iv 0])/\bytesAt w' w.heap.size v (qE 1 [t,c,u])/\Below w.heap.size w w':=by
 have HN:Hid ([t,c,u].all yU=true):=hn
 have HI:Hid (QH 1 t c u 0=true):=hi
 clear hn hi
 go_enter Tryz.func75,Tryz.ntmps75
 go_wp2_with fail
 refine (eO 1 t c u 0 _).mono ?_
 rintro e w1 ⟨rfl,b1⟩
 rw [HI.out]
 have s1:w.heap.size<w1.heap.size:=by have:=b1.size;simp at this;omega
 have k0:w1.cell? (aq w.heap.size 0)=some (iv 1):=(b1.cell (p:=(aq w.heap.size 0)) vS).trans uU
 have k1:w1.cell? (aq w.heap.size 1)=some (iv t):=(b1.cell (p:=(aq w.heap.size 1)) vS).trans uU
 have k2:w1.cell? (aq w.heap.size 2)=some (iv c):=(b1.cell (p:=(aq w.heap.size 2)) vS).trans uU
 have k3:w1.cell? (aq w.heap.size 3)=some (iv u):=(b1.cell (p:=(aq w.heap.size 3)) vS).trans uU
 have k4:w1.cell? (aq w.heap.size 4)=some (iv 0):=(b1.cell (p:=(aq w.heap.size 4)) vS).trans uU
 go_wp2_with fail
 refine (mN 1 uO uO [t,c,u] w1.heap.size 3 _ vS vS (mG HN.out uU uU uU)).mono ?_
 rintro e w2 ⟨v,rfl,hown,b2⟩
 have w02:Below w.heap.size w w2:=((((uM _ _).alloc (uA _) _).trans (b1.mono vS)).alloc (uY s1) _).trans (b2.mono uT)
 have hby:bytesAt w2 w.heap.size v (qE 1 [t,c,u]):=fL (jG hown uT) (oT _ _)
 have HBY:Hid (bytesAt w2 w.heap.size v (qE 1 [t,c,u])):=hby
 clear hby hown k0 k1 k2 k3 k4
 go_wp2
 go_ret2
 exact ⟨_,rfl,HBY.out,w02⟩
theorem Sp (t c o:Int) (w:World) (hn:[t,c,o].all yU=true) (hi:QH 2 t c 0 o=true) :
 Ca 75 #[.agg #[iv 2,iv t,iv c,iv 0,iv o]] w fun e w'=>∃ v,e=.returned (.tuple #[v,iv 0])/\bytesAt w' w.heap.size v (qE 2 [t,c,o])/\Below w.heap.size w w':=by
 have HN:Hid ([t,c,o].all yU=true):=hn
 have HI:Hid (QH 2 t c 0 o=true):=hi
 clear hn hi
 go_enter Tryz.func75,Tryz.ntmps75
 go_wp2_with fail
 refine (eO 2 t c 0 o _).mono ?_
 rintro e w1 ⟨rfl,b1⟩
 rw [HI.out]
 have s1:w.heap.size<w1.heap.size:=by have:=b1.size;simp at this;omega
 have k0:w1.cell? (aq w.heap.size 0)=some (iv 2):=(b1.cell (p:=(aq w.heap.size 0)) vS).trans uU
 have k1:w1.cell? (aq w.heap.size 1)=some (iv t):=(b1.cell (p:=(aq w.heap.size 1)) vS).trans uU
 have k2:w1.cell? (aq w.heap.size 2)=some (iv c):=(b1.cell (p:=(aq w.heap.size 2)) vS).trans uU
 have k3:w1.cell? (aq w.heap.size 3)=some (iv 0):=(b1.cell (p:=(aq w.heap.size 3)) vS).trans uU
 have k4:w1.cell? (aq w.heap.size 4)=some (iv o):=(b1.cell (p:=(aq w.heap.size 4)) vS).trans uU
 go_wp2_with fail
 refine (mN 2 uO uO [t,c,o] w1.heap.size 3 _ vS vS (mG HN.out uU uU uU)).mono ?_
 rintro e w2 ⟨v,rfl,hown,b2⟩
 have w02:Below w.heap.size w w2:=((((uM _ _).alloc (uA _) _).trans (b1.mono vS)).alloc (uY s1) _).trans (b2.mono uT)
 have hby:bytesAt w2 w.heap.size v (qE 2 [t,c,o]):=fL (jG hown uT) (oT _ _)
 have HBY:Hid (bytesAt w2 w.heap.size v (qE 2 [t,c,o])):=hby
 clear hby hown k0 k1 k2 k3 k4
 go_wp2
 go_ret2
 exact ⟨_,rfl,HBY.out,w02⟩
theorem Sn (t c o:Int) (w:World) (hn:[t,c,o].all yU=true) (hi:QH 3 t c 0 o=true) :
 Ca 75 #[.agg #[iv 3,iv t,iv c,iv 0,iv o]] w fun e w'=>∃ v,e=.returned (.tuple #[v,iv 0])/\bytesAt w' w.heap.size v (qE 3 [t,c,o])/\Below w.heap.size w w':=by
 have HN:Hid ([t,c,o].all yU=true):=hn
 have HI:Hid (QH 3 t c 0 o=true):=hi
 clear hn hi
 go_enter Tryz.func75,Tryz.ntmps75
 go_wp2_with fail
 refine (eO 3 t c 0 o _).mono ?_
 rintro e w1 ⟨rfl,b1⟩
 rw [HI.out]
 have s1:w.heap.size<w1.heap.size:=by have:=b1.size;simp at this;omega
 have k0:w1.cell? (aq w.heap.size 0)=some (iv 3):=(b1.cell (p:=(aq w.heap.size 0)) vS).trans uU
 have k1:w1.cell? (aq w.heap.size 1)=some (iv t):=(b1.cell (p:=(aq w.heap.size 1)) vS).trans uU
 have k2:w1.cell? (aq w.heap.size 2)=some (iv c):=(b1.cell (p:=(aq w.heap.size 2)) vS).trans uU
 have k3:w1.cell? (aq w.heap.size 3)=some (iv 0):=(b1.cell (p:=(aq w.heap.size 3)) vS).trans uU
 have k4:w1.cell? (aq w.heap.size 4)=some (iv o):=(b1.cell (p:=(aq w.heap.size 4)) vS).trans uU
 go_wp2_with fail
 refine (mN 3 uO uO [t,c,o] w1.heap.size 3 _ vS vS (mG HN.out uU uU uU)).mono ?_
 rintro e w2 ⟨v,rfl,hown,b2⟩
 have w02:Below w.heap.size w w2:=((((uM _ _).alloc (uA _) _).trans (b1.mono vS)).alloc (uY s1) _).trans (b2.mono uT)
 have hby:bytesAt w2 w.heap.size v (qE 3 [t,c,o]):=fL (jG hown uT) (oT _ _)
 have HBY:Hid (bytesAt w2 w.heap.size v (qE 3 [t,c,o])):=hby
 clear hby hown k0 k1 k2 k3 k4
 go_wp2
 go_ret2
 exact ⟨_,rfl,HBY.out,w02⟩
theorem Wq (c o:Int) (w:World) (hn:[c,o].all yU=true) (hi:QH 4 0 c 0 o=true) :
 Ca 75 #[.agg #[iv 4,iv 0,iv c,iv 0,iv o]] w fun e w'=>∃ v,e=.returned (.tuple #[v,iv 0])/\bytesAt w' w.heap.size v (qE 4 [c,o])/\Below w.heap.size w w':=by
 have HN:Hid ([c,o].all yU=true):=hn
 have HI:Hid (QH 4 0 c 0 o=true):=hi
 clear hn hi
 go_enter Tryz.func75,Tryz.ntmps75
 go_wp2_with fail
 refine (eO 4 0 c 0 o _).mono ?_
 rintro e w1 ⟨rfl,b1⟩
 rw [HI.out]
 have s1:w.heap.size<w1.heap.size:=by have:=b1.size;simp at this;omega
 have k0:w1.cell? (aq w.heap.size 0)=some (iv 4):=(b1.cell (p:=(aq w.heap.size 0)) vS).trans uU
 have k1:w1.cell? (aq w.heap.size 1)=some (iv 0):=(b1.cell (p:=(aq w.heap.size 1)) vS).trans uU
 have k2:w1.cell? (aq w.heap.size 2)=some (iv c):=(b1.cell (p:=(aq w.heap.size 2)) vS).trans uU
 have k3:w1.cell? (aq w.heap.size 3)=some (iv 0):=(b1.cell (p:=(aq w.heap.size 3)) vS).trans uU
 have k4:w1.cell? (aq w.heap.size 4)=some (iv o):=(b1.cell (p:=(aq w.heap.size 4)) vS).trans uU
 go_wp2_with fail
 refine (mN 4 uO uO [c,o] w1.heap.size 2 _ vS vS (Of HN.out uU uU)).mono ?_
 rintro e w2 ⟨v,rfl,hown,b2⟩
 have w02:Below w.heap.size w w2:=((((uM _ _).alloc (uA _) _).trans (b1.mono vS)).alloc (uY s1) _).trans (b2.mono uT)
 have hby:bytesAt w2 w.heap.size v (qE 4 [c,o]):=fL (jG hown uT) (oT _ _)
 have HBY:Hid (bytesAt w2 w.heap.size v (qE 4 [c,o])):=hby
 clear hby hown k0 k1 k2 k3 k4
 go_wp2
 go_ret2
 exact ⟨_,rfl,HBY.out,w02⟩
theorem dP (k t c u o:Int) (w:World) (h:QH k t c u o=false) :
 Ca 75 #[.agg #[iv k,iv t,iv c,iv u,iv o]] w fun e w'=>e=.returned (.tuple #[.slice none 0 0,iv 2])/\Below w.heap.size w w':=by
 have HI:Hid (QH k t c u o=false):=h
 clear h
 go_enter Tryz.func75,Tryz.ntmps75
 go_wp2_with fail
 refine (eO k t c u o _).mono ?_
 rintro e w1 ⟨rfl,b1⟩
 rw [HI.out]
 go_wp2
 go_ret2
 exact ⟨rfl,((uM _ _).alloc (uA _) _).trans (b1.mono vS)⟩
theorem oD (k t c u o:Int) (w:World) (h:QH k t c u o=true) :
 Ca 75 #[.agg #[iv k,iv t,iv c,iv u,iv o]] w fun e w'=>∃ v,e=.returned (.tuple #[v,iv 0])/\bytesAt w' w.heap.size v (qE k (qT k t c u o))/\Below w.heap.size w w':=by
 have hi:=h
 by_cases h1:k=1
 ·subst h1
  simp [QH] at h
  obtain ⟨h,rfl⟩:=h
  exact Wb t c u w (by simp [h]) hi
 by_cases h2:k=2
 ·subst h2
  simp [QH] at h
  obtain ⟨h,rfl⟩:=h
  exact Sp t c o w (by simp [h]) hi
 by_cases h3:k=3
 ·subst h3
  simp [QH] at h
  obtain ⟨h,rfl⟩:=h
  exact Sn t c o w (by simp [h]) hi
 by_cases h4:k=4
 ·subst h4
  simp [QH] at h
  obtain ⟨⟨h,rfl⟩,rfl⟩:=h
  exact Wq c o w (by simp [h]) hi
 ·simp [QH,h1,h2,h3,h4] at h
def UN (l:List Int) (k t c u o err:Int):Prop :=
 (err=0/\QH k t c u o=true/\l=qE k (qT k t c u o)) ∨
 (err=2/\k=0/\t=0/\c=0/\u=0/\o=0/\∀ k t c u o:Int,QH k t c u o=true->l≠qE k (qT k t c u o))
theorem vW {w:World} {b off len cap:Nat} {x:Int} {tl:List Int} (h:qJ w (some (aq b off)) len cap (x :: tl)) :
 1<=len/\len<=cap/\cap<=maxLen/\w.cell? (aq b off)=some (.int .u8 x)/\qJ w (if cap=1 then some (aq b off) else some (aq b (off+1))) (len - 1) (cap - 1) tl:=by
 have hd:=bT (g:=[x]) (r:=tl) (k:=1) h rfl
 obtain ⟨h1,h2,h3,h4,h5⟩:=h
 simp at h1
 obtain ⟨b',off',ha,hb',hc⟩:=h5 vS
 simp at ha
 obtain ⟨rfl,rfl⟩:=ha
 exact ⟨uO,h2,h3,by simpa using hc 0 uO,hd⟩
theorem xO (a:Option Addr) (len cap:Nat) (l:List Int) (w:World) (h:qJ w a len cap l) :
 Ca 64 #[.slice a len cap,iv 3] w fun e w'=>∃ v ok,e=.returned (.tuple #[v,.bool ok])/\eH w' w.heap.size 3 l v ok/\Below w.heap.size w w' :=
 gW a len cap 3 l w uO h
theorem rV (a:Option Addr) (len cap:Nat) (l:List Int) (w:World) (h:qJ w a len cap l) :
 Ca 64 #[.slice a len cap,iv 2] w fun e w'=>∃ v ok,e=.returned (.tuple #[v,.bool ok])/\eH w' w.heap.size 2 l v ok/\Below w.heap.size w w' :=
 gW a len cap 2 l w uO h
theorem qO {B b:Nat} {w w2:World} {v0 v1 v2 v3 v4:Value} (h:Below B w w2) (hb:B<=b) :
 Below B w (((((w2.sc b 0 v0).sc b 1 v1).sc b 2 v2).sc b 3 v3).sc b 4 v4) :=
 ((((h.setCell (p:=(aq b 0)) hb v0).setCell (p:=(aq b 1)) hb v1).setCell (p:=(aq b 2)) hb v2).setCell (p:=(aq b 3)) hb v3).setCell (p:=(aq b 4)) hb v4
def ZT (k:Int):Nat:=if k=1 then 3 else if k=2\/k=3 then 3 else if k=4 then 2 else 0
theorem tD {k t c u o:Int} (h:QH k t c u o=true):(qT k t c u o).all yU=true/\(qT k t c u o).length=ZT k/\0<ZT k:=by
 unfold QH at h
 unfold qT ZT
 split at h
 ·next h1=>simp [h1] at h ⊢;simp [h]
 ·next h1 =>
  split at h
  ·next h2=>simp [h1,h2] at h ⊢;simp [h]
  ·next h2 =>
   split at h
   ·next h4=>simp [h4] at h ⊢;simp [h]
   ·simp at h
theorem sZ:∀ (ns:List Int),ns.flatMap (fun n=>jJ n.toNat)=yZ (ns.map Int.toNat)
 | []=>rfl
 | n :: ns=>by
   have:=sZ ns
   simp only [List.flatMap_cons,List.map_cons,yZ] at this ⊢
   rw [this]
theorem jQ (k:Int) (ns:List Int):qE k ns=k :: yZ (ns.map Int.toNat):=by
 unfold qE;rw [sZ]
theorem oU:∀ (ns:List Int),ns.all yU=true->((ns.map Int.toNat).map fun n:Nat=>(n:Int))=ns
 | [],_=>rfl
 | n :: ns,h=>by
   simp at h
   obtain ⟨m,rfl,_,_⟩:=mJ h.1
   have:=oU ns (by simp;exact h.2)
   simp only [List.map_cons,this]
   simp
theorem Tm {k k' t c u o:Int} {tl:List Int} (h:QH k' t c u o=true) (e:k :: tl=qE k' (qT k' t c u o)) :
 ∃ ns:List Nat,tl=yZ ns/\ns.length=ZT k/\0<ZT k/\(ns.map fun n:Nat=>(n:Int)).all yU=true:=by
 obtain ⟨ha,hl,hp⟩:=tD h
 rw [jQ] at e
 simp at e
 obtain ⟨rfl,rfl⟩:=e
 exact ⟨_,rfl,by simpa using hl,hp,by rw [oU _ ha];exact ha⟩
theorem Pl {ns:List Nat} (h:(ns.map fun n:Nat=>(n:Int)).all yU=true):∀ n∈ns,n<34359738368:=by
 intro n hn
 have:=List.all_eq_true.1 h (n:Int) (List.mem_map.2 ⟨n,hn,rfl⟩)
 simp [yU] at this
 omega
theorem Qg {k:Int} {count:Nat} {tl:List Int} (hc:ZT k=count) (H:∀ ns:List Nat,ns.length=count->(∀ n∈ns,n<34359738368)->tl≠yZ ns):UN (k :: tl) 0 0 0 0 0 2 :=
 .inr ⟨rfl,rfl,rfl,rfl,rfl,rfl,fun k' t c u o h e=>by
  obtain ⟨ns,h1,h2,_,h4⟩:=Tm h e
  exact H ns (h2.trans hc) (Pl h4) h1⟩
theorem Pw {k:Int} {tl:List Int} (hc:ZT k=0):UN (k :: tl) 0 0 0 0 0 2 :=
 .inr ⟨rfl,rfl,rfl,rfl,rfl,rfl,fun k' t c u o h e=>by
  obtain ⟨ns,_,_,h3,_⟩:=Tm h e
  omega⟩
theorem Pp:UN [] 0 0 0 0 0 2:=.inr ⟨rfl,rfl,rfl,rfl,rfl,rfl,fun k' t c u o _ e=>by simp [qE] at e⟩
theorem Dc {k:Int} {ms:List Nat} {tl:List Int} (hc:ZT k=ms.length) (ht:tl=yZ ms) (hb:(ms.map fun n:Nat=>(n:Int)).all yU=false):UN (k :: tl) 0 0 0 0 0 2 :=
 .inr ⟨rfl,rfl,rfl,rfl,rfl,rfl,fun k' t c u o h e=>by
  obtain ⟨ns,h1,h2,_,h4⟩:=Tm h e
  obtain ⟨ms',e1,e2⟩:=oI ms ns [] uO (by rw [← ht,h1];simp)
  have:ms'=[]:=List.eq_nil_of_length_eq_zero (by have:=congrArg List.length e1;simp at this;omega)
  subst this
  simp at e1
  subst e1
  rw [hb] at h4
  simp at h4⟩
theorem Ev {a b c:Nat} {tl:List Int} (ht:tl=yZ [a,b,c]) (h:[(a:Int),(b:Int),(c:Int)].all yU=true):UN (1 :: tl) 1 a b c 0 0:=by
 simp at h
 exact .inl ⟨rfl,by simp [QH,h],by rw [jQ,ht];simp [qT]⟩
theorem Ed {a b c:Nat} {tl:List Int} (ht:tl=yZ [a,b,c]) (h:[(a:Int),(b:Int),(c:Int)].all yU=true):UN (2 :: tl) 2 a b 0 c 0:=by
 simp at h
 exact .inl ⟨rfl,by simp [QH,h],by rw [jQ,ht];simp [qT]⟩
theorem Eg {a b c:Nat} {tl:List Int} (ht:tl=yZ [a,b,c]) (h:[(a:Int),(b:Int),(c:Int)].all yU=true):UN (3 :: tl) 3 a b 0 c 0:=by
 simp at h
 exact .inl ⟨rfl,by simp [QH,h],by rw [jQ,ht];simp [qT]⟩
theorem Ie {a b:Nat} {tl:List Int} (ht:tl=yZ [a,b]) (h:[(a:Int),(b:Int)].all yU=true):UN (4 :: tl) 4 0 a 0 b 0:=by
 simp at h
 exact .inl ⟨rfl,by simp [QH,h],by rw [jQ,ht];simp [qT]⟩
theorem wT {w':World} {B:Nat} {l:List Int} {v:Value} (h:eH w' B 3 l v true) :
 ∃ (x y z g cap:Nat),l=yZ [x,y,z]/\v=.slice (some (aq g 0)) 3 cap/\B<=g/\g<w'.heap.size/\w'.cell? (aq g 0)=some (iv x)/\w'.cell? (aq g 1)=some (iv y)/\w'.cell? (aq g 2)=some (iv z):=by
 obtain ⟨ns,hn,_,hl,ho⟩:=h.1 rfl
 match ns,hn with
 | [x,y,z],_ =>
   rcases ho.2 with ⟨_,h0⟩|⟨g,cap,cur,rfl,hg,hh,_⟩
   ·simp at h0
   ·have c0:=ho.cells (g:=g) rfl 0 (iv x) rfl
    have c1:=ho.cells (g:=g) rfl 1 (iv y) rfl
    have c2:=ho.cells (g:=g) rfl 2 (iv z) rfl
    exact ⟨x,y,z,g,cap,hl,rfl,hg,(blt hh),by simpa [Addr.add_lit] using c0,by simpa [Addr.add_lit] using c1,by simpa [Addr.add_lit] using c2⟩
theorem Ph {w':World} {B:Nat} {l:List Int} {v:Value} (h:eH w' B 2 l v true) :
 ∃ (x y g cap:Nat),l=yZ [x,y]/\v=.slice (some (aq g 0)) 2 cap/\B<=g/\g<w'.heap.size/\w'.cell? (aq g 0)=some (iv x)/\w'.cell? (aq g 1)=some (iv y):=by
 obtain ⟨ns,hn,_,hl,ho⟩:=h.1 rfl
 match ns,hn with
 | [x,y],_ =>
   rcases ho.2 with ⟨_,h0⟩|⟨g,cap,cur,rfl,hg,hh,_⟩
   ·simp at h0
   ·have c0:=ho.cells (g:=g) rfl 0 (iv x) rfl
    have c1:=ho.cells (g:=g) rfl 1 (iv y) rfl
    exact ⟨x,y,g,cap,hl,rfl,hg,(blt hh),by simpa [Addr.add_lit] using c0,by simpa [Addr.add_lit] using c1⟩
theorem Yu (b off len cap:Nat) (tl:List Int) (w:World) (hc1:¬ cap=1) (h:qJ w (some (aq b off)) len cap (1 :: tl)) :
 Ca 42 #[.slice (some (aq b off)) len cap] w fun e w'=>∃ k t c u o err,e=.returned (.tuple #[.agg #[iv k,iv t,iv c,iv u,iv o],iv err])/\UN (1 :: tl) k t c u o err/\Below w.heap.size w w':=by
 obtain ⟨hl,hlc,hcap,hc0,HT⟩:=vW h
 have hbw:b<w.heap.size:=uC w _ hc0
 have hne:((len:Int)==0)=false:=by simp;omega
 have hpos:(0:Int)<(len:Int):=uO
 have hpos1:(1:Int)<=(len:Int):=uO
 rw [uP hc1] at HT
 have HT':Hid (qJ w (some (aq b (off+1))) (len - 1) (cap - 1) tl):=HT
 clear HT h
 go_enter Tryz.func42,Tryz.ntmps42
 go_wp2_with (go_at_call 63;refine (dF 0 0 0 0 _).mono ?_;rintro e w1 ⟨rfl,rfl⟩)
 refine (xO _ _ _ tl _ (qM HT'.out bL)).mono ?_
 rintro e w2 ⟨v,ok,rfl,hans,b2⟩
 have bw:Below w.heap.size w w2:=uL bL (b2.mono uS)
 have s2:w.heap.size+2<w2.heap.size:=by have:=b2.size;simp at this;omega
 have q0:∀ i,i<5->w2.frozen? (aq w.heap.size i)=false:=fun i hi=>(b2.frozen (p:=(aq w.heap.size i)) uS).trans uU
 have q1:∀ i,i<5->w2.cell? (aq w.heap.size i)=some (iv 0):=fun i hi=>(b2.cell (p:=(aq w.heap.size i)) uS).trans (by match i,hi with
  | 0,_=>simp [go_sem]
  | 1,_=>simp [go_sem]
  | 2,_=>simp [go_sem]
  | 3,_=>simp [go_sem]
  | 4,_=>simp [go_sem])
 cases ok with
 | false =>
   have HU:Hid (UN (1 :: tl) 0 0 0 0 0 2):=Qg rfl (hans.2 rfl)
   clear hans b2
   go_wp2
   refine uK (v:=.tuple #[.agg #[iv 0,iv 0,iv 0,iv 0,iv 0],iv 2]) (by simp [results,Tryz.results42,go_sem,q1]) rfl ⟨0,0,0,0,0,2,rfl,HU.out,?_⟩
   exact qO bw (uA _)
 | true =>
   obtain ⟨x,y,z,g,cap2,htl,rfl,hg0,hg1,c0,c1,c2⟩:=wT hans
   by_cases hall:[(x:Int),(y:Int),(z:Int)].all yU=true
   ·have HU:Hid (UN (1 :: tl) 1 x y z 0 0):=Ev htl hall
    have HA:Hid ([(x:Int),(y:Int),(z:Int)].all yU=true):=hall
    clear hans b2 htl hall
    go_wp2_with (first
     | (go_at_call 57;refine (jV g cap2 x y z _ c0 c1 c2).mono ?_;rintro e w3 ⟨rfl,rfl⟩;rw [HA.out])
     | (go_at_call 65;refine (nI g 0 cap2 x y z _ c0 c1 c2).mono ?_;rintro e w4 ⟨rfl,b4⟩;have r0:∀ i,i<5->w4.frozen? (aq w.heap.size i)=false:=(fun i hi=>(b4.frozen (p:=(aq w.heap.size i)) (show w.heap.size<w2.heap.size by omega)).trans (q0 i hi));have r1:∀ i,i<5->w4.cell? (aq w.heap.size i)=some (iv 0):=(fun i hi=>(b4.cell (p:=(aq w.heap.size i)) (show w.heap.size<w2.heap.size by omega)).trans (q1 i hi))))
    have bw4:Below w.heap.size w w4:=bw.trans (b4.mono uO)
    refine uK (v:=.tuple #[.agg #[iv 1,iv x,iv y,iv z,iv 0],iv 0]) (by simp [results,Tryz.results42,go_sem,r1]) rfl ⟨1,x,y,z,0,0,rfl,HU.out,?_⟩
    exact qO bw4 (uA _)
   ·have HU:Hid (UN (1 :: tl) 0 0 0 0 0 2):=Dc (ms:=[x,y,z]) rfl htl (by simpa using hall)
    have HA:Hid ([(x:Int),(y:Int),(z:Int)].all yU=false):=by unfold Hid;simpa using hall
    clear hans b2 htl hall
    go_wp2_with (go_at_call 57;refine (jV g cap2 x y z _ c0 c1 c2).mono ?_;rintro e w3 ⟨rfl,rfl⟩;rw [HA.out])
    refine uK (v:=.tuple #[.agg #[iv 0,iv 0,iv 0,iv 0,iv 0],iv 2]) (by simp [results,Tryz.results42,go_sem,q1]) rfl ⟨0,0,0,0,0,2,rfl,HU.out,?_⟩
    exact qO bw (uA _)
theorem pE (b off:Nat) (w:World) (h:qJ w (some (aq b off)) 1 1 [1]) :
 Ca 42 #[.slice (some (aq b off)) 1 1] w fun e w'=>∃ k t c u o err,e=.returned (.tuple #[.agg #[iv k,iv t,iv c,iv u,iv o],iv err])/\UN (1 :: []) k t c u o err/\Below w.heap.size w w':=by
 obtain ⟨_,_,_,hc0,HT⟩:=vW h
 have hbw:b<w.heap.size:=uC w _ hc0
 have HT':Hid (qJ w (some (aq b off)) 0 0 []):=HT
 clear HT h
 go_enter Tryz.func42,Tryz.ntmps42
 go_wp2_with (go_at_call 63;refine (dF 0 0 0 0 _).mono ?_;rintro e w1 ⟨rfl,rfl⟩)
 refine (xO _ _ _ [] _ (qM HT'.out bL)).mono ?_
 rintro e w2 ⟨v,ok,rfl,hans,b2⟩
 have bw:Below w.heap.size w w2:=uL bL (b2.mono uS)
 have s2:w.heap.size+2<w2.heap.size:=by have:=b2.size;simp at this;omega
 have q0:∀ i,i<5->w2.frozen? (aq w.heap.size i)=false:=fun i hi=>(b2.frozen (p:=(aq w.heap.size i)) uS).trans uU
 have q1:∀ i,i<5->w2.cell? (aq w.heap.size i)=some (iv 0):=fun i hi=>(b2.cell (p:=(aq w.heap.size i)) uS).trans (by match i,hi with
  | 0,_=>simp [go_sem]
  | 1,_=>simp [go_sem]
  | 2,_=>simp [go_sem]
  | 3,_=>simp [go_sem]
  | 4,_=>simp [go_sem])
 cases ok with
 | false =>
   have HU:Hid (UN (1 :: []) 0 0 0 0 0 2):=Qg rfl (hans.2 rfl)
   clear hans b2
   go_wp2
   refine uK (v:=.tuple #[.agg #[iv 0,iv 0,iv 0,iv 0,iv 0],iv 2]) (by simp [results,Tryz.results42,go_sem,q1]) rfl ⟨0,0,0,0,0,2,rfl,HU.out,?_⟩
   exact qO bw (uA _)
 | true =>
   obtain ⟨x,y,z,g,cap2,htl,_⟩:=wT hans
   have:=dZ x
   have:=congrArg List.length htl
   simp [yZ] at this
   omega
theorem Ei (b off len cap:Nat) (tl:List Int) (w:World) (h:qJ w (some (aq b off)) len cap (1 :: tl)) :
 Ca 42 #[.slice (some (aq b off)) len cap] w fun e w'=>∃ k t c u o err,e=.returned (.tuple #[.agg #[iv k,iv t,iv c,iv u,iv o],iv err])/\UN (1 :: tl) k t c u o err/\Below w.heap.size w w':=by
 by_cases hc1:cap=1
 ·subst hc1
  have h1:=h.1
  have h2:=h.2.1
  simp at h1
  have hl:len=1:=uO
  subst hl
  have ht:tl=[]:=List.eq_nil_of_length_eq_zero uO
  subst ht
  exact pE b off w h
 ·exact Yu b off len cap tl w hc1 h
theorem Yg (b off len cap:Nat) (tl:List Int) (w:World) (hc1:¬ cap=1) (h:qJ w (some (aq b off)) len cap (2 :: tl)) :
 Ca 42 #[.slice (some (aq b off)) len cap] w fun e w'=>∃ k t c u o err,e=.returned (.tuple #[.agg #[iv k,iv t,iv c,iv u,iv o],iv err])/\UN (2 :: tl) k t c u o err/\Below w.heap.size w w':=by
 obtain ⟨hl,hlc,hcap,hc0,HT⟩:=vW h
 have hbw:b<w.heap.size:=uC w _ hc0
 have hne:((len:Int)==0)=false:=by simp;omega
 have hpos:(0:Int)<(len:Int):=uO
 have hpos1:(1:Int)<=(len:Int):=uO
 rw [uP hc1] at HT
 have HT':Hid (qJ w (some (aq b (off+1))) (len - 1) (cap - 1) tl):=HT
 clear HT h
 go_enter Tryz.func42,Tryz.ntmps42
 go_wp2_with (go_at_call 63;refine (dB 0 0 0 0 _).mono ?_;rintro e w1 ⟨rfl,rfl⟩)
 refine (xO _ _ _ tl _ (qM HT'.out bL)).mono ?_
 rintro e w2 ⟨v,ok,rfl,hans,b2⟩
 have bw:Below w.heap.size w w2:=uL bL (b2.mono uS)
 have s2:w.heap.size+2<w2.heap.size:=by have:=b2.size;simp at this;omega
 have q0:∀ i,i<5->w2.frozen? (aq w.heap.size i)=false:=fun i hi=>(b2.frozen (p:=(aq w.heap.size i)) uS).trans uU
 have q1:∀ i,i<5->w2.cell? (aq w.heap.size i)=some (iv 0):=fun i hi=>(b2.cell (p:=(aq w.heap.size i)) uS).trans (by match i,hi with
  | 0,_=>simp [go_sem]
  | 1,_=>simp [go_sem]
  | 2,_=>simp [go_sem]
  | 3,_=>simp [go_sem]
  | 4,_=>simp [go_sem])
 cases ok with
 | false =>
   have HU:Hid (UN (2 :: tl) 0 0 0 0 0 2):=Qg rfl (hans.2 rfl)
   clear hans b2
   go_wp2
   refine uK (v:=.tuple #[.agg #[iv 0,iv 0,iv 0,iv 0,iv 0],iv 2]) (by simp [results,Tryz.results42,go_sem,q1]) rfl ⟨0,0,0,0,0,2,rfl,HU.out,?_⟩
   exact qO bw (uA _)
 | true =>
   obtain ⟨x,y,z,g,cap2,htl,rfl,hg0,hg1,c0,c1,c2⟩:=wT hans
   by_cases hall:[(x:Int),(y:Int),(z:Int)].all yU=true
   ·have HU:Hid (UN (2 :: tl) 2 x y 0 z 0):=Ed htl hall
    have HA:Hid ([(x:Int),(y:Int),(z:Int)].all yU=true):=hall
    clear hans b2 htl hall
    go_wp2_with (first
     | (go_at_call 57;refine (jV g cap2 x y z _ c0 c1 c2).mono ?_;rintro e w3 ⟨rfl,rfl⟩;rw [HA.out])
     | (go_at_call 65;refine (nN g 0 cap2 x y z _ c0 c1 c2).mono ?_;rintro e w4 ⟨rfl,b4⟩;have r0:∀ i,i<5->w4.frozen? (aq w.heap.size i)=false:=(fun i hi=>(b4.frozen (p:=(aq w.heap.size i)) (show w.heap.size<w2.heap.size by omega)).trans (q0 i hi));have r1:∀ i,i<5->w4.cell? (aq w.heap.size i)=some (iv 0):=(fun i hi=>(b4.cell (p:=(aq w.heap.size i)) (show w.heap.size<w2.heap.size by omega)).trans (q1 i hi))))
    have bw4:Below w.heap.size w w4:=bw.trans (b4.mono uO)
    refine uK (v:=.tuple #[.agg #[iv 2,iv x,iv y,iv 0,iv z],iv 0]) (by simp [results,Tryz.results42,go_sem,r1]) rfl ⟨2,x,y,0,z,0,rfl,HU.out,?_⟩
    exact qO bw4 (uA _)
   ·have HU:Hid (UN (2 :: tl) 0 0 0 0 0 2):=Dc (ms:=[x,y,z]) rfl htl (by simpa using hall)
    have HA:Hid ([(x:Int),(y:Int),(z:Int)].all yU=false):=by unfold Hid;simpa using hall
    clear hans b2 htl hall
    go_wp2_with (go_at_call 57;refine (jV g cap2 x y z _ c0 c1 c2).mono ?_;rintro e w3 ⟨rfl,rfl⟩;rw [HA.out])
    refine uK (v:=.tuple #[.agg #[iv 0,iv 0,iv 0,iv 0,iv 0],iv 2]) (by simp [results,Tryz.results42,go_sem,q1]) rfl ⟨0,0,0,0,0,2,rfl,HU.out,?_⟩
    exact qO bw (uA _)
theorem pB (b off:Nat) (w:World) (h:qJ w (some (aq b off)) 1 1 [2]) :
 Ca 42 #[.slice (some (aq b off)) 1 1] w fun e w'=>∃ k t c u o err,e=.returned (.tuple #[.agg #[iv k,iv t,iv c,iv u,iv o],iv err])/\UN (2 :: []) k t c u o err/\Below w.heap.size w w':=by
 obtain ⟨_,_,_,hc0,HT⟩:=vW h
 have hbw:b<w.heap.size:=uC w _ hc0
 have HT':Hid (qJ w (some (aq b off)) 0 0 []):=HT
 clear HT h
 go_enter Tryz.func42,Tryz.ntmps42
 go_wp2_with (go_at_call 63;refine (dB 0 0 0 0 _).mono ?_;rintro e w1 ⟨rfl,rfl⟩)
 refine (xO _ _ _ [] _ (qM HT'.out bL)).mono ?_
 rintro e w2 ⟨v,ok,rfl,hans,b2⟩
 have bw:Below w.heap.size w w2:=uL bL (b2.mono uS)
 have s2:w.heap.size+2<w2.heap.size:=by have:=b2.size;simp at this;omega
 have q0:∀ i,i<5->w2.frozen? (aq w.heap.size i)=false:=fun i hi=>(b2.frozen (p:=(aq w.heap.size i)) uS).trans uU
 have q1:∀ i,i<5->w2.cell? (aq w.heap.size i)=some (iv 0):=fun i hi=>(b2.cell (p:=(aq w.heap.size i)) uS).trans (by match i,hi with
  | 0,_=>simp [go_sem]
  | 1,_=>simp [go_sem]
  | 2,_=>simp [go_sem]
  | 3,_=>simp [go_sem]
  | 4,_=>simp [go_sem])
 cases ok with
 | false =>
   have HU:Hid (UN (2 :: []) 0 0 0 0 0 2):=Qg rfl (hans.2 rfl)
   clear hans b2
   go_wp2
   refine uK (v:=.tuple #[.agg #[iv 0,iv 0,iv 0,iv 0,iv 0],iv 2]) (by simp [results,Tryz.results42,go_sem,q1]) rfl ⟨0,0,0,0,0,2,rfl,HU.out,?_⟩
   exact qO bw (uA _)
 | true =>
   obtain ⟨x,y,z,g,cap2,htl,_⟩:=wT hans
   have:=dZ x
   have:=congrArg List.length htl
   simp [yZ] at this
   omega
theorem Pe (b off len cap:Nat) (tl:List Int) (w:World) (h:qJ w (some (aq b off)) len cap (2 :: tl)) :
 Ca 42 #[.slice (some (aq b off)) len cap] w fun e w'=>∃ k t c u o err,e=.returned (.tuple #[.agg #[iv k,iv t,iv c,iv u,iv o],iv err])/\UN (2 :: tl) k t c u o err/\Below w.heap.size w w':=by
 by_cases hc1:cap=1
 ·subst hc1
  have h1:=h.1
  have h2:=h.2.1
  simp at h1
  have hl:len=1:=uO
  subst hl
  have ht:tl=[]:=List.eq_nil_of_length_eq_zero uO
  subst ht
  exact pB b off w h
 ·exact Yg b off len cap tl w hc1 h
theorem Yw (b off len cap:Nat) (tl:List Int) (w:World) (hc1:¬ cap=1) (h:qJ w (some (aq b off)) len cap (3 :: tl)) :
 Ca 42 #[.slice (some (aq b off)) len cap] w fun e w'=>∃ k t c u o err,e=.returned (.tuple #[.agg #[iv k,iv t,iv c,iv u,iv o],iv err])/\UN (3 :: tl) k t c u o err/\Below w.heap.size w w':=by
 obtain ⟨hl,hlc,hcap,hc0,HT⟩:=vW h
 have hbw:b<w.heap.size:=uC w _ hc0
 have hne:((len:Int)==0)=false:=by simp;omega
 have hpos:(0:Int)<(len:Int):=uO
 have hpos1:(1:Int)<=(len:Int):=uO
 rw [uP hc1] at HT
 have HT':Hid (qJ w (some (aq b (off+1))) (len - 1) (cap - 1) tl):=HT
 clear HT h
 go_enter Tryz.func42,Tryz.ntmps42
 go_wp2_with (go_at_call 63;refine (oZ 0 0 0 0 _).mono ?_;rintro e w1 ⟨rfl,rfl⟩)
 refine (xO _ _ _ tl _ (qM HT'.out bL)).mono ?_
 rintro e w2 ⟨v,ok,rfl,hans,b2⟩
 have bw:Below w.heap.size w w2:=uL bL (b2.mono uS)
 have s2:w.heap.size+2<w2.heap.size:=by have:=b2.size;simp at this;omega
 have q0:∀ i,i<5->w2.frozen? (aq w.heap.size i)=false:=fun i hi=>(b2.frozen (p:=(aq w.heap.size i)) uS).trans uU
 have q1:∀ i,i<5->w2.cell? (aq w.heap.size i)=some (iv 0):=fun i hi=>(b2.cell (p:=(aq w.heap.size i)) uS).trans (by match i,hi with
  | 0,_=>simp [go_sem]
  | 1,_=>simp [go_sem]
  | 2,_=>simp [go_sem]
  | 3,_=>simp [go_sem]
  | 4,_=>simp [go_sem])
 cases ok with
 | false =>
   have HU:Hid (UN (3 :: tl) 0 0 0 0 0 2):=Qg rfl (hans.2 rfl)
   clear hans b2
   go_wp2
   refine uK (v:=.tuple #[.agg #[iv 0,iv 0,iv 0,iv 0,iv 0],iv 2]) (by simp [results,Tryz.results42,go_sem,q1]) rfl ⟨0,0,0,0,0,2,rfl,HU.out,?_⟩
   exact qO bw (uA _)
 | true =>
   obtain ⟨x,y,z,g,cap2,htl,rfl,hg0,hg1,c0,c1,c2⟩:=wT hans
   by_cases hall:[(x:Int),(y:Int),(z:Int)].all yU=true
   ·have HU:Hid (UN (3 :: tl) 3 x y 0 z 0):=Eg htl hall
    have HA:Hid ([(x:Int),(y:Int),(z:Int)].all yU=true):=hall
    clear hans b2 htl hall
    go_wp2_with (first
     | (go_at_call 57;refine (jV g cap2 x y z _ c0 c1 c2).mono ?_;rintro e w3 ⟨rfl,rfl⟩;rw [HA.out])
     | (go_at_call 65;refine (nJ g 0 cap2 x y z _ c0 c1 c2).mono ?_;rintro e w4 ⟨rfl,b4⟩;have r0:∀ i,i<5->w4.frozen? (aq w.heap.size i)=false:=(fun i hi=>(b4.frozen (p:=(aq w.heap.size i)) (show w.heap.size<w2.heap.size by omega)).trans (q0 i hi));have r1:∀ i,i<5->w4.cell? (aq w.heap.size i)=some (iv 0):=(fun i hi=>(b4.cell (p:=(aq w.heap.size i)) (show w.heap.size<w2.heap.size by omega)).trans (q1 i hi))))
    have bw4:Below w.heap.size w w4:=bw.trans (b4.mono uO)
    refine uK (v:=.tuple #[.agg #[iv 3,iv x,iv y,iv 0,iv z],iv 0]) (by simp [results,Tryz.results42,go_sem,r1]) rfl ⟨3,x,y,0,z,0,rfl,HU.out,?_⟩
    exact qO bw4 (uA _)
   ·have HU:Hid (UN (3 :: tl) 0 0 0 0 0 2):=Dc (ms:=[x,y,z]) rfl htl (by simpa using hall)
    have HA:Hid ([(x:Int),(y:Int),(z:Int)].all yU=false):=by unfold Hid;simpa using hall
    clear hans b2 htl hall
    go_wp2_with (go_at_call 57;refine (jV g cap2 x y z _ c0 c1 c2).mono ?_;rintro e w3 ⟨rfl,rfl⟩;rw [HA.out])
    refine uK (v:=.tuple #[.agg #[iv 0,iv 0,iv 0,iv 0,iv 0],iv 2]) (by simp [results,Tryz.results42,go_sem,q1]) rfl ⟨0,0,0,0,0,2,rfl,HU.out,?_⟩
    exact qO bw (uA _)
theorem pL (b off:Nat) (w:World) (h:qJ w (some (aq b off)) 1 1 [3]) :
 Ca 42 #[.slice (some (aq b off)) 1 1] w fun e w'=>∃ k t c u o err,e=.returned (.tuple #[.agg #[iv k,iv t,iv c,iv u,iv o],iv err])/\UN (3 :: []) k t c u o err/\Below w.heap.size w w':=by
 obtain ⟨_,_,_,hc0,HT⟩:=vW h
 have hbw:b<w.heap.size:=uC w _ hc0
 have HT':Hid (qJ w (some (aq b off)) 0 0 []):=HT
 clear HT h
 go_enter Tryz.func42,Tryz.ntmps42
 go_wp2_with (go_at_call 63;refine (oZ 0 0 0 0 _).mono ?_;rintro e w1 ⟨rfl,rfl⟩)
 refine (xO _ _ _ [] _ (qM HT'.out bL)).mono ?_
 rintro e w2 ⟨v,ok,rfl,hans,b2⟩
 have bw:Below w.heap.size w w2:=uL bL (b2.mono uS)
 have s2:w.heap.size+2<w2.heap.size:=by have:=b2.size;simp at this;omega
 have q0:∀ i,i<5->w2.frozen? (aq w.heap.size i)=false:=fun i hi=>(b2.frozen (p:=(aq w.heap.size i)) uS).trans uU
 have q1:∀ i,i<5->w2.cell? (aq w.heap.size i)=some (iv 0):=fun i hi=>(b2.cell (p:=(aq w.heap.size i)) uS).trans (by match i,hi with
  | 0,_=>simp [go_sem]
  | 1,_=>simp [go_sem]
  | 2,_=>simp [go_sem]
  | 3,_=>simp [go_sem]
  | 4,_=>simp [go_sem])
 cases ok with
 | false =>
   have HU:Hid (UN (3 :: []) 0 0 0 0 0 2):=Qg rfl (hans.2 rfl)
   clear hans b2
   go_wp2
   refine uK (v:=.tuple #[.agg #[iv 0,iv 0,iv 0,iv 0,iv 0],iv 2]) (by simp [results,Tryz.results42,go_sem,q1]) rfl ⟨0,0,0,0,0,2,rfl,HU.out,?_⟩
   exact qO bw (uA _)
 | true =>
   obtain ⟨x,y,z,g,cap2,htl,_⟩:=wT hans
   have:=dZ x
   have:=congrArg List.length htl
   simp [yZ] at this
   omega
theorem Cy (b off len cap:Nat) (tl:List Int) (w:World) (h:qJ w (some (aq b off)) len cap (3 :: tl)) :
 Ca 42 #[.slice (some (aq b off)) len cap] w fun e w'=>∃ k t c u o err,e=.returned (.tuple #[.agg #[iv k,iv t,iv c,iv u,iv o],iv err])/\UN (3 :: tl) k t c u o err/\Below w.heap.size w w':=by
 by_cases hc1:cap=1
 ·subst hc1
  have h1:=h.1
  have h2:=h.2.1
  simp at h1
  have hl:len=1:=uO
  subst hl
  have ht:tl=[]:=List.eq_nil_of_length_eq_zero uO
  subst ht
  exact pL b off w h
 ·exact Yw b off len cap tl w hc1 h
