import Derived.Test.YtfhncfghblkgeabGreatL11
set_option maxRecDepth 100000
set_option maxHeartbeats 2000000
namespace Go.Proofs.YtfhncfghblkgeabGreat
open Go.RowKit
def zC (w w':World) (x o:Nat) (C:Array Value) (T:TypeId) (s':Int) (t:Tr) (L:List Ent):Prop :=
 ∃ t':Tr,w'.heap[x]?=some (.cells ((C.setIfInBounds (o+1) (iv s')).setIfInBounds o (.pointer t'.addr)) T (0,0))/\t'.at w'/\t'.toL=L/\Same (fun b=>b=x) w w'/\∀ n,t'.has n->t.has n\/w.heap.size<=n
theorem Tr.at_set {w:World} {t:Tr} {x i:Nat} {C:Array Value} {T:TypeId} {v:Value} (h:t.at w) (hx:w.heap[x]?=some (.cells C T)) (hT:T≠178):t.at (w.sc x i v) :=
 t.at_keep h (fun n hn=>uG _ (aq x i) _ _ (fun e=>by
  obtain ⟨C',hC⟩:=t.at_type h hn
  have e':n=x:=e
  rw [e',hx] at hC
  simp only [Option.some.injEq,Obj.cells.injEq] at hC
  exact hT hC.2.1))
theorem nO (x o:Nat) (C:Array Value) (T:TypeId) (hT:T≠178) (t:Tr) (s k1 k2 v:Int) (w:World) (hx:w.heap[x]?=some (.cells C T)) (h0:C[o]?=some (.pointer t.addr)) (h1:C[o+1]?=some (iv s)) (ht:t.at w) (hs:srt t.toL) (hn:yO (k1,k2) t.toL=none) (hsz:0<=s/\s<9223372036854775807) :
 Ca 99 #[pt x o,.agg #[iv k1,iv k2],iv v] w fun e w'=>e=.returned (.tuple #[])/\zC w w' x o C T (s+1) t (zD (k1,k2) v t.toL):=by
 have k0:w.cell? (aq x o)=some (.pointer t.addr):=by rw [uI hx];exact h0
 have k1':w.cell? (aq x (o+1))=some (iv s):=by rw [uI hx];exact h1
 have hxw:x<w.heap.size:=(blt hx)
 have HG:Hid (∀ W,Below w.heap.size w W->Ca 62 #[pt x o,.agg #[iv k1,iv k2]] W fun e w'=>e=.returned (.tuple #[iv 0,.bool false])/\Below W.heap.size W w'):=by
  intro W hW
  have:=xE x o t k1 k2 W ((hW.cell (p:=(aq x o)) hxw).trans k0) (t.at_below ht hW) hs
  rw [hn] at this
  exact this
 have HX:Hid (w.heap[x]?=some (.cells C T)/\t.at w):=⟨hx,ht⟩
 clear hx h0 h1 ht hn
 go_enter Tryz.func99,Tryz.ntmps99
 go_wp2_with fail
 refine (HG.out _ bL).mono ?_
 rintro e w1 ⟨rfl,b1⟩
 have hb1:Bl w w1:=uL (show Below w.heap.size w _ from bL) (b1.mono vS)
 have hx1:w1.heap[x]?=some (.cells C T):=(hb1.block x hxw).trans HX.out.1
 have hk1:w1.heap[w.heap.size]?=some (.cells #[iv k1,iv k2] 136):=(b1.block _ vS).trans (uF _ _)
 have c0:=(hb1.cell (p:=(aq x o)) hxw).trans k0
 have c1:=(hb1.cell (p:=(aq x (o+1))) hxw).trans k1'
 have f0:=qA hx1 o
 have f1:=qA hx1 (o+1)
 obtain ⟨q0,q1⟩:=kP hk1
 have hne:w.heap.size≠x:=uO
 have ht0:t.at (w1.sc x (o+1) (iv (s+1))):=t.at_set (t.at_below HX.out.2 hb1) hx1 hT
 have hx0:(w1.sc x (o+1) (iv (s+1))).heap[x]?=some (.cells (C.setIfInBounds (o+1) (iv (s+1))) T (0,0)):=uH hx1 _
 have hsame:Same (fun b=>b=x) w (w1.sc x (o+1) (iv (s+1))):=⟨hb1.os,hb1.tape,hb1.output,by simpa [World.setCell] using hb1.size,fun k hk hne=>(uG _ (aq x (o+1)) _ _ hne).trans (hb1.block k hk)⟩
 have hxs:x<(w1.sc x (o+1) (iv (s+1))).heap.size:=(blt hx0)
 have HW:Hid (jW 131 #[.pointer t.addr,.agg #[iv k1,iv k2,iv v]] (w1.sc x (o+1) (iv (s+1))) (w1.sc x (o+1) (iv (s+1))) (fun n=>t.has n) (zD (k1,k2) v t.toL)) :=
  xN (uM _ _) (fun W hW=>(cV k1 k2 v t W (t.at_below ht0 hW) hs).mono (by rintro e w' ⟨t',rfl,h⟩;exact ⟨t',rfl,vF h (fun n hn=>.inl hn)⟩)) rfl
 have HQ:Hid (∀ w2 t',mk (w1.sc x (o+1) (iv (s+1))) w2 (fun n=>t.has n) (zD (k1,k2) v t.toL) t'->zC w (w2.sc x o (.pointer t'.addr)) x o C T (s+1) t (zD (k1,k2) v t.toL)/\w2.frozen? (aq x o)=false/\w2.cell? (aq x o)=some (.pointer t.addr)):=by
  rintro w2 t' ⟨m1,m2,m3,m4⟩
  have hx2:=(m3.block x hxs).trans hx0
  refine ⟨⟨t',uH hx2 _,t'.at_set m1 hx2 hT,m2,?_,fun n hn=>(m4 n hn).imp id (uX hsame.size)⟩,qA hx2 o,?_⟩
  ·refine Same.trans hsame (o2:=fun b=>b=x) ⟨m3.os,m3.tape,m3.output,by simpa [World.setCell] using m3.size,fun k hk hne=>(uG _ (aq x o) _ _ hne).trans (m3.block k hk)⟩ (fun k _ e=>e.elim id id)
  ·rw [m3.cell (p:=(aq x o)) hxs,uI hx0]
   have:C[o]?=some (.pointer t.addr):=by have:=c0;rw [uI hx1] at this;exact this
   simpa [vE] using this
 clear k0 k1' b1 ht0 hx0 hsame hxs HG hs
 go_wp2_with fail
 go_region_with (first|(go_at_call 131;refine (HW.out _ bL).mono ?_;rintro e w2 ⟨t',rfl,m,b⟩;obtain ⟨HA,fz,cz⟩:=HQ.out _ _ m))
 all_goals (go_end0;exact ⟨rfl,HA⟩)
theorem vU (x o:Nat) (C:Array Value) (T:TypeId) (hT:T≠178) (t:Tr) (s k1 k2 u:Int) (w:World) (hx:w.heap[x]?=some (.cells C T)) (h0:C[o]?=some (.pointer t.addr)) (h1:C[o+1]?=some (iv s)) (ht:t.at w) (hs:srt t.toL) (hn:yO (k1,k2) t.toL=some u) (hsz:1<=s/\s<9223372036854775807) :
 Ca 137 #[pt x o,.agg #[iv k1,iv k2]] w fun e w'=>e=.returned (.tuple #[])/\zC w w' x o C T (s - 1) t (xC (k1,k2) t.toL):=by
 have k0:w.cell? (aq x o)=some (.pointer t.addr):=by rw [uI hx];exact h0
 have k1':w.cell? (aq x (o+1))=some (iv s):=by rw [uI hx];exact h1
 have hxw:x<w.heap.size:=(blt hx)
 have HG:Hid (∀ W,Below w.heap.size w W->Ca 62 #[pt x o,.agg #[iv k1,iv k2]] W fun e w'=>e=.returned (.tuple #[iv u,.bool true])/\Below W.heap.size W w'):=by
  intro W hW
  have:=xE x o t k1 k2 W ((hW.cell (p:=(aq x o)) hxw).trans k0) (t.at_below ht hW) hs
  rw [hn] at this
  exact this
 have HX:Hid (w.heap[x]?=some (.cells C T)/\t.at w):=⟨hx,ht⟩
 clear hx h0 h1 ht hn
 go_enter Tryz.func137,Tryz.ntmps137
 go_wp2_with fail
 refine (HG.out _ bL).mono ?_
 rintro e w1 ⟨rfl,b1⟩
 have hb1:Bl w w1:=uL (show Below w.heap.size w _ from bL) (b1.mono vS)
 have hx1:w1.heap[x]?=some (.cells C T):=(hb1.block x hxw).trans HX.out.1
 have hk1:w1.heap[w.heap.size]?=some (.cells #[iv k1,iv k2] 136):=(b1.block _ vS).trans (uF _ _)
 have c0:=(hb1.cell (p:=(aq x o)) hxw).trans k0
 have c1:=(hb1.cell (p:=(aq x (o+1))) hxw).trans k1'
 have f0:=qA hx1 o
 have f1:=qA hx1 (o+1)
 obtain ⟨q0,q1⟩:=kP hk1
 have hne:w.heap.size≠x:=uO
 have ht0:t.at (w1.sc x (o+1) (iv (s - 1))):=t.at_set (t.at_below HX.out.2 hb1) hx1 hT
 have hx0:(w1.sc x (o+1) (iv (s - 1))).heap[x]?=some (.cells (C.setIfInBounds (o+1) (iv (s - 1))) T (0,0)):=uH hx1 _
 have hsame:Same (fun b=>b=x) w (w1.sc x (o+1) (iv (s - 1))):=⟨hb1.os,hb1.tape,hb1.output,by simpa [World.setCell] using hb1.size,fun k hk hne=>(uG _ (aq x (o+1)) _ _ hne).trans (hb1.block k hk)⟩
 have hxs:x<(w1.sc x (o+1) (iv (s - 1))).heap.size:=(blt hx0)
 have HW:Hid (jW 163 #[.pointer t.addr,.agg #[iv k1,iv k2]] (w1.sc x (o+1) (iv (s - 1))) (w1.sc x (o+1) (iv (s - 1))) (fun n=>t.has n) (xC (k1,k2) t.toL)) :=
  xN (uM _ _) (fun W hW=>(gN t k1 k2 W (t.at_below ht0 hW) hs).mono (by rintro e w' ⟨t',rfl,h⟩;exact ⟨t',rfl,vF h (fun n hn=>.inl hn)⟩)) rfl
 have HQ:Hid (∀ w2 t',mk (w1.sc x (o+1) (iv (s - 1))) w2 (fun n=>t.has n) (xC (k1,k2) t.toL) t'->zC w (w2.sc x o (.pointer t'.addr)) x o C T (s - 1) t (xC (k1,k2) t.toL)/\w2.frozen? (aq x o)=false/\w2.cell? (aq x o)=some (.pointer t.addr)):=by
  rintro w2 t' ⟨m1,m2,m3,m4⟩
  have hx2:=(m3.block x hxs).trans hx0
  refine ⟨⟨t',uH hx2 _,t'.at_set m1 hx2 hT,m2,?_,fun n hn=>(m4 n hn).imp id (uX hsame.size)⟩,qA hx2 o,?_⟩
  ·refine Same.trans hsame (o2:=fun b=>b=x) ⟨m3.os,m3.tape,m3.output,by simpa [World.setCell] using m3.size,fun k hk hne=>(uG _ (aq x o) _ _ hne).trans (m3.block k hk)⟩ (fun k _ e=>e.elim id id)
  ·rw [m3.cell (p:=(aq x o)) hxs,uI hx0]
   have:C[o]?=some (.pointer t.addr):=by have:=c0;rw [uI hx1] at this;exact this
   simpa [vE] using this
 clear k0 k1' b1 ht0 hx0 hsame hxs HG hs
 go_wp2_with fail
 go_region_with (first|(go_at_call 163;refine (HW.out _ bL).mono ?_;rintro e w2 ⟨t',rfl,m,b⟩;obtain ⟨HA,fz,cz⟩:=HQ.out _ _ m))
 all_goals (go_end0;exact ⟨rfl,HA⟩)
theorem Zh (x o:Nat) (s:Int) (w:World) (h:w.cell? (aq x (o+1))=some (iv s)) :
 Ca 61 #[pt x o] w fun e w'=>e=.returned (iv s)/\Below w.heap.size w w':=by
 go_enter Tryz.func61,Tryz.ntmps61
 go_wp2
 go_ret
 exact ⟨rfl,bL⟩
theorem iH (x o:Nat) (t:Tr) (w:World) (h0:w.cell? (aq x o)=some (.pointer t.addr)) (ht:t.at w) :
 Ca 100 #[pt x o] w fun e w'=>e=.returned (.tuple #[.agg #[iv (dM t).1.1,iv (dM t).1.2,iv (dM t).2],.bool (decide (t.toL≠[]))])/\Below w.heap.size w w':=by
 have hxw:x<w.heap.size:=uC w _ h0
 cases t with
 | leaf =>
   simp only [Tr.addr_leaf] at h0
   go_enter Tryz.func100,Tryz.ntmps100
   go_wp2
   exact uK (v:=.tuple #[.agg #[iv 0,iv 0,iv 0],.bool false]) (by simp [results,Tryz.results100,go_sem]) rfl ⟨by simp [dM,Tr.toL],bL⟩
 | node p l k v h r =>
   have HF:Hid (∀ W,Below w.heap.size w W->Ca 132 #[pt p 0] W fun e w'=>e=.returned (.agg #[iv (dM (.node p l k v h r)).1.1,iv (dM (.node p l k v h r)).1.2,iv (dM (.node p l k v h r)).2])/\Below W.heap.size W w'):=fun W hW=>iM p l r k v h W (Tr.at_below ht hW)
   simp only [Tr.addr_node] at h0
   clear ht
   have hd:decide ((Tr.node p l k v h r).toL≠[])=true:=by simp [Tr.toL]
   rw [hd]
   clear hd
   generalize dM (.node p l k v h r)=F at HF
   obtain ⟨⟨a1,a2⟩,av⟩:=F
   simp only at HF
   go_enter Tryz.func100,Tryz.ntmps100
   go_wp2_with fail
   refine (HF.out _ bL).mono ?_
   rintro e w1 ⟨rfl,b1⟩
   have n0:w1.heap[w.heap.size]?=some (.cells #[iv 0,iv 0,iv 0] 176):=(b1.block _ vS).trans (uF w _)
   obtain ⟨r0,r1,r2⟩:=jK n0
   have f0:=qA n0 0
   have f1:=qA n0 1
   have f2:=qA n0 2
   have w01:Bl w w1:=((uM _ _).alloc (uA _) _).trans (b1.mono vS)
   go_wp2
   refine uK (v:=.tuple #[.agg #[iv a1,iv a2,iv av],.bool true]) (by simp [results,Tryz.results100,go_sem,r0,r1,r2]) rfl ⟨rfl,?_⟩
   exact ((w01.setCell (p:=(aq w.heap.size 0)) (uA _) _).setCell (p:=(aq w.heap.size 1)) (uA _) _).setCell (p:=(aq w.heap.size 2)) (uA _) _
def ZU (p:Int × Int):Ent:=((p.2,0),p.1)
def aA (p:Int × Int):Ent:=(p,0)
def QJ (w:World) (x:Nat) (own:Nat->Prop) (now:Int) (L:List (Int × Int)):Prop :=
 ∃ ti tt:Tr,w.heap[x]?=some (.cells #[iv now,.pointer ti.addr,iv L.length,.pointer tt.addr,iv L.length] 128)/\(ti.at w/\tt.at w)/\(srt ti.toL/\srt tt.toL)/\(ti.toL.Perm (L.map ZU)/\tt.toL.Perm (L.map aA))/\xB L/\(∀ k,k=x\/ti.has k\/tt.has k->own k)/\∀ k,own k->k<w.heap.size
theorem dI {w:World} {x:Nat} {own:Nat->Prop} {now:Int} {L:List (Int × Int)} (h:QJ w x own now L):∀ k,own k->k<w.heap.size:=by
 obtain ⟨_,_,_,_,_,_,_,_,h⟩:=h
 exact h
theorem zR {w w':World} {x:Nat} {own:Nat->Prop} {now:Int} {L:List (Int × Int)} (h:QJ w x own now L) (hz:w.heap.size<=w'.heap.size) (hk:∀ k,own k->w'.heap[k]?=w.heap[k]?):QJ w' x own now L:=by
 obtain ⟨ti,tt,h1,h2,h3,h4,h5,h6,h7⟩:=h
 exact ⟨ti,tt,(hk x (h6 x (.inl rfl))).trans h1,⟨ti.at_keep h2.1 (fun n hn=>hk n (h6 n (.inr (.inl hn)))),tt.at_keep h2.2 (fun n hn=>hk n (h6 n (.inr (.inr hn))))⟩,h3,h4,h5,h6,fun k hk'=>uB (h7 k hk') hz⟩
theorem Tr.at_same {w w':World} {t:Tr} {x:Nat} {C:Array Value} {T:TypeId} (h:t.at w) (hs:Same (fun b=>b=x) w w') (hx:w.heap[x]?=some (.cells C T)) (hT:T≠178):t.at w' :=
 t.at_keep h (fun n hn=>hs.block n (t.at_lt h hn) (fun e=>by
  obtain ⟨C',hC⟩:=t.at_type h hn
  have e':n=x:=e
  rw [e',hx] at hC
  simp only [Option.some.injEq,Obj.cells.injEq] at hC
  exact hT hC.2.1))
theorem tL {l:List Ent} {L:List (Int × Int)} {id:Int} (hp:l.Perm (L.map ZU)):yO (id,0) l=none↔¬ 0<=gY L id:=by
 rw [vV,mA]
 constructor
 ·rintro h ⟨p,hm,rfl⟩
  exact h (ZU p) (hp.mem_iff.2 (List.mem_map_of_mem hm)) rfl
 ·intro h e he hk
  obtain ⟨p,hm,rfl⟩:=List.mem_map.1 (hp.mem_iff.1 he)
  exact h ⟨p,hm,by simpa [ZU] using hk⟩
theorem Pf {l:List Ent} {L:List (Int × Int)} {id a:Int} (hp:l.Perm (L.map ZU)) (h:yO (id,0) l=some a):(a,id)∈L:=by
 obtain ⟨p,hm,he⟩:=List.mem_map.1 (hp.mem_iff.1 (gG h))
 simp only [ZU,Prod.mk.injEq,and_true] at he
 obtain ⟨rfl,rfl⟩:=he
 exact hm
theorem pR {l:List Ent} {L:List (Int × Int)} {id a:Int} (hp:l.Perm (L.map aA)) (h:¬ 0<=gY L id):yO (a,id) l=none:=by
 rw [vV]
 intro e he hk
 obtain ⟨p,hm,rfl⟩:=List.mem_map.1 (hp.mem_iff.1 he)
 exact h (mA.2 ⟨p,hm,by simp only [aA] at hk;rw [hk]⟩)
theorem Gd {l:List Ent} {L:List (Int × Int)} {id a:Int} (hp:l.Perm (L.map aA)) (h:(a,id)∈L):∃ u,yO (a,id) l=some u:=by
 cases hg:yO (a,id) l with
 | some u=>exact ⟨u,rfl⟩
 | none=>exact absurd rfl (vV.1 hg (aA (a,id)) (hp.mem_iff.2 (List.mem_map_of_mem h)))
theorem Rc {l:List Ent} {L:List (Int × Int)} {id a:Int} (hp:l.Perm (L.map ZU)) (h:(a,id)∈L):∃ u,yO (id,0) l=some u:=by
 cases hg:yO (id,0) l with
 | some u=>exact ⟨u,rfl⟩
 | none=>exact absurd rfl (vV.1 hg (ZU (a,id)) (hp.mem_iff.2 (List.mem_map_of_mem h)))
theorem Qt {l:List Ent} {L:List (Int × Int)} {f:Int × Int->Ent} {p:Int × Int} {k:Int × Int} {v:Int} (hp:l.Perm (L.map f)) (hf:f p=(k,v)) (hn:yO k l=none):(zD k v l).Perm ((L++[p]).map f):=by
 rw [List.map_append,List.map_cons,List.map_nil,hf]
 exact (Og hn).trans ((List.Perm.cons _ hp).trans (List.perm_append_comm (l₁:=[(k,v)])))
theorem Pu {L:List (Int × Int)} (h:xB L) {p q:Int × Int} (hp:p∈L) (hq:q∈L) (e:p.2=q.2):p=q:=by
 unfold xB at h
 induction L with
 | nil=>cases hp
 | cons x xs ih =>
   rw [List.map_cons,List.nodup_cons] at h
   rcases List.mem_cons.1 hp with rfl|hp'<;>rcases List.mem_cons.1 hq with rfl|hq'
   ·rfl
   ·exact absurd (List.mem_map.2 ⟨q,hq',e.symm⟩) h.1
   ·exact absurd (List.mem_map.2 ⟨p,hp',e⟩) h.1
   ·exact ih h.2 hp' hq'
theorem Pt {l:List Ent} {L:List (Int × Int)} {id:Int} (hp:l.Perm (L.map ZU)):(xC (id,0) l).Perm ((L.filter (fun p=>p.2 != id)).map ZU):=by
 unfold xC
 refine (hp.filter _).trans ?_
 rw [List.filter_map]
 have:(fun e:Ent=>e.1 != (id,0)) ∘ ZU=fun p:Int × Int=>p.2 != id:=by
  funext p
  show ((p.2,(0:Int)) != (id,0))=(p.2 != id)
  rw [Bool.eq_iff_iff]
  simp
 rw [this]
theorem Be {l:List Ent} {L:List (Int × Int)} {id a:Int} (hp:l.Perm (L.map aA)) (ho:xB L) (hm:(a,id)∈L):(xC (a,id) l).Perm ((L.filter (fun p=>p.2 != id)).map aA):=by
 unfold xC
 refine (hp.filter _).trans ?_
 rw [List.filter_map]
 have:L.filter ((fun e:Ent=>e.1 != (a,id)) ∘ aA)=L.filter (fun p:Int × Int=>p.2 != id):=by
  apply List.filter_congr
  intro p hp'
  show (p != (a,id))=(p.2 != id)
  rw [Bool.eq_iff_iff,bne_iff_ne,bne_iff_ne]
  exact ⟨fun h e=>h (Pu ho hp' hm e),fun h e=>h (by rw [e])⟩
 rw [this]
theorem bI {L:List (Int × Int)} {id a:Int} (ho:xB L) (hm:(a,id)∈L):(L.filter (fun p=>p.2 != id)).length+1=L.length:=by
 induction L with
 | nil=>cases hm
 | cons x xs ih =>
   have ho':=ho
   unfold xB at ho
   rw [List.map_cons,List.nodup_cons] at ho
   rcases List.mem_cons.1 hm with rfl|hm'
   ·rw [List.filter_cons_of_neg vS,zV]
    ·rfl
    ·intro p hp
     have:p.2≠id:=fun e=>ho.1 (List.mem_map.2 ⟨p,hp,e⟩)
     simpa using this
   ·have:x.2≠id:=fun e=>ho.1 (List.mem_map.2 ⟨(a,id),hm',e.symm⟩)
    rw [List.filter_cons_of_pos (by simpa using this),List.length_cons,ih ho.2 hm',List.length_cons]
theorem Vd {t:Tr} {L:List (Int × Int)} (hp:t.toL.Perm (L.map aA)) (hs:srt t.toL):zB L=decide (t.toL≠[])/\qN L=(dM t).1/\(t.toL≠[]->(dM t).1∈L):=by
 by_cases h0:t.toL=[]
 ·have hL:L=[]:=by
   rw [h0] at hp
   have:=hp.length_eq
   simp at this
   exact List.length_eq_zero_iff.1 this.symm
  subst hL
  simp [eQ,dM,h0]
 ·obtain ⟨l,hx⟩:=Qn h0
  have hm:(dM t).1∈L:=by
   have:dM t∈t.toL:=by rw [hx];simp
   obtain ⟨p,hm,he⟩:=List.mem_map.1 (hp.mem_iff.1 this)
   rw [← he]
   exact hm
  have hmin:∀ r∈L,¬ qR r (dM t).1=true:=by
   intro r hr
   have hr':aA r∈t.toL:=hp.mem_iff.2 (List.mem_map_of_mem hr)
   rw [hx] at hr' hs
   rcases List.mem_cons.1 hr' with e|hr'
   ·rw [← e,aA]
    simp [aG]
   ·have:=List.rel_of_pairwise_cons hs hr'
    simp only [aA] at this
    simp [kR this]
  have:=Jo (List.Perm.refl L) hm hmin
  exact ⟨by rw [this.1];simp [h0],this.2,fun _=>hm⟩
theorem eA {w W w':World} {x o:Nat} {C:Array Value} {T:TypeId} {s:Int} {t:Tr} {L:List Ent} (h:zC W w' x o C T s t L) (hb:Bl w W):zC w w' x o C T s t L:=by
 obtain ⟨t',h1,h2,h3,h4,h5⟩:=h
 exact ⟨t',h1,h2,h3,Same.trans (Same.of_below (own:=fun _=>False) hb) h4 (fun k _ e=>e.elim False.elim id),fun n hn=>(h5 n hn).imp id (uX hb.size)⟩
theorem wB {PW:World->Nat->(Nat->Prop)->Int->List (Int × Int)->Prop} {w W w':World} {x:Nat} {own:Nat->Prop} {now:Int} {L:List (Int × Int)} (h:oK PW W w' x own now L) (hb:Bl w W):oK PW w w' x own now L:=by
 obtain ⟨own',h1,h2,h3⟩:=h
 exact ⟨own',h1,Same.trans (Same.of_below (own:=fun _=>False) hb) h2 (fun k _ e=>e.elim False.elim id),fun k hk=>(h3 k hk).imp id (uX hb.size)⟩
theorem Pj {w w2 W w':World} {x:Nat} {own:Nat->Prop} {now s1 s2 n:Int} {ti ti' tt:Tr} {Lt:List Ent} {L':List (Int × Int)}
 (hown:∀ k,k=x\/ti.has k\/tt.has k->own k) (hlt:∀ k,own k->k<w.heap.size)
 (hx2:w2.heap[x]?=some (.cells #[iv now,.pointer ti'.addr,iv s1,.pointer tt.addr,iv n] 128)) (ht2:ti'.at w2) (hs2:Same (fun b=>b=x) w w2) (hh2:∀ k,ti'.has k->ti.has k\/w.heap.size<=k) (hb:Below w2.heap.size w2 W)
 (A2:zC W w' x 3 #[iv now,.pointer ti'.addr,iv s1,.pointer tt.addr,iv n] 128 s2 tt Lt)
 (e1:s1=L'.length) (e2:s2=L'.length) (so1:srt ti'.toL) (so2:srt Lt) (p1:ti'.toL.Perm (L'.map ZU)) (p2:Lt.Perm (L'.map aA)) (on:xB L'):oK QJ w w' x own now L':=by
 obtain ⟨tt',a1,a2,a3,a4,a5⟩:=A2
 have hsW:Same (fun b=>b=x) w W:=Same.trans hs2 (Same.of_below (own:=fun _=>False) hb) (fun k _ e=>e.elim id False.elim)
 have hs:Same (fun b=>b=x) w w':=Same.trans hsW a4 (fun k _ e=>e.elim id id)
 have hxW:=(hb.block x (blt hx2)).trans hx2
 have ht':ti'.at w':=Tr.at_same (ti'.at_below ht2 hb) a4 hxW vO
 subst e1 e2 a3
 refine ⟨fun k=>own k\/(w.heap.size<=k/\k<w'.heap.size),⟨ti',tt',by simpa using a1,⟨ht',a2⟩,⟨so1,so2⟩,⟨p1,p2⟩,on,?_,?_⟩,?_,fun k hk=>hk.imp id (fun h=>h.1)⟩
 ·rintro k (rfl|hk|hk)
  ·exact .inl (hown _ (.inl rfl))
  ·rcases hh2 k hk with h|h
   ·exact .inl (hown k (.inr (.inl h)))
   ·exact .inr ⟨h,ti'.at_lt ht' hk⟩
  ·rcases a5 k hk with h|h
   ·exact .inl (hown k (.inr (.inr h)))
   ·exact .inr ⟨uX hsW.size h,tt'.at_lt a2 hk⟩
 ·rintro k (h|h)
  ·exact uB (hlt k h) hs.size
  ·exact h.2
 ·exact ⟨hs.os,hs.tape,hs.output,hs.size,fun k hk hn=>hs.block k hk (fun e=>hn (hown k (.inl e)))⟩
theorem iR (id:Int) (w:World):Ca 111 #[iv id] w fun e w'=>e=.returned (.agg #[iv id,iv 0])/\Below w.heap.size w w':=by
 go_enter Tryz.func111,Tryz.ntmps111
 go_wp2
 exact uK (v:=.agg #[iv id,iv 0]) (by simp [results,Tryz.results111,go_sem]) rfl ⟨rfl,bL⟩
theorem iV (id a:Int) (w:World):Ca 112 #[iv id,iv a] w fun e w'=>e=.returned (.agg #[iv a,iv id])/\Below w.heap.size w w':=by
 go_enter Tryz.func112,Tryz.ntmps112
 go_wp2
 exact uK (v:=.agg #[iv a,iv id]) (by simp [results,Tryz.results112,go_sem]) rfl ⟨rfl,bL⟩
theorem Wz {w:World} {now:Int}:QJ (w.alloc (.cells #[iv now,.pointer none,iv 0,.pointer none,iv 0] 128)) w.heap.size (fun k=>k=w.heap.size) now [] :=
 ⟨.leaf,.leaf,uF _ _,⟨trivial,trivial⟩,⟨List.Pairwise.nil,List.Pairwise.nil⟩,⟨List.Perm.refl _,List.Perm.refl _⟩,by simp [xB],fun k hk=>hk.elim id (fun h=>h.elim False.elim False.elim),fun k hk=>by subst hk;simp⟩
theorem Ur (w:World) (now:Int):Ca 35 #[iv now] w fun e w'=>∃ x own,e=.returned (pt x 0)/\QJ w' x own now []/\(∀ k,own k->w.heap.size<=k)/\Below w.heap.size w w':=by
 have HN:Hid (QJ (w.alloc (.cells #[iv now,.pointer none,iv 0,.pointer none,iv 0] 128)) w.heap.size (fun k=>k=w.heap.size) now []):=Wz
 go_enter Tryz.func35,Tryz.ntmps35
 go_wp2
 go_ret
 exact ⟨_,_,rfl,HN.out,fun k hk=>Nat.le_of_eq hk.symm,bL⟩
theorem Lx (x:Nat) (id a:Int) (w:World) (Q1:World->Prop) (Q2:World->Prop)
 (HI:Hid (∀ W,Below w.heap.size w W->Ca 111 #[iv id] W fun e w'=>e=.returned (.agg #[iv id,iv 0])/\Below W.heap.size W w'))
 (HT:Hid (∀ W,Ca 112 #[iv id,iv a] W fun e w'=>e=.returned (.agg #[iv a,iv id])/\Below W.heap.size W w'))
 (HP1:Hid (∀ W,Below w.heap.size w W->Ca 137 #[pt x 1,.agg #[iv id,iv 0]] W fun e w'=>e=.returned (.tuple #[])/\Q1 w'))
 (HP2:Hid (∀ w2,Q1 w2->∀ W,Below w2.heap.size w2 W->Ca 137 #[pt x 3,.agg #[iv a,iv id]] W fun e w'=>e=.returned (.tuple #[])/\Q2 w')) :
 Ca 114 #[pt x 0,iv id,iv a] w fun e w'=>e=.returned (.tuple #[])/\Q2 w':=by
 go_enter Tryz.func114,Tryz.ntmps114
 go_wp2_with fail
 go_region_held3 (fun _=>True) (trivial) (first
  | (go_at_call 111;refine (HI.out _ bL).mono ?_;rintro e w1 ⟨rfl,b1⟩
     have hb1:Bl w w1:=uL (show Below w.heap.size w _ from bL) (b1.mono vS))
  | (go_at_call 137;refine (HP1.out _ bL).mono ?_;rintro e w2 ⟨rfl,q1⟩))
 go_wp2_with fail
 go_region_held3 (fun _=>True) (trivial) (first
  | (go_at_call 112;refine (HT.out _).mono ?_;rintro e w3 ⟨rfl,b3⟩
     have hb3:Bl w2 w3:=uL (show Below w2.heap.size w2 _ from bL) (b3.mono vS))
  | (go_at_call 137;refine (HP2.out _ q1 _ bL).mono ?_;rintro e w4 ⟨rfl,q2⟩))
 go_wp2
 go_end0
 exact ⟨rfl,q2⟩
theorem Oi {w:World} {x:Nat} {own:Nat->Prop} {now:Int} {L:List (Int × Int)} (id a:Int) (h:QJ w x own now L) (hm:(a,id)∈L) (hl:L.length * 16+16<=140737488351232) :
 Ca 114 #[pt x 0,iv id,iv a] w fun e w'=>e=.returned (.tuple #[])/\oK QJ w w' x own now (L.filter (fun p=>p.2 != id)):=by
 obtain ⟨ti,tt,h1,⟨h2,h2'⟩,⟨h3,h3'⟩,⟨h4,h4'⟩,h5,h6,h7⟩:=h
 have hxw:x<w.heap.size:=(blt h1)
 have hlen:=bI h5 hm
 obtain ⟨u,hu⟩:=Rc h4 hm
 obtain ⟨u',hu'⟩:=Gd h4' hm
 refine Lx x id a w (fun w2=>zC w w2 x 1 #[iv now,.pointer ti.addr,iv L.length,.pointer tt.addr,iv L.length] 128 ((L.length:Int) - 1) ti (xC (id,0) ti.toL)) _
  (fun W _=>iR id W) (fun W=>iV id a W) (fun W hb=>?_) (fun w2 A1 W hb=>?_)
 ·have hxW:=(hb.block x hxw).trans h1
  exact (vU x 1 _ _ vO ti L.length id 0 u W hxW rfl rfl (ti.at_below h2 hb) h3 hu uO).mono (by rintro e w' ⟨rfl,A⟩;exact ⟨rfl,eA A hb⟩)
 ·obtain ⟨ti',a1,a2,a3,a4,a5⟩:=A1
  have a1':w2.heap[x]?=some (.cells #[iv now,.pointer ti'.addr,iv ((L.length:Int) - 1),.pointer tt.addr,iv L.length] 128):=by simpa using a1
  have hxW:=(hb.block x (blt a1')).trans a1'
  refine (vU x 3 _ _ vO tt L.length a id u' W hxW rfl rfl (tt.at_below (Tr.at_same h2' a4 h1 vO) hb) h3' hu' uO).mono ?_
  rintro e w' ⟨rfl,A2⟩
  exact ⟨rfl,Pj h6 h7 a1' a2 a4 a5 hb A2 uO uO (a3▸aQ _ h3) (aQ _ h3') (a3▸Pt h4) (Be h4' h5 hm) (vZ _ h5)⟩
theorem rB {w:World} {R:Nat} {c0 c1 c2 c3 c4:Value} {T:TypeId} (h:w.heap[R]?=some (.cells #[c0,c1,c2,c3,c4] T)):w.cell? (aq R 0)=some c0:=cB h
theorem Wn (x:Nat) (now id a:Int) (w:World) (h0:w.cell? (aq x 0)=some (iv now)) (ha:a<=now) :
 Ca 79 #[pt x 0,iv id,iv a] w fun e w'=>e=.returned (iv 3)/\w=w':=by
 go_enter Tryz.func79,Tryz.ntmps79
 go_wp2
 go_ret
 exact ⟨rfl,rfl⟩
theorem Cz (x:Nat) (now id a v:Int) (taken:Bool) (w:World) (Q1:World->Prop) (Q2:World->Prop) (h0:w.cell? (aq x 0)=some (iv now)) (ha:¬ a<=now)
 (HI:Hid (∀ W,Below w.heap.size w W->Ca 111 #[iv id] W fun e w'=>e=.returned (.agg #[iv id,iv 0])/\Below W.heap.size W w'))
 (HT:Hid (∀ W,Ca 112 #[iv id,iv a] W fun e w'=>e=.returned (.agg #[iv a,iv id])/\Below W.heap.size W w'))
 (HG:Hid (∀ W,Below w.heap.size w W->Ca 62 #[pt x 1,.agg #[iv id,iv 0]] W fun e w'=>e=.returned (.tuple #[iv v,.bool taken])/\Below W.heap.size W w'))
 (HP1:Hid (taken=false->∀ W,Below w.heap.size w W->Ca 99 #[pt x 1,.agg #[iv id,iv 0],iv a] W fun e w'=>e=.returned (.tuple #[])/\Q1 w'))
 (HP2:Hid (taken=false->∀ w2,Q1 w2->∀ W,Below w2.heap.size w2 W->Ca 99 #[pt x 3,.agg #[iv a,iv id],iv 0] W fun e w'=>e=.returned (.tuple #[])/\Q2 w')) :
 Ca 79 #[pt x 0,iv id,iv a] w fun e w'=>(taken=true/\e=.returned (iv 4)/\Below w.heap.size w w')\/(taken=false/\e=.returned (iv 0)/\Q2 w'):=by
 have ha':decide (a<=now)=false:=by simpa using ha
 go_enter Tryz.func79,Tryz.ntmps79
 go_wp2_with fail
 go_region_held3 (fun _=>True) (trivial) (first
  | (go_at_call 111;refine (HI.out _ bL).mono ?_;rintro e w1 ⟨rfl,b1⟩
     have hb1:Bl w w1:=uL (show Below w.heap.size w _ from bL) (b1.mono vS))
  | (go_at_call 62;refine (HG.out _ bL).mono ?_;rintro e w2 ⟨rfl,b2⟩))
 have hb2:Bl w w2:=uL (show Below w.heap.size w _ from bL) (b2.mono (by have:=hb1.size;simp<;>omega))
 clear b2 hb1 b1
 cases taken
 ·go_wp2_with fail
  go_region_held3 (fun _=>True) (trivial) (first
   | (go_at_call 111;refine (HI.out _ bL).mono ?_;rintro e w3 ⟨rfl,b3⟩
      have hb3:Bl w w3:=uL (show Below w.heap.size w _ from bL) (b3.mono (by have:=hb2.size;simp<;>omega)))
   | (go_at_call 99;refine (HP1.out (by trivial) _ bL).mono ?_;rintro e w4 ⟨rfl,q1⟩))
  go_wp2_with fail
  go_region_held3 (fun _=>True) (trivial) (first
   | (go_at_call 112;refine (HT.out _).mono ?_;rintro e w5 ⟨rfl,b5⟩
      have hb5:Bl w4 w5:=uL (show Below w4.heap.size w4 _ from bL) (b5.mono vS))
   | (go_at_call 99;refine (HP2.out (by trivial) _ q1 _ bL).mono ?_;rintro e w6 ⟨rfl,q2⟩))
  go_wp2
  go_ret
  exact ⟨rfl,q2⟩
 ·go_wp2
  go_ret
  exact ⟨rfl,hb2⟩
theorem tI {w w':World} {x:Nat} {own:Nat->Prop} {now:Int} {L:List (Int × Int)} (h:QJ w x own now L) (hb:Bl w w'):oK QJ w w' x own now L :=
 ⟨own,zR h hb.size (fun k hk=>hb.block k (dI h k hk)),Same.of_below hb,fun _ hk=>.inl hk⟩
theorem Sa {w:World} {x:Nat} {own:Nat->Prop} {now:Int} {L:List (Int × Int)} (id a:Int) (h:QJ w x own now L) (hl:L.length * 16+16<=140737488351232) :
 Ca 79 #[pt x 0,iv id,iv a] w fun e w'=>e=.returned (iv (Xk now L id a))/\oK QJ w w' x own now (vI now L id a):=by
 have hpw:=h
 obtain ⟨ti,tt,h1,⟨h2,h2'⟩,⟨h3,h3'⟩,⟨h4,h4'⟩,h5,h6,h7⟩:=h
 have hxw:x<w.heap.size:=(blt h1)
 by_cases ha:a<=now
 ·refine (Wn x now id a w (rB h1) ha).mono ?_
  rintro e w' ⟨rfl,rfl⟩
  simp only [Xk,vI,uQ ha]
  exact ⟨trivial,tI hpw (uM _ _)⟩
 ·refine (Cz x now id a ((yO (id,0) ti.toL).getD 0) (yO (id,0) ti.toL).isSome w (fun w2=>zC w w2 x 1 #[iv now,.pointer ti.addr,iv L.length,.pointer tt.addr,iv L.length] 128 ((L.length:Int)+1) ti (zD (id,0) a ti.toL)) (fun w'=>oK QJ w w' x own now (L++[(a,id)])) (rB h1) ha
   (fun W _=>iR id W) (fun W=>iV id a W) (fun W hb=>?_) (fun ht W hb=>?_) (fun ht w2 A1 W hb=>?_)).mono ?_
  ·exact xE x 1 ti id 0 W (by rw [uI ((hb.block x hxw).trans h1)];rfl) (ti.at_below h2 hb) h3
  ·have hn:yO (id,0) ti.toL=none:=by simpa using ht
   have hxW:=(hb.block x hxw).trans h1
   exact (nO x 1 _ _ vO ti L.length id 0 a W hxW rfl rfl (ti.at_below h2 hb) h3 hn uO).mono (by rintro e w' ⟨rfl,A⟩;exact ⟨rfl,eA A hb⟩)
  ·have hn:yO (id,0) ti.toL=none:=by simpa using ht
   have hno:=(tL h4).1 hn
   obtain ⟨ti',a1,a2,a3,a4,a5⟩:=A1
   have a1':w2.heap[x]?=some (.cells #[iv now,.pointer ti'.addr,iv ((L.length:Int)+1),.pointer tt.addr,iv L.length] 128):=by simpa using a1
   have hxW:=(hb.block x (blt a1')).trans a1'
   refine (nO x 3 _ _ vO tt L.length a id 0 W hxW rfl rfl (tt.at_below (Tr.at_same h2' a4 h1 vO) hb) h3' (pR h4' hno) uO).mono ?_
   rintro e w' ⟨rfl,A2⟩
   have ho:=rH (now:=now) (id:=id) (at':=a) h5
   rw [vI,uP ha,uP hno] at ho
   exact ⟨rfl,Pj h6 h7 a1' a2 a4 a5 hb A2 vS vS (a3▸gC _ _ h3) (gC _ _ h3') (a3▸Qt h4 rfl hn) (Qt h4' rfl (pR h4' hno)) ho⟩
  ·rintro e w' (⟨ht,rfl,hb⟩|⟨ht,rfl,hq⟩)
   ·have hno:0<=gY L id:=Classical.byContradiction fun hc=>by rw [(tL h4).2 hc] at ht;simp at ht
    simp only [Xk,vI,uP ha,uQ hno]
    exact ⟨trivial,tI hpw hb⟩
   ·have hno:=(tL h4).1 (by simpa using ht)
    simp only [Xk,vI,uP ha,uP hno]
    exact ⟨trivial,hq⟩
theorem Hn (x:Nat) (id v:Int) (taken:Bool) (w:World) (Q2:World->Prop)
 (HI:Hid (∀ W,Below w.heap.size w W->Ca 111 #[iv id] W fun e w'=>e=.returned (.agg #[iv id,iv 0])/\Below W.heap.size W w'))
 (HG:Hid (∀ W,Below w.heap.size w W->Ca 62 #[pt x 1,.agg #[iv id,iv 0]] W fun e w'=>e=.returned (.tuple #[iv v,.bool taken])/\Below W.heap.size W w'))
 (HD:Hid (taken=true->∀ W,Below w.heap.size w W->Ca 114 #[pt x 0,iv id,iv v] W fun e w'=>e=.returned (.tuple #[])/\Q2 w')) :
 Ca 81 #[pt x 0,iv id] w fun e w'=>(taken=false/\e=.returned (iv 5)/\Below w.heap.size w w')\/(taken=true/\e=.returned (iv 0)/\Q2 w'):=by
 go_enter Tryz.func81,Tryz.ntmps81
 go_wp2_with fail
 go_region_held3 (fun _=>True) (trivial) (first
  | (go_at_call 111;refine (HI.out _ bL).mono ?_;rintro e w1 ⟨rfl,b1⟩
     have hb1:Bl w w1:=uL (show Below w.heap.size w _ from bL) (b1.mono vS))
  | (go_at_call 62;refine (HG.out _ bL).mono ?_;rintro e w2 ⟨rfl,b2⟩))
 have hb2:Bl w w2:=uL (show Below w.heap.size w _ from bL) (b2.mono (by have:=hb1.size;simp<;>omega))
 clear b2 hb1 b1
 cases taken
 ·go_wp2
  go_ret
  exact ⟨rfl,hb2⟩
 ·go_wp2_with (go_at_call 114;refine (HD.out (by trivial) _ bL).mono ?_;rintro e w4 ⟨rfl,q2⟩)
  go_ret
  exact ⟨rfl,q2⟩
theorem Nx {w:World} {x:Nat} {own:Nat->Prop} {now:Int} {L:List (Int × Int)} (id:Int) (h:QJ w x own now L) (hl:L.length * 16+16<=140737488351232) :
 Ca 81 #[pt x 0,iv id] w fun e w'=>e=.returned (iv (gT L id))/\oK QJ w w' x own now (yL L id):=by
 have hpw:=h
 obtain ⟨ti,tt,h1,⟨h2,h2'⟩,⟨h3,h3'⟩,⟨h4,h4'⟩,h5,h6,h7⟩:=h
 have hxw:x<w.heap.size:=(blt h1)
 refine (Hn x id ((yO (id,0) ti.toL).getD 0) (yO (id,0) ti.toL).isSome w (fun w'=>oK QJ w w' x own now (L.filter (fun p=>p.2 != id))) (fun W _=>iR id W) (fun W hb=>?_) (fun ht W hb=>?_)).mono ?_
 ·exact xE x 1 ti id 0 W (by rw [uI ((hb.block x hxw).trans h1)];rfl) (ti.at_below h2 hb) h3
 ·obtain ⟨v,hv⟩:=Option.isSome_iff_exists.1 ht
  rw [hv]
  have hm:=Pf h4 hv
  exact (Oi id v (zR hpw hb.size (fun k hk=>hb.block k (h7 k hk))) hm hl).mono (by rintro e w' ⟨rfl,A⟩;exact ⟨rfl,wB A hb⟩)
 ·rintro e w' (⟨ht,rfl,hb⟩|⟨ht,rfl,hq⟩)
  ·have hno:gY L id<0:=Int.not_le.1 ((tL h4).1 (by simpa using ht))
   simp only [gT,yL,uQ hno]
   exact ⟨trivial,tI hpw hb⟩
  ·have hno:¬ gY L id<0:=fun hc=>by rw [(tL h4).2 (Int.not_le.2 hc)] at ht;simp at ht
   refine ⟨by rw [gT,uP hno],?_⟩
   rw [iE h5]
   exact hq
theorem Fx (x:Nat) (s:Int) (w:World) (HG:Hid (∀ W,Below w.heap.size w W->Ca 61 #[pt x 1] W fun e w'=>e=.returned (iv s)/\Below W.heap.size W w')) :
 Ca 84 #[pt x 0] w fun e w'=>e=.returned (iv s)/\Below w.heap.size w w':=by
 go_enter Tryz.func84,Tryz.ntmps84
 go_wp2_with (go_at_call 61;refine (HG.out _ bL).mono ?_;rintro e w1 ⟨rfl,b1⟩)
 go_ret
 exact ⟨rfl,b1⟩
theorem Tq {w:World} {x:Nat} {own:Nat->Prop} {now:Int} {L:List (Int × Int)} (h:QJ w x own now L) :
 Ca 84 #[pt x 0] w fun e w'=>e=.returned (iv L.length)/\oK QJ w w' x own now L:=by
 have hpw:=h
 obtain ⟨ti,tt,h1,_⟩:=h
 have hxw:x<w.heap.size:=(blt h1)
 exact (Fx x L.length w (fun W hb=>Zh x 1 L.length W (by rw [uI ((hb.block x hxw).trans h1)];rfl))).mono (by rintro e w' ⟨rfl,hb⟩;exact ⟨rfl,tI hpw hb⟩)
theorem Kv (x:Nat) (a1 a2 v:Int) (some':Bool) (w:World)
 (HF:Hid (∀ W,Below w.heap.size w W->Ca 100 #[pt x 3] W fun e w'=>e=.returned (.tuple #[.agg #[iv a1,iv a2,iv v],.bool some'])/\Below W.heap.size W w')) (h0:some'=false->a1=0/\a2=0) :
 Ca 71 #[pt x 0] w fun e w'=>e=.returned (.tuple #[.agg #[iv a1,iv a2],.bool some'])/\Below w.heap.size w w':=by
 go_enter Tryz.func71,Tryz.ntmps71
 go_wp2_with fail
 refine (HF.out _ bL).mono ?_
 rintro e w1 ⟨rfl,b1⟩
 have n0:w1.heap[w.heap.size]?=some (.cells #[iv 0,iv 0] 123):=(b1.block _ vS).trans (uF w _)
 have hsz:w.heap.size<w1.heap.size:=(blt n0)
 obtain ⟨r0,r1⟩:=jH n0
 have f0:=qA n0 0
 have f1:=qA n0 1
 have w01:Bl w w1:=((uM _ _).alloc (uA _) _).trans (b1.mono vS)
 have hne:w1.heap.size≠w.heap.size:=uO
 have hle:w.heap.size<=w1.heap.size:=uO
 clear b1
 cases some'
 ·obtain ⟨rfl,rfl⟩:=h0 rfl
  go_wp2
  refine uK (v:=.tuple #[.agg #[iv 0,iv 0],.bool false]) (by simp [results,Tryz.results71,go_sem,r0,r1,hsz]) rfl ⟨rfl,?_⟩
  exact ((w01.setCell (p:=(aq w.heap.size 0)) (uA _) _).setCell (p:=(aq w.heap.size 1)) (uA _) _).alloc (by simpa [World.setCell] using hle) _
 ·go_wp2
  refine uK (v:=.tuple #[.agg #[iv a1,iv a2],.bool true]) (by simp [results,Tryz.results71,go_sem,r0,r1,hsz]) rfl ⟨rfl,?_⟩
  exact ((w01.setCell (p:=(aq w.heap.size 0)) (uA _) _).setCell (p:=(aq w.heap.size 1)) (uA _) _).alloc (by simpa [World.setCell] using hle) _
theorem mB {w:World} {x:Nat} {own:Nat->Prop} {now:Int} {L:List (Int × Int)} (h:QJ w x own now L) :
 Ca 71 #[pt x 0] w fun e w'=>e=.returned (.tuple #[.agg #[iv (qN L).1,iv (qN L).2],.bool (zB L)])/\Below w.heap.size w w':=by
 obtain ⟨ti,tt,h1,⟨h2,h2'⟩,⟨h3,h3'⟩,⟨h4,h4'⟩,h5,h6,h7⟩:=h
 have hxw:x<w.heap.size:=(blt h1)
 obtain ⟨e1,e2,e3⟩:=Vd h4' h3'
 rw [e1,e2]
 refine Kv x _ _ (dM tt).2 _ w (fun W hb=>iH x 3 tt W (by rw [uI ((hb.block x hxw).trans h1)];rfl) (tt.at_below h2' hb)) ?_
 intro hf
 have:tt.toL=[]:=by simpa using hf
 simp [dM,this]
theorem pV:∀ {L:List (Int × Int)} {q:Nat},xB L->q<L.length->L.eraseIdx q=L.filter (fun p=>p.2 != (L.getD q (0,0)).2)
 | [],_,_,h=>by simp at h
 | x :: xs,0,ho,_=>by
   unfold xB at ho
   rw [List.map_cons,List.nodup_cons] at ho
   show xs=(x :: xs).filter (fun p=>p.2 != x.2)
   rw [List.filter_cons_of_neg vS,zV]
   intro p hp
   have:p.2≠x.2:=fun e=>ho.1 (List.mem_map.2 ⟨p,hp,e⟩)
   simpa using this
 | x :: xs,q+1,ho,hq=>by
   have hq':q<xs.length:=by simpa using hq
   unfold xB at ho
   rw [List.map_cons,List.nodup_cons] at ho
   have hne:x.2≠(xs.getD q (0,0)).2:=fun e=>ho.1 (List.mem_map.2 ⟨_,gL hq',e.symm⟩)
   have hg:(x :: xs).getD (q+1) (0,0)=xs.getD q (0,0):=by simp [List.getD]
   rw [hg,List.filter_cons_of_pos (by simpa using hne),List.eraseIdx_cons_succ,pV ho.2 hq']
theorem Pz {to:Int} {L:List (Int × Int)} (h:zB L=false\/to<(qN L).1):ZV to L=([],L):=by
 refine cU ?_
 unfold zB qN at h
 by_cases hl:qW L L.length<0
 ·exact .inl hl
 ·rw [uP hl] at h
  rcases h with h|h
  ·simp at h;exact .inl h
  ·exact .inr h
theorem Ck {to:Int} {L:List (Int × Int)} (ho:xB L) (hb:zB L=true) (h:(qN L).1<=to):ZV to L=(qN L :: (ZV to (L.filter (fun p=>p.2 != (qN L).2))).1,(ZV to (L.filter (fun p=>p.2 != (qN L).2))).2):=by
 have hlb:=vJ L L.length
 have h0:0<=qW L L.length:=by simpa [zB] using hb
 obtain ⟨q,hq⟩:=Int.eq_ofNat_of_zero_le h0
 have hql:q<L.length:=uO
 have hf:qN L=L.getD q (0,0):=by rw [qN,uP uO,hq,Int.toNat_natCast]
 have he:L.eraseIdx q=L.filter (fun p=>p.2 != (qN L).2):=by rw [hf,pV ho hql]
 rw [Ta hq hql (hf▸h),← he,hf]
theorem Yt {L:List (Int × Int)} (hb:zB L=true):((qN L).1,(qN L).2)∈L:=by
 have hne:L≠[]:=fun e=>by rw [e,eQ.2] at hb;cases hb
 exact (oY hne).2.1
structure advI (w wr:World) (x D:Nat) (own:Nat->Prop) (to:Int) (out:Value) (L o L':List (Int × Int)) (own':Nat->Prop):Prop where
 told:wr.ownsRow w.heap.size 123 2 out o.length (qV o)
 due:wr.heap[D]?=some (.cells #[iv (qN L').1,iv (qN L').2] 123)
 pw:QJ wr x own' to L'
 fresh:∀ k,own' k->own k\/w.heap.size<=k
 nD:¬ own' D
 no:∀ k,out.ownBlock=some k->¬ own' k/\k≠D
 same:Same own w wr
 D:w.heap.size<=D
 spec:o++(ZV to L').1=(ZV to L).1/\(ZV to L').2=(ZV to L).2
 len:o.length+L'.length=L.length
theorem Cs {w wr w2 w3 w4:World} {x D:Nat} {own own':Nat->Prop} {to:Int} {out out':Value} {L o L':List (Int × Int)} {O:Obj} (I:advI w wr x D own to out L o L' own') (hb:zB L'=true) (hto:(qN L').1<=to)
 (hp:oK QJ wr w2 x own' to (L'.filter (fun p=>p.2 != (qN L').2)))
 (hown3:w3.ownsRow w.heap.size 123 2 out' (o.length+1) (qV o++[iv (qN L').1,iv (qN L').2])) (hg:(w2.alloc O).grownBy w3 out.ownBlock) (hat:out'.ownBlock=out.ownBlock\/out'.ownBlock=some (w2.alloc O).heap.size) (b4:Bl w3 w4) :
 ∃ own'',advI w ((w4.sc D 0 (iv (qN (L'.filter (fun p=>p.2 != (qN L').2))).1)).sc D 1 (iv (qN (L'.filter (fun p=>p.2 != (qN L').2))).2)) x D own to out' L (o++[qN L']) (L'.filter (fun p=>p.2 != (qN L').2)) own'':=by
 obtain ⟨own2,p2,s2,f2⟩:=hp
 have hm:=Yt hb
 have ho:xB L':=by obtain ⟨_,_,_,_,_,_,h,_⟩:=I.pw;exact h
 have hlen:=bI ho hm
 have lt':=dI I.pw
 have lt2:=dI p2
 have hDr:D<wr.heap.size:=(blt I.due)
 have z2:=s2.size
 have z3:w2.heap.size+1<=w3.heap.size:=by have:=hg.size;simpa using this
 have z4:=b4.size
 have ko:=uJ I.told
 have k3:∀ k,k<w2.heap.size->out.ownBlock≠some k->w4.heap[k]?=w2.heap[k]?:=fun k hk hn=>(b4.block k uO).trans ((hg.block k uT (fun e=>hn e.symm)).trans (uE w2 O k hk))
 have nD2:¬ own2 D:=fun e=>(f2 D e).elim I.nD (fun h=>uO)
 have no2:∀ k,out.ownBlock=some k->¬ own2 k:=fun k hk e=>(f2 k e).elim (I.no k hk).1 (fun h=>by have:=(ko k hk).2;omega)
 have hD4:w4.heap[D]?=some (.cells #[iv (qN L').1,iv (qN L').2] 123):=(k3 D uO (fun e=>(I.no D e).2 rfl)).trans ((s2.block D hDr I.nD).trans I.due)
 have kD:∀ k u v,k≠D->((w4.sc D 0 u).sc D 1 v).heap[k]?=w4.heap[k]?:=fun k u v hk=>(uG _ (aq D 1) _ _ hk).trans (uG _ (aq D 0) _ _ hk)
 have o3:=uJ hown3
 have no3:∀ k,out'.ownBlock=some k->¬ own2 k/\k≠D:=by
  intro k hk
  rcases hat with e|e
  ·exact ⟨no2 k (e.symm.trans hk),(I.no k (e.symm.trans hk)).2⟩
  ·rw [hk] at e
   simp at e
   exact ⟨fun h=>by have:=lt2 k h;omega,uO⟩
 refine ⟨own2,?_,?_,?_,?_,nD2,no3,?_,I.D,?_,?_⟩
 ·rw [fM,List.length_append,List.length_singleton]
  exact qG (qH hown3 b4 (uA _)) (fun k hk=>kD k _ _ (no3 k hk).2)
 ·rw [uH (uH hD4 _)];rfl
 ·exact zR p2 (by simp [World.setCell];omega) (fun k hk=>(kD k _ _ (fun e=>nD2 (e▸hk))).trans (k3 k (lt2 k hk) (fun e=>no2 k e hk)))
 ·intro k hk
  rcases f2 k hk with h|h
  ·exact I.fresh k h
  ·exact .inr (uX I.same.size h)
 ·refine ⟨b4.os.trans (hg.os.trans (s2.os.trans I.same.os)),b4.tape.trans (hg.tape.trans (s2.tape.trans I.same.tape)),b4.output.trans (hg.output.trans (s2.output.trans I.same.output)),by simp [World.setCell];have:=I.same.size;omega,fun k hk hn=>?_⟩
  have hkr:=uB hk I.same.size
  rw [kD k _ _ (fun e=>by have:=I.D;omega),k3 k uO (fun e=>by have:=(ko k e).1;omega),s2.block k hkr (fun e=>(I.fresh k e).elim hn (fun h=>uO))]
  exact I.same.block k hk hn
 ·have:=Ck ho hb hto
  have hs:=I.spec
  rw [this] at hs
  simp only at hs
  exact ⟨by rw [List.append_assoc];exact hs.1,hs.2⟩
 ·rw [List.length_append,List.length_singleton]
  have:=I.len
  omega
theorem Aa {w w1:World} {x:Nat} {own:Nat->Prop} {now to:Int} {L:List (Int × Int)} (h:QJ w x own now L) (hb:Below (w.heap.size+1) ((w.sc x 0 (iv to)).alloc (.cells #[] 123)) w1) :
 advI w (w1.alloc (.cells #[iv (qN L).1,iv (qN L).2] 123)) x w1.heap.size own to (.slice (some (aq w.heap.size 0)) 0 0) L [] L own:=by
 have lt:=dI h
 have hz:w.heap.size+1<=w1.heap.size:=by have:=hb.size;simpa [World.setCell] using this
 obtain ⟨ti,tt,h1,h2,h3,h4,h5,h6,h7⟩:=h
 have hx:x<w.heap.size:=h7 x (h6 x (.inl rfl))
 have kx:∀ k,k<w.heap.size->k≠x->(w1.alloc (.cells #[iv (qN L).1,iv (qN L).2] 123)).heap[k]?=w.heap[k]?:=fun k hk hne=>by
  rw [uE w1 _ k uO,hb.block k uO,uE _ _ k (by simpa [World.setCell] using hk),uG _ (aq x 0) _ _ hne]
 have hx0:(w1.alloc (.cells #[iv (qN L).1,iv (qN L).2] 123)).heap[x]?=some (.cells #[iv to,.pointer ti.addr,iv L.length,.pointer tt.addr,iv L.length] 128):=by
  rw [uE w1 _ x uO,hb.block x uO,uE _ _ x (by simpa [World.setCell] using hx),uH h1];rfl
 have kt:∀ t:Tr,t.at w->∀ n,t.has n->n≠x:=fun t ht n hn e=>by
  obtain ⟨C',hC⟩:=t.at_type ht hn
  rw [e,h1] at hC
  simp at hC
 refine ⟨⟨by simp [qV],.inr ⟨w.heap.size,0,#[],rfl,uA _,?_,uA _,Nat.zero_le _,rfl,rfl⟩⟩,uF _ _,⟨ti,tt,hx0,⟨ti.at_keep h2.1 (fun n hn=>kx n (ti.at_lt h2.1 hn) (kt ti h2.1 n hn)),tt.at_keep h2.2 (fun n hn=>kx n (tt.at_lt h2.2 hn) (kt tt h2.2 n hn))⟩,h3,h4,h5,h6,fun k hk=>by have:=lt k hk;simp;omega⟩,fun k hk=>.inl hk,fun e=>by have:=lt _ e;omega,?_,?_,uO,⟨rfl,rfl⟩,by simp⟩
 ·rw [uE w1 _ _ uO,hb.block _ uO]
  have:=uF (w.sc x 0 (iv to)) (.cells #[] 123)
  simpa [World.setCell] using this
 ·intro k hk
  simp [Value.ownBlock] at hk
  subst hk
  exact ⟨fun e=>by have:=lt _ e;omega,uO⟩
 ·refine ⟨hb.os,hb.tape,hb.output,by simp;omega,fun k hk hn=>kx k hk (fun e=>hn (e▸h6 x (.inl rfl)))⟩
