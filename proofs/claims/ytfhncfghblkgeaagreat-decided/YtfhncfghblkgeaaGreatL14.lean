import Derived.Test.YtfhncfghblkgeaaGreatL13
set_option maxRecDepth 100000
set_option maxHeartbeats 2000000
namespace Go.Proofs.YtfhncfghblkgeaaGreat
open Go.RowKit
def jbk (w w':World) (x o:Nat) (C:Array Value) (T:TypeId) (s':Int) (t:Tr) (L:List Ent):Prop :=
 ∃ t':Tr,w'.heap[x]?=some (.cells ((C.setIfInBounds (o+1) (iv s')).setIfInBounds o (.pointer t'.addr)) T (0,0))/\t'.at w'/\t'.toL=L/\Same (fun b=>b=x) w w'/\∀ n,t'.has n->t.has n\/w.heap.size<=n
theorem Tr.at_set {w:World} {t:Tr} {x i:Nat} {C:Array Value} {T:TypeId} {v:Value} (h:t.at w) (hx:w.heap[x]?=some (.cells C T (0,0))) (hT:T≠211):t.at (w.setCell (aq x i) v) :=
 t.at_keep h (fun n hn=>Below.heap_setCell _ (aq x i) _ _ (fun e=>by
  obtain ⟨C',hC⟩:=t.at_type h hn
  have e':n=x:=e
  rw [e',hx] at hC
  simp only [Option.some.injEq,Obj.cells.injEq] at hC
  exact hT hC.2.1))
theorem ji2 (x o:Nat) (C:Array Value) (T:TypeId) (hT:T≠211) (t:Tr) (s k1 k2 v:Int) (w:World) (hx:w.heap[x]?=some (.cells C T (0,0))) (h0:C[o]?=some (.pointer t.addr)) (h1:C[o+1]?=some (iv s)) (ht:t.at w) (hs:srt t.toL) (hn:jb5 (k1,k2) t.toL=none) (hsz:0<=s/\s<9223372036854775807) :
 Calls Tryz.prog 112 #[pt x o,.agg #[iv k1,iv k2],iv v] w fun e w'=>e=.returned (.tuple #[])/\jbk w w' x o C T (s+1) t (jbl (k1,k2) v t.toL):=by
 have k0:w.cell? (aq x o)=some (.pointer t.addr):=by rw [Joins.cell_of_block hx];exact h0
 have k1':w.cell? (aq x (o+1))=some (iv s):=by rw [Joins.cell_of_block hx];exact h1
 have hxw:x<w.heap.size:=(blt hx)
 have HG:Hid (∀ W,Below w.heap.size w W->Calls Tryz.prog 95 #[pt x o,.agg #[iv k1,iv k2]] W fun e w'=>e=.returned (.tuple #[iv 0,.bool false])/\Below W.heap.size W w'):=by
  intro W hW
  have:=jd3 x o t k1 k2 W ((hW.cell (p:=(aq x o)) hxw).trans k0) (t.at_below ht hW) hs
  rw [hn] at this
  exact this
 have HX:Hid (w.heap[x]?=some (.cells C T (0,0))/\t.at w):=⟨hx,ht⟩
 clear hx h0 h1 ht hn
 go_enter Tryz.func112,Tryz.ntmps112
 go_wp2_with fail
 refine (HG.out _ bL).mono ?_
 rintro e w1 ⟨rfl,b1⟩
 have hb1:Below w.heap.size w w1:=Below.trans (show Below w.heap.size w _ from bL) (b1.mono (by simp))
 have hx1:w1.heap[x]?=some (.cells C T (0,0)):=(hb1.block x hxw).trans HX.out.1
 have hk1:w1.heap[w.heap.size]?=some (.cells #[iv k1,iv k2] 178 (0,0)):=(b1.block _ (by simp)).trans (heap_alloc_new _ _)
 have c0:=(hb1.cell (p:=(aq x o)) hxw).trans k0
 have c1:=(hb1.cell (p:=(aq x (o+1))) hxw).trans k1'
 have f0:=ja0 hx1 o
 have f1:=ja0 hx1 (o+1)
 obtain ⟨q0,q1⟩:=je0 hk1
 have hne:w.heap.size≠x:=by omega
 have ht0:t.at (w1.setCell (aq x (o+1)) (iv (s+1))):=t.at_set (t.at_below HX.out.2 hb1) hx1 hT
 have hx0:(w1.setCell (aq x (o+1)) (iv (s+1))).heap[x]?=some (.cells (C.setIfInBounds (o+1) (iv (s+1))) T (0,0)):=Joins.block_setCell hx1 _
 have hsame:Same (fun b=>b=x) w (w1.setCell (aq x (o+1)) (iv (s+1))):=⟨hb1.os,hb1.tape,hb1.output,by simpa [World.setCell] using hb1.size,fun k hk hne=>(Below.heap_setCell _ (aq x (o+1)) _ _ hne).trans (hb1.block k hk)⟩
 have hxs:x<(w1.setCell (aq x (o+1)) (iv (s+1))).heap.size:=(blt hx0)
 have HW:Hid (jcu 142 #[.pointer t.addr,.agg #[iv k1,iv k2,iv v]] (w1.setCell (aq x (o+1)) (iv (s+1))) (w1.setCell (aq x (o+1)) (iv (s+1))) (fun n=>t.has n) (jbl (k1,k2) v t.toL)) :=
  jd9 (Below.refl _ _) (fun W hW=>(jl6 k1 k2 v t W (t.at_below ht0 hW) hs).mono (by rintro e w' ⟨t',rfl,h⟩;exact ⟨t',rfl,je3 h (fun n hn=>.inl hn)⟩)) rfl
 have HQ:Hid (∀ w2 t',mk (w1.setCell (aq x (o+1)) (iv (s+1))) w2 (fun n=>t.has n) (jbl (k1,k2) v t.toL) t'->jbk w (w2.setCell (aq x o) (.pointer t'.addr)) x o C T (s+1) t (jbl (k1,k2) v t.toL)/\w2.frozen? (aq x o)=false/\w2.cell? (aq x o)=some (.pointer t.addr)):=by
  rintro w2 t' ⟨m1,m2,m3,m4⟩
  have hx2:=(m3.block x hxs).trans hx0
  refine ⟨⟨t',Joins.block_setCell hx2 _,t'.at_set m1 hx2 hT,m2,?_,fun n hn=>(m4 n hn).imp id (Nat.le_trans hsame.size)⟩,ja0 hx2 o,?_⟩
  ·refine Same.trans hsame (o2:=fun b=>b=x) ⟨m3.os,m3.tape,m3.output,by simpa [World.setCell] using m3.size,fun k hk hne=>(Below.heap_setCell _ (aq x o) _ _ hne).trans (m3.block k hk)⟩ (fun k _ e=>e.elim id id)
  ·rw [m3.cell (p:=(aq x o)) hxs,Joins.cell_of_block hx0]
   have:C[o]?=some (.pointer t.addr):=by have:=c0;rw [Joins.cell_of_block hx1] at this;exact this
   simpa [Array.getElem?_setIfInBounds] using this
 clear k0 k1' b1 ht0 hx0 hsame hxs HG hs
 go_wp2_with fail
 go_region_with (first|(go_at_call 142;refine (HW.out _ bL).mono ?_;rintro e w2 ⟨t',rfl,m,b⟩;obtain ⟨HA,fz,cz⟩:=HQ.out _ _ m))
 all_goals (go_end0;exact ⟨rfl,HA⟩)
theorem jee (x o:Nat) (C:Array Value) (T:TypeId) (hT:T≠211) (t:Tr) (s k1 k2 u:Int) (w:World) (hx:w.heap[x]?=some (.cells C T (0,0))) (h0:C[o]?=some (.pointer t.addr)) (h1:C[o+1]?=some (iv s)) (ht:t.at w) (hs:srt t.toL) (hn:jb5 (k1,k2) t.toL=some u) (hsz:1<=s/\s<9223372036854775807) :
 Calls Tryz.prog 143 #[pt x o,.agg #[iv k1,iv k2]] w fun e w'=>e=.returned (.tuple #[])/\jbk w w' x o C T (s - 1) t (jd0 (k1,k2) t.toL):=by
 have k0:w.cell? (aq x o)=some (.pointer t.addr):=by rw [Joins.cell_of_block hx];exact h0
 have k1':w.cell? (aq x (o+1))=some (iv s):=by rw [Joins.cell_of_block hx];exact h1
 have hxw:x<w.heap.size:=(blt hx)
 have HG:Hid (∀ W,Below w.heap.size w W->Calls Tryz.prog 95 #[pt x o,.agg #[iv k1,iv k2]] W fun e w'=>e=.returned (.tuple #[iv u,.bool true])/\Below W.heap.size W w'):=by
  intro W hW
  have:=jd3 x o t k1 k2 W ((hW.cell (p:=(aq x o)) hxw).trans k0) (t.at_below ht hW) hs
  rw [hn] at this
  exact this
 have HX:Hid (w.heap[x]?=some (.cells C T (0,0))/\t.at w):=⟨hx,ht⟩
 clear hx h0 h1 ht hn
 go_enter Tryz.func143,Tryz.ntmps143
 go_wp2_with fail
 refine (HG.out _ bL).mono ?_
 rintro e w1 ⟨rfl,b1⟩
 have hb1:Below w.heap.size w w1:=Below.trans (show Below w.heap.size w _ from bL) (b1.mono (by simp))
 have hx1:w1.heap[x]?=some (.cells C T (0,0)):=(hb1.block x hxw).trans HX.out.1
 have hk1:w1.heap[w.heap.size]?=some (.cells #[iv k1,iv k2] 178 (0,0)):=(b1.block _ (by simp)).trans (heap_alloc_new _ _)
 have c0:=(hb1.cell (p:=(aq x o)) hxw).trans k0
 have c1:=(hb1.cell (p:=(aq x (o+1))) hxw).trans k1'
 have f0:=ja0 hx1 o
 have f1:=ja0 hx1 (o+1)
 obtain ⟨q0,q1⟩:=je0 hk1
 have hne:w.heap.size≠x:=by omega
 have ht0:t.at (w1.setCell (aq x (o+1)) (iv (s - 1))):=t.at_set (t.at_below HX.out.2 hb1) hx1 hT
 have hx0:(w1.setCell (aq x (o+1)) (iv (s - 1))).heap[x]?=some (.cells (C.setIfInBounds (o+1) (iv (s - 1))) T (0,0)):=Joins.block_setCell hx1 _
 have hsame:Same (fun b=>b=x) w (w1.setCell (aq x (o+1)) (iv (s - 1))):=⟨hb1.os,hb1.tape,hb1.output,by simpa [World.setCell] using hb1.size,fun k hk hne=>(Below.heap_setCell _ (aq x (o+1)) _ _ hne).trans (hb1.block k hk)⟩
 have hxs:x<(w1.setCell (aq x (o+1)) (iv (s - 1))).heap.size:=(blt hx0)
 have HW:Hid (jcu 166 #[.pointer t.addr,.agg #[iv k1,iv k2]] (w1.setCell (aq x (o+1)) (iv (s - 1))) (w1.setCell (aq x (o+1)) (iv (s - 1))) (fun n=>t.has n) (jd0 (k1,k2) t.toL)) :=
  jd9 (Below.refl _ _) (fun W hW=>(jg4 t k1 k2 W (t.at_below ht0 hW) hs).mono (by rintro e w' ⟨t',rfl,h⟩;exact ⟨t',rfl,je3 h (fun n hn=>.inl hn)⟩)) rfl
 have HQ:Hid (∀ w2 t',mk (w1.setCell (aq x (o+1)) (iv (s - 1))) w2 (fun n=>t.has n) (jd0 (k1,k2) t.toL) t'->jbk w (w2.setCell (aq x o) (.pointer t'.addr)) x o C T (s - 1) t (jd0 (k1,k2) t.toL)/\w2.frozen? (aq x o)=false/\w2.cell? (aq x o)=some (.pointer t.addr)):=by
  rintro w2 t' ⟨m1,m2,m3,m4⟩
  have hx2:=(m3.block x hxs).trans hx0
  refine ⟨⟨t',Joins.block_setCell hx2 _,t'.at_set m1 hx2 hT,m2,?_,fun n hn=>(m4 n hn).imp id (Nat.le_trans hsame.size)⟩,ja0 hx2 o,?_⟩
  ·refine Same.trans hsame (o2:=fun b=>b=x) ⟨m3.os,m3.tape,m3.output,by simpa [World.setCell] using m3.size,fun k hk hne=>(Below.heap_setCell _ (aq x o) _ _ hne).trans (m3.block k hk)⟩ (fun k _ e=>e.elim id id)
  ·rw [m3.cell (p:=(aq x o)) hxs,Joins.cell_of_block hx0]
   have:C[o]?=some (.pointer t.addr):=by have:=c0;rw [Joins.cell_of_block hx1] at this;exact this
   simpa [Array.getElem?_setIfInBounds] using this
 clear k0 k1' b1 ht0 hx0 hsame hxs HG hs
 go_wp2_with fail
 go_region_with (first|(go_at_call 166;refine (HW.out _ bL).mono ?_;rintro e w2 ⟨t',rfl,m,b⟩;obtain ⟨HA,fz,cz⟩:=HQ.out _ _ m))
 all_goals (go_end0;exact ⟨rfl,HA⟩)
theorem jpa (x o:Nat) (s:Int) (w:World) (h:w.cell? (aq x (o+1))=some (iv s)) :
 Calls Tryz.prog 94 #[pt x o] w fun e w'=>e=.returned (iv s)/\Below w.heap.size w w':=by
 go_enter Tryz.func94,Tryz.ntmps94
 go_wp2
 go_ret
 exact ⟨rfl,bL⟩
theorem jlo (x o:Nat) (t:Tr) (w:World) (h0:w.cell? (aq x o)=some (.pointer t.addr)) (ht:t.at w) :
 Calls Tryz.prog 117 #[pt x o] w fun e w'=>e=.returned (.tuple #[.agg #[iv (jfg t).1.1,iv (jfg t).1.2,iv (jfg t).2],.bool (decide (t.toL≠[]))])/\Below w.heap.size w w':=by
 have hxw:x<w.heap.size:=World.block_lt_of_cell? w _ h0
 cases t with
 | leaf =>
   simp only [Tr.addr_leaf] at h0
   go_enter Tryz.func117,Tryz.ntmps117
   go_wp2
   exact bodyPost_ret (v:=.tuple #[.agg #[iv 0,iv 0,iv 0],.bool false]) (by simp [results,Tryz.results117,go_sem]) rfl ⟨by simp [jfg,Tr.toL],bL⟩
 | node p l k v h r =>
   have HF:Hid (∀ W,Below w.heap.size w W->Calls Tryz.prog 144 #[pt p 0] W fun e w'=>e=.returned (.agg #[iv (jfg (.node p l k v h r)).1.1,iv (jfg (.node p l k v h r)).1.2,iv (jfg (.node p l k v h r)).2])/\Below W.heap.size W w'):=fun W hW=>jmk p l r k v h W (Tr.at_below ht hW)
   simp only [Tr.addr_node] at h0
   clear ht
   have hd:decide ((Tr.node p l k v h r).toL≠[])=true:=by simp [Tr.toL]
   rw [hd]
   clear hd
   generalize jfg (.node p l k v h r)=F at HF
   obtain ⟨⟨a1,a2⟩,av⟩:=F
   simp only at HF
   go_enter Tryz.func117,Tryz.ntmps117
   go_wp2_with fail
   refine (HF.out _ bL).mono ?_
   rintro e w1 ⟨rfl,b1⟩
   have n0:w1.heap[w.heap.size]?=some (.cells #[iv 0,iv 0,iv 0] 202 (0,0)):=(b1.block _ (by simp)).trans (heap_alloc_new w _)
   obtain ⟨r0,r1,r2⟩:=jb3 n0
   have f0:=ja0 n0 0
   have f1:=ja0 n0 1
   have f2:=ja0 n0 2
   have w01:Below w.heap.size w w1:=((Below.refl _ _).alloc (Nat.le_refl _) _).trans (b1.mono (by simp))
   go_wp2
   refine bodyPost_ret (v:=.tuple #[.agg #[iv a1,iv a2,iv av],.bool true]) (by simp [results,Tryz.results117,go_sem,r0,r1,r2]) rfl ⟨rfl,?_⟩
   exact ((w01.setCell (p:=(aq w.heap.size 0)) (Nat.le_refl _) _).setCell (p:=(aq w.heap.size 1)) (Nat.le_refl _) _).setCell (p:=(aq w.heap.size 2)) (Nat.le_refl _) _
def idE (p:Int × Int):Ent:=((p.2,0),p.1)
def jk4 (p:Int × Int):Ent:=(p,0)
def pwW (w:World) (x:Nat) (own:Nat->Prop) (now:Int) (L:List (Int × Int)):Prop :=
 ∃ ti tt:Tr,w.heap[x]?=some (.cells #[iv now,.pointer ti.addr,iv L.length,.pointer tt.addr,iv L.length] 170 (0,0))/\(ti.at w/\tt.at w)/\(srt ti.toL/\srt tt.toL)/\(ti.toL.Perm (L.map idE)/\tt.toL.Perm (L.map jk4))/\jcz L/\(∀ k,k=x\/ti.has k\/tt.has k->own k)/\∀ k,own k->k<w.heap.size
theorem jfj {w:World} {x:Nat} {own:Nat->Prop} {now:Int} {L:List (Int × Int)} (h:pwW w x own now L):∀ k,own k->k<w.heap.size:=by
 obtain ⟨_,_,_,_,_,_,_,_,h⟩:=h
 exact h
theorem jcb {w w':World} {x:Nat} {own:Nat->Prop} {now:Int} {L:List (Int × Int)} (h:pwW w x own now L) (hz:w.heap.size<=w'.heap.size) (hk:∀ k,own k->w'.heap[k]?=w.heap[k]?):pwW w' x own now L:=by
 obtain ⟨ti,tt,h1,h2,h3,h4,h5,h6,h7⟩:=h
 exact ⟨ti,tt,(hk x (h6 x (.inl rfl))).trans h1,⟨ti.at_keep h2.1 (fun n hn=>hk n (h6 n (.inr (.inl hn)))),tt.at_keep h2.2 (fun n hn=>hk n (h6 n (.inr (.inr hn))))⟩,h3,h4,h5,h6,fun k hk'=>Nat.lt_of_lt_of_le (h7 k hk') hz⟩
theorem Tr.at_same {w w':World} {t:Tr} {x:Nat} {C:Array Value} {T:TypeId} (h:t.at w) (hs:Same (fun b=>b=x) w w') (hx:w.heap[x]?=some (.cells C T (0,0))) (hT:T≠211):t.at w' :=
 t.at_keep h (fun n hn=>hs.block n (t.at_lt h hn) (fun e=>by
  obtain ⟨C',hC⟩:=t.at_type h hn
  have e':n=x:=e
  rw [e',hx] at hC
  simp only [Option.some.injEq,Obj.cells.injEq] at hC
  exact hT hC.2.1))
theorem ji9 {l:List Ent} {L:List (Int × Int)} {id:Int} (hp:l.Perm (L.map idE)):jb5 (id,0) l=none↔¬ 0<=jo8 L id:=by
 rw [jeg,jh9]
 constructor
 ·rintro h ⟨p,hm,rfl⟩
  exact h (idE p) (hp.mem_iff.2 (List.mem_map_of_mem hm)) rfl
 ·intro h e he hk
  obtain ⟨p,hm,rfl⟩:=List.mem_map.1 (hp.mem_iff.1 he)
  exact h ⟨p,hm,by simpa [idE] using hk⟩
theorem qcs {l:List Ent} {L:List (Int × Int)} {id a:Int} (hp:l.Perm (L.map idE)) (h:jb5 (id,0) l=some a):(a,id)∈L:=by
 obtain ⟨p,hm,he⟩:=List.mem_map.1 (hp.mem_iff.1 (jgb h))
 simp only [idE,Prod.mk.injEq,and_true] at he
 obtain ⟨rfl,rfl⟩:=he
 exact hm
theorem joq {l:List Ent} {L:List (Int × Int)} {id a:Int} (hp:l.Perm (L.map jk4)) (h:¬ 0<=jo8 L id):jb5 (a,id) l=none:=by
 rw [jeg]
 intro e he hk
 obtain ⟨p,hm,rfl⟩:=List.mem_map.1 (hp.mem_iff.1 he)
 exact h (jh9.2 ⟨p,hm,by simp only [jk4] at hk;rw [hk]⟩)
theorem jw8 {l:List Ent} {L:List (Int × Int)} {id a:Int} (hp:l.Perm (L.map jk4)) (h:(a,id)∈L):∃ u,jb5 (a,id) l=some u:=by
 cases hg:jb5 (a,id) l with
 | some u=>exact ⟨u,rfl⟩
 | none=>exact absurd rfl (jeg.1 hg (jk4 (a,id)) (hp.mem_iff.2 (List.mem_map_of_mem h)))
theorem jy0 {l:List Ent} {L:List (Int × Int)} {id a:Int} (hp:l.Perm (L.map idE)) (h:(a,id)∈L):∃ u,jb5 (id,0) l=some u:=by
 cases hg:jb5 (id,0) l with
 | some u=>exact ⟨u,rfl⟩
 | none=>exact absurd rfl (jeg.1 hg (idE (a,id)) (hp.mem_iff.2 (List.mem_map_of_mem h)))
theorem jrt {l:List Ent} {L:List (Int × Int)} {f:Int × Int->Ent} {p:Int × Int} {k:Int × Int} {v:Int} (hp:l.Perm (L.map f)) (hf:f p=(k,v)) (hn:jb5 k l=none):(jbl k v l).Perm ((L++[p]).map f):=by
 rw [List.map_append,List.map_cons,List.map_nil,hf]
 exact (jtx hn).trans ((List.Perm.cons _ hp).trans (List.perm_append_comm (l₁:=[(k,v)])))
theorem qeb {L:List (Int × Int)} (h:jcz L) {p q:Int × Int} (hp:p∈L) (hq:q∈L) (e:p.2=q.2):p=q:=by
 unfold jcz at h
 induction L with
 | nil=>cases hp
 | cons x xs ih =>
   rw [List.map_cons,List.nodup_cons] at h
   rcases List.mem_cons.1 hp with rfl|hp'<;>rcases List.mem_cons.1 hq with rfl|hq'
   ·rfl
   ·exact absurd (List.mem_map.2 ⟨q,hq',e.symm⟩) h.1
   ·exact absurd (List.mem_map.2 ⟨p,hp',e⟩) h.1
   ·exact ih h.2 hp' hq'
theorem qeu {l:List Ent} {L:List (Int × Int)} {id:Int} (hp:l.Perm (L.map idE)):(jd0 (id,0) l).Perm ((L.filter (fun p=>p.2 != id)).map idE):=by
 unfold jd0
 refine (hp.filter _).trans ?_
 rw [List.filter_map]
 have:(fun e:Ent=>e.1 != (id,0)) ∘ idE=fun p:Int × Int=>p.2 != id:=by
  funext p
  show ((p.2,(0:Int)) != (id,0))=(p.2 != id)
  rw [Bool.eq_iff_iff]
  simp
 rw [this]
theorem qa7 {l:List Ent} {L:List (Int × Int)} {id a:Int} (hp:l.Perm (L.map jk4)) (ho:jcz L) (hm:(a,id)∈L):(jd0 (a,id) l).Perm ((L.filter (fun p=>p.2 != id)).map jk4):=by
 unfold jd0
 refine (hp.filter _).trans ?_
 rw [List.filter_map]
 have:L.filter ((fun e:Ent=>e.1 != (a,id)) ∘ jk4)=L.filter (fun p:Int × Int=>p.2 != id):=by
  apply List.filter_congr
  intro p hp'
  show (p != (a,id))=(p.2 != id)
  rw [Bool.eq_iff_iff,bne_iff_ne,bne_iff_ne]
  exact ⟨fun h e=>h (qeb ho hp' hm e),fun h e=>h (by rw [e])⟩
 rw [this]
theorem jjk {L:List (Int × Int)} {id a:Int} (ho:jcz L) (hm:(a,id)∈L):(L.filter (fun p=>p.2 != id)).length+1=L.length:=by
 induction L with
 | nil=>cases hm
 | cons x xs ih =>
   have ho':=ho
   unfold jcz at ho
   rw [List.map_cons,List.nodup_cons] at ho
   rcases List.mem_cons.1 hm with rfl|hm'
   ·rw [List.filter_cons_of_neg (by simp),jc1]
    ·rfl
    ·intro p hp
     have:p.2≠id:=fun e=>ho.1 (List.mem_map.2 ⟨p,hp,e⟩)
     simpa using this
   ·have:x.2≠id:=fun e=>ho.1 (List.mem_map.2 ⟨(a,id),hm',e.symm⟩)
    rw [List.filter_cons_of_pos (by simpa using this),List.length_cons,ih ho.2 hm',List.length_cons]
theorem jsa {t:Tr} {L:List (Int × Int)} (hp:t.toL.Perm (L.map jk4)) (hs:srt t.toL):jcf L=decide (t.toL≠[])/\ja8 L=(jfg t).1/\(t.toL≠[]->(jfg t).1∈L):=by
 by_cases h0:t.toL=[]
 ·have hL:L=[]:=by
   rw [h0] at hp
   have:=hp.length_eq
   simp at this
   exact List.length_eq_zero_iff.1 this.symm
  subst hL
  simp [jlf,jfg,h0]
 ·obtain ⟨l,hx⟩:=jq0 h0
  have hm:(jfg t).1∈L:=by
   have:jfg t∈t.toL:=by rw [hx];simp
   obtain ⟨p,hm,he⟩:=List.mem_map.1 (hp.mem_iff.1 this)
   rw [← he]
   exact hm
  have hmin:∀ r∈L,¬ jac r (jfg t).1=true:=by
   intro r hr
   have hr':jk4 r∈t.toL:=hp.mem_iff.2 (List.mem_map_of_mem hr)
   rw [hx] at hr' hs
   rcases List.mem_cons.1 hr' with e|hr'
   ·rw [← e,jk4]
    simp [jka]
   ·have:=List.rel_of_pairwise_cons hs hr'
    simp only [jk4] at this
    simp [jdr this]
  have:=jq6 (List.Perm.refl L) hm hmin
  exact ⟨by rw [this.1];simp [h0],this.2,fun _=>hm⟩
theorem jll {w W w':World} {x o:Nat} {C:Array Value} {T:TypeId} {s:Int} {t:Tr} {L:List Ent} (h:jbk W w' x o C T s t L) (hb:Below w.heap.size w W):jbk w w' x o C T s t L:=by
 obtain ⟨t',h1,h2,h3,h4,h5⟩:=h
 exact ⟨t',h1,h2,h3,Same.trans (Same.of_below (own:=fun _=>False) hb) h4 (fun k _ e=>e.elim False.elim id),fun n hn=>(h5 n hn).imp id (Nat.le_trans hb.size)⟩
theorem jo6 {PW:World->Nat->(Nat->Prop)->Int->List (Int × Int)->Prop} {w W w':World} {x:Nat} {own:Nat->Prop} {now:Int} {L:List (Int × Int)} (h:jff PW W w' x own now L) (hb:Below w.heap.size w W):jff PW w w' x own now L:=by
 obtain ⟨own',h1,h2,h3⟩:=h
 exact ⟨own',h1,Same.trans (Same.of_below (own:=fun _=>False) hb) h2 (fun k _ e=>e.elim False.elim id),fun k hk=>(h3 k hk).imp id (Nat.le_trans hb.size)⟩
theorem qdi {w w2 W w':World} {x:Nat} {own:Nat->Prop} {now s1 s2 n:Int} {ti ti' tt:Tr} {Lt:List Ent} {L':List (Int × Int)}
 (hown:∀ k,k=x\/ti.has k\/tt.has k->own k) (hlt:∀ k,own k->k<w.heap.size)
 (hx2:w2.heap[x]?=some (.cells #[iv now,.pointer ti'.addr,iv s1,.pointer tt.addr,iv n] 170 (0,0))) (ht2:ti'.at w2) (hs2:Same (fun b=>b=x) w w2) (hh2:∀ k,ti'.has k->ti.has k\/w.heap.size<=k) (hb:Below w2.heap.size w2 W)
 (A2:jbk W w' x 3 #[iv now,.pointer ti'.addr,iv s1,.pointer tt.addr,iv n] 170 s2 tt Lt)
 (e1:s1=L'.length) (e2:s2=L'.length) (so1:srt ti'.toL) (so2:srt Lt) (p1:ti'.toL.Perm (L'.map idE)) (p2:Lt.Perm (L'.map jk4)) (on:jcz L'):jff pwW w w' x own now L':=by
 obtain ⟨tt',a1,a2,a3,a4,a5⟩:=A2
 have hsW:Same (fun b=>b=x) w W:=Same.trans hs2 (Same.of_below (own:=fun _=>False) hb) (fun k _ e=>e.elim id False.elim)
 have hs:Same (fun b=>b=x) w w':=Same.trans hsW a4 (fun k _ e=>e.elim id id)
 have hxW:=(hb.block x (blt hx2)).trans hx2
 have ht':ti'.at w':=Tr.at_same (ti'.at_below ht2 hb) a4 hxW (by decide)
 subst e1 e2 a3
 refine ⟨fun k=>own k\/(w.heap.size<=k/\k<w'.heap.size),⟨ti',tt',by simpa using a1,⟨ht',a2⟩,⟨so1,so2⟩,⟨p1,p2⟩,on,?_,?_⟩,?_,fun k hk=>hk.imp id (fun h=>h.1)⟩
 ·rintro k (rfl|hk|hk)
  ·exact .inl (hown _ (.inl rfl))
  ·rcases hh2 k hk with h|h
   ·exact .inl (hown k (.inr (.inl h)))
   ·exact .inr ⟨h,ti'.at_lt ht' hk⟩
  ·rcases a5 k hk with h|h
   ·exact .inl (hown k (.inr (.inr h)))
   ·exact .inr ⟨Nat.le_trans hsW.size h,tt'.at_lt a2 hk⟩
 ·rintro k (h|h)
  ·exact Nat.lt_of_lt_of_le (hlt k h) hs.size
  ·exact h.2
 ·exact ⟨hs.os,hs.tape,hs.output,hs.size,fun k hk hn=>hs.block k hk (fun e=>hn (hown k (.inl e)))⟩
theorem jly (id:Int) (w:World):Calls Tryz.prog 111 #[iv id] w fun e w'=>e=.returned (.agg #[iv id,iv 0])/\Below w.heap.size w w':=by
 go_enter Tryz.func111,Tryz.ntmps111
 go_wp2
 exact bodyPost_ret (v:=.agg #[iv id,iv 0]) (by simp [results,Tryz.results111,go_sem]) rfl ⟨rfl,bL⟩
theorem jlw (id a:Int) (w:World):Calls Tryz.prog 113 #[iv id,iv a] w fun e w'=>e=.returned (.agg #[iv a,iv id])/\Below w.heap.size w w':=by
 go_enter Tryz.func113,Tryz.ntmps113
 go_wp2
 exact bodyPost_ret (v:=.agg #[iv a,iv id]) (by simp [results,Tryz.results113,go_sem]) rfl ⟨rfl,bL⟩
theorem qgf {w:World} {now:Int}:pwW (w.alloc (.cells #[iv now,.pointer none,iv 0,.pointer none,iv 0] 170)) w.heap.size (fun k=>k=w.heap.size) now [] :=
 ⟨.leaf,.leaf,heap_alloc_new _ _,⟨trivial,trivial⟩,⟨List.Pairwise.nil,List.Pairwise.nil⟩,⟨List.Perm.refl _,List.Perm.refl _⟩,by simp [jcz],fun k hk=>hk.elim id (fun h=>h.elim False.elim False.elim),fun k hk=>by subst hk;simp⟩
theorem jsd (w:World) (now:Int):Calls Tryz.prog 55 #[iv now] w fun e w'=>∃ x own,e=.returned (pt x 0)/\pwW w' x own now []/\(∀ k,own k->w.heap.size<=k)/\Below w.heap.size w w':=by
 have HN:Hid (pwW (w.alloc (.cells #[iv now,.pointer none,iv 0,.pointer none,iv 0] 170)) w.heap.size (fun k=>k=w.heap.size) now []):=qgf
 go_enter Tryz.func55,Tryz.ntmps55
 go_wp2
 go_ret
 exact ⟨_,_,rfl,HN.out,fun k hk=>Nat.le_of_eq hk.symm,bL⟩
theorem jxf (x:Nat) (id a:Int) (w:World) (Q1:World->Prop) (Q2:World->Prop)
 (HI:Hid (∀ W,Below w.heap.size w W->Calls Tryz.prog 111 #[iv id] W fun e w'=>e=.returned (.agg #[iv id,iv 0])/\Below W.heap.size W w'))
 (HT:Hid (∀ W,Calls Tryz.prog 113 #[iv id,iv a] W fun e w'=>e=.returned (.agg #[iv a,iv id])/\Below W.heap.size W w'))
 (HP1:Hid (∀ W,Below w.heap.size w W->Calls Tryz.prog 143 #[pt x 1,.agg #[iv id,iv 0]] W fun e w'=>e=.returned (.tuple #[])/\Q1 w'))
 (HP2:Hid (∀ w2,Q1 w2->∀ W,Below w2.heap.size w2 W->Calls Tryz.prog 143 #[pt x 3,.agg #[iv a,iv id]] W fun e w'=>e=.returned (.tuple #[])/\Q2 w')) :
 Calls Tryz.prog 115 #[pt x 0,iv id,iv a] w fun e w'=>e=.returned (.tuple #[])/\Q2 w':=by
 go_enter Tryz.func115,Tryz.ntmps115
 go_wp2_with fail
 go_region_held3 (fun _=>True) (trivial) (first
  | (go_at_call 111;refine (HI.out _ bL).mono ?_;rintro e w1 ⟨rfl,b1⟩
     have hb1:Below w.heap.size w w1:=Below.trans (show Below w.heap.size w _ from bL) (b1.mono (by simp)))
  | (go_at_call 143;refine (HP1.out _ bL).mono ?_;rintro e w2 ⟨rfl,q1⟩))
 go_wp2_with fail
 go_region_held3 (fun _=>True) (trivial) (first
  | (go_at_call 113;refine (HT.out _).mono ?_;rintro e w3 ⟨rfl,b3⟩
     have hb3:Below w2.heap.size w2 w3:=Below.trans (show Below w2.heap.size w2 _ from bL) (b3.mono (by simp)))
  | (go_at_call 143;refine (HP2.out _ q1 _ bL).mono ?_;rintro e w4 ⟨rfl,q2⟩))
 go_wp2
 go_end0
 exact ⟨rfl,q2⟩
theorem jtq {w:World} {x:Nat} {own:Nat->Prop} {now:Int} {L:List (Int × Int)} (id a:Int) (h:pwW w x own now L) (hm:(a,id)∈L) (hl:L.length * 16+16<=140737488351232) :
 Calls Tryz.prog 115 #[pt x 0,iv id,iv a] w fun e w'=>e=.returned (.tuple #[])/\jff pwW w w' x own now (L.filter (fun p=>p.2 != id)):=by
 obtain ⟨ti,tt,h1,⟨h2,h2'⟩,⟨h3,h3'⟩,⟨h4,h4'⟩,h5,h6,h7⟩:=h
 have hxw:x<w.heap.size:=(blt h1)
 have hlen:=jjk h5 hm
 obtain ⟨u,hu⟩:=jy0 h4 hm
 obtain ⟨u',hu'⟩:=jw8 h4' hm
 refine jxf x id a w (fun w2=>jbk w w2 x 1 #[iv now,.pointer ti.addr,iv L.length,.pointer tt.addr,iv L.length] 170 ((L.length:Int) - 1) ti (jd0 (id,0) ti.toL)) _
  (fun W _=>jly id W) (fun W=>jlw id a W) (fun W hb=>?_) (fun w2 A1 W hb=>?_)
 ·have hxW:=(hb.block x hxw).trans h1
  exact (jee x 1 _ _ (by decide) ti L.length id 0 u W hxW rfl rfl (ti.at_below h2 hb) h3 hu (by omega)).mono (by rintro e w' ⟨rfl,A⟩;exact ⟨rfl,jll A hb⟩)
 ·obtain ⟨ti',a1,a2,a3,a4,a5⟩:=A1
  have a1':w2.heap[x]?=some (.cells #[iv now,.pointer ti'.addr,iv ((L.length:Int) - 1),.pointer tt.addr,iv L.length] 170 (0,0)):=by simpa using a1
  have hxW:=(hb.block x (blt a1')).trans a1'
  refine (jee x 3 _ _ (by decide) tt L.length a id u' W hxW rfl rfl (tt.at_below (Tr.at_same h2' a4 h1 (by decide)) hb) h3' hu' (by omega)).mono ?_
  rintro e w' ⟨rfl,A2⟩
  exact ⟨rfl,qdi h6 h7 a1' a2 a4 a5 hb A2 (by omega) (by omega) (a3▸jjq _ h3) (jjq _ h3') (a3▸qeu h4) (qa7 h4' h5 hm) (jen _ h5)⟩
theorem jid {w:World} {R:Nat} {c0 c1 c2 c3 c4:Value} {T:TypeId} (h:w.heap[R]?=some (.cells #[c0,c1,c2,c3,c4] T (0,0))):w.cell? (aq R 0)=some c0:=by rw [Joins.cell_of_block h];rfl
theorem qem (x:Nat) (now id a:Int) (w:World) (h0:w.cell? (aq x 0)=some (iv now)) (ha:a<=now) :
 Calls Tryz.prog 75 #[pt x 0,iv id,iv a] w fun e w'=>e=.returned (iv 3)/\w=w':=by
 go_enter Tryz.func75,Tryz.ntmps75
 go_wp2
 go_ret
 exact ⟨rfl,rfl⟩
theorem qbw (x:Nat) (now id a v:Int) (taken:Bool) (w:World) (Q1:World->Prop) (Q2:World->Prop) (h0:w.cell? (aq x 0)=some (iv now)) (ha:¬ a<=now)
 (HI:Hid (∀ W,Below w.heap.size w W->Calls Tryz.prog 111 #[iv id] W fun e w'=>e=.returned (.agg #[iv id,iv 0])/\Below W.heap.size W w'))
 (HT:Hid (∀ W,Calls Tryz.prog 113 #[iv id,iv a] W fun e w'=>e=.returned (.agg #[iv a,iv id])/\Below W.heap.size W w'))
 (HG:Hid (∀ W,Below w.heap.size w W->Calls Tryz.prog 95 #[pt x 1,.agg #[iv id,iv 0]] W fun e w'=>e=.returned (.tuple #[iv v,.bool taken])/\Below W.heap.size W w'))
 (HP1:Hid (taken=false->∀ W,Below w.heap.size w W->Calls Tryz.prog 112 #[pt x 1,.agg #[iv id,iv 0],iv a] W fun e w'=>e=.returned (.tuple #[])/\Q1 w'))
 (HP2:Hid (taken=false->∀ w2,Q1 w2->∀ W,Below w2.heap.size w2 W->Calls Tryz.prog 112 #[pt x 3,.agg #[iv a,iv id],iv 0] W fun e w'=>e=.returned (.tuple #[])/\Q2 w')) :
 Calls Tryz.prog 75 #[pt x 0,iv id,iv a] w fun e w'=>(taken=true/\e=.returned (iv 4)/\Below w.heap.size w w')\/(taken=false/\e=.returned (iv 0)/\Q2 w'):=by
 have ha':decide (a<=now)=false:=by simpa using ha
 go_enter Tryz.func75,Tryz.ntmps75
 go_wp2_with fail
 go_region_held3 (fun _=>True) (trivial) (first
  | (go_at_call 111;refine (HI.out _ bL).mono ?_;rintro e w1 ⟨rfl,b1⟩
     have hb1:Below w.heap.size w w1:=Below.trans (show Below w.heap.size w _ from bL) (b1.mono (by simp)))
  | (go_at_call 95;refine (HG.out _ bL).mono ?_;rintro e w2 ⟨rfl,b2⟩))
 have hb2:Below w.heap.size w w2:=Below.trans (show Below w.heap.size w _ from bL) (b2.mono (by have:=hb1.size;simp<;>omega))
 clear b2 hb1 b1
 cases taken
 ·go_wp2_with fail
  go_region_held3 (fun _=>True) (trivial) (first
   | (go_at_call 111;refine (HI.out _ bL).mono ?_;rintro e w3 ⟨rfl,b3⟩
      have hb3:Below w.heap.size w w3:=Below.trans (show Below w.heap.size w _ from bL) (b3.mono (by have:=hb2.size;simp<;>omega)))
   | (go_at_call 112;refine (HP1.out (by trivial) _ bL).mono ?_;rintro e w4 ⟨rfl,q1⟩))
  go_wp2_with fail
  go_region_held3 (fun _=>True) (trivial) (first
   | (go_at_call 113;refine (HT.out _).mono ?_;rintro e w5 ⟨rfl,b5⟩
      have hb5:Below w4.heap.size w4 w5:=Below.trans (show Below w4.heap.size w4 _ from bL) (b5.mono (by simp)))
   | (go_at_call 112;refine (HP2.out (by trivial) _ q1 _ bL).mono ?_;rintro e w6 ⟨rfl,q2⟩))
  go_wp2
  go_ret
  exact ⟨rfl,q2⟩
 ·go_wp2
  go_ret
  exact ⟨rfl,hb2⟩
theorem jiv {w w':World} {x:Nat} {own:Nat->Prop} {now:Int} {L:List (Int × Int)} (h:pwW w x own now L) (hb:Below w.heap.size w w'):jff pwW w w' x own now L :=
 ⟨own,jcb h hb.size (fun k hk=>hb.block k (jfj h k hk)),Same.of_below hb,fun _ hk=>.inl hk⟩
theorem qei {w:World} {x:Nat} {own:Nat->Prop} {now:Int} {L:List (Int × Int)} (id a:Int) (h:pwW w x own now L) (hl:L.length * 16+16<=140737488351232) :
 Calls Tryz.prog 75 #[pt x 0,iv id,iv a] w fun e w'=>e=.returned (iv (qdg now L id a))/\jff pwW w w' x own now (jg1 now L id a):=by
 have hpw:=h
 obtain ⟨ti,tt,h1,⟨h2,h2'⟩,⟨h3,h3'⟩,⟨h4,h4'⟩,h5,h6,h7⟩:=h
 have hxw:x<w.heap.size:=(blt h1)
 by_cases ha:a<=now
 ·refine (qem x now id a w (jid h1) ha).mono ?_
  rintro e w' ⟨rfl,rfl⟩
  simp only [qdg,jg1,if_pos ha]
  exact ⟨trivial,jiv hpw (Below.refl _ _)⟩
 ·refine (qbw x now id a ((jb5 (id,0) ti.toL).getD 0) (jb5 (id,0) ti.toL).isSome w (fun w2=>jbk w w2 x 1 #[iv now,.pointer ti.addr,iv L.length,.pointer tt.addr,iv L.length] 170 ((L.length:Int)+1) ti (jbl (id,0) a ti.toL)) (fun w'=>jff pwW w w' x own now (L++[(a,id)])) (jid h1) ha
   (fun W _=>jly id W) (fun W=>jlw id a W) (fun W hb=>?_) (fun ht W hb=>?_) (fun ht w2 A1 W hb=>?_)).mono ?_
  ·exact jd3 x 1 ti id 0 W (by rw [Joins.cell_of_block ((hb.block x hxw).trans h1)];rfl) (ti.at_below h2 hb) h3
  ·have hn:jb5 (id,0) ti.toL=none:=by simpa using ht
   have hxW:=(hb.block x hxw).trans h1
   exact (ji2 x 1 _ _ (by decide) ti L.length id 0 a W hxW rfl rfl (ti.at_below h2 hb) h3 hn (by omega)).mono (by rintro e w' ⟨rfl,A⟩;exact ⟨rfl,jll A hb⟩)
  ·have hn:jb5 (id,0) ti.toL=none:=by simpa using ht
   have hno:=(ji9 h4).1 hn
   obtain ⟨ti',a1,a2,a3,a4,a5⟩:=A1
   have a1':w2.heap[x]?=some (.cells #[iv now,.pointer ti'.addr,iv ((L.length:Int)+1),.pointer tt.addr,iv L.length] 170 (0,0)):=by simpa using a1
   have hxW:=(hb.block x (blt a1')).trans a1'
   refine (ji2 x 3 _ _ (by decide) tt L.length a id 0 W hxW rfl rfl (tt.at_below (Tr.at_same h2' a4 h1 (by decide)) hb) h3' (joq h4' hno) (by omega)).mono ?_
   rintro e w' ⟨rfl,A2⟩
   have ho:=jih (now:=now) (id:=id) (at':=a) h5
   rw [jg1,if_neg ha,if_neg hno] at ho
   exact ⟨rfl,qdi h6 h7 a1' a2 a4 a5 hb A2 (by simp) (by simp) (a3▸jg7 _ _ h3) (jg7 _ _ h3') (a3▸jrt h4 rfl hn) (jrt h4' rfl (joq h4' hno)) ho⟩
  ·rintro e w' (⟨ht,rfl,hb⟩|⟨ht,rfl,hq⟩)
   ·have hno:0<=jo8 L id:=Classical.byContradiction fun hc=>by rw [(ji9 h4).2 hc] at ht;simp at ht
    simp only [qdg,jg1,if_neg ha,if_pos hno]
    exact ⟨trivial,jiv hpw hb⟩
   ·have hno:=(ji9 h4).1 (by simpa using ht)
    simp only [qdg,jg1,if_neg ha,if_neg hno]
    exact ⟨trivial,hq⟩
theorem jvz (x:Nat) (id v:Int) (taken:Bool) (w:World) (Q2:World->Prop)
 (HI:Hid (∀ W,Below w.heap.size w W->Calls Tryz.prog 111 #[iv id] W fun e w'=>e=.returned (.agg #[iv id,iv 0])/\Below W.heap.size W w'))
 (HG:Hid (∀ W,Below w.heap.size w W->Calls Tryz.prog 95 #[pt x 1,.agg #[iv id,iv 0]] W fun e w'=>e=.returned (.tuple #[iv v,.bool taken])/\Below W.heap.size W w'))
 (HD:Hid (taken=true->∀ W,Below w.heap.size w W->Calls Tryz.prog 115 #[pt x 0,iv id,iv v] W fun e w'=>e=.returned (.tuple #[])/\Q2 w')) :
 Calls Tryz.prog 77 #[pt x 0,iv id] w fun e w'=>(taken=false/\e=.returned (iv 5)/\Below w.heap.size w w')\/(taken=true/\e=.returned (iv 0)/\Q2 w'):=by
 go_enter Tryz.func77,Tryz.ntmps77
 go_wp2_with fail
 go_region_held3 (fun _=>True) (trivial) (first
  | (go_at_call 111;refine (HI.out _ bL).mono ?_;rintro e w1 ⟨rfl,b1⟩
     have hb1:Below w.heap.size w w1:=Below.trans (show Below w.heap.size w _ from bL) (b1.mono (by simp)))
  | (go_at_call 95;refine (HG.out _ bL).mono ?_;rintro e w2 ⟨rfl,b2⟩))
 have hb2:Below w.heap.size w w2:=Below.trans (show Below w.heap.size w _ from bL) (b2.mono (by have:=hb1.size;simp<;>omega))
 clear b2 hb1 b1
 cases taken
 ·go_wp2
  go_ret
  exact ⟨rfl,hb2⟩
 ·go_wp2_with (go_at_call 115;refine (HD.out (by trivial) _ bL).mono ?_;rintro e w4 ⟨rfl,q2⟩)
  go_ret
  exact ⟨rfl,q2⟩
theorem jz0 {w:World} {x:Nat} {own:Nat->Prop} {now:Int} {L:List (Int × Int)} (id:Int) (h:pwW w x own now L) (hl:L.length * 16+16<=140737488351232) :
 Calls Tryz.prog 77 #[pt x 0,iv id] w fun e w'=>e=.returned (iv (jqo L id))/\jff pwW w w' x own now (jbs L id):=by
 have hpw:=h
 obtain ⟨ti,tt,h1,⟨h2,h2'⟩,⟨h3,h3'⟩,⟨h4,h4'⟩,h5,h6,h7⟩:=h
 have hxw:x<w.heap.size:=(blt h1)
 refine (jvz x id ((jb5 (id,0) ti.toL).getD 0) (jb5 (id,0) ti.toL).isSome w (fun w'=>jff pwW w w' x own now (L.filter (fun p=>p.2 != id))) (fun W _=>jly id W) (fun W hb=>?_) (fun ht W hb=>?_)).mono ?_
 ·exact jd3 x 1 ti id 0 W (by rw [Joins.cell_of_block ((hb.block x hxw).trans h1)];rfl) (ti.at_below h2 hb) h3
 ·obtain ⟨v,hv⟩:=Option.isSome_iff_exists.1 ht
  rw [hv]
  have hm:=qcs h4 hv
  exact (jtq id v (jcb hpw hb.size (fun k hk=>hb.block k (h7 k hk))) hm hl).mono (by rintro e w' ⟨rfl,A⟩;exact ⟨rfl,jo6 A hb⟩)
 ·rintro e w' (⟨ht,rfl,hb⟩|⟨ht,rfl,hq⟩)
  ·have hno:jo8 L id<0:=Int.not_le.1 ((ji9 h4).1 (by simpa using ht))
   simp only [jqo,jbs,if_pos hno]
   exact ⟨trivial,jiv hpw hb⟩
  ·have hno:¬ jo8 L id<0:=fun hc=>by rw [(ji9 h4).2 (Int.not_le.2 hc)] at ht;simp at ht
   refine ⟨by rw [jqo,if_neg hno],?_⟩
   rw [jm9 h5]
   exact hq
theorem jv2 (x:Nat) (s:Int) (w:World) (HG:Hid (∀ W,Below w.heap.size w W->Calls Tryz.prog 94 #[pt x 1] W fun e w'=>e=.returned (iv s)/\Below W.heap.size W w')) :
 Calls Tryz.prog 81 #[pt x 0] w fun e w'=>e=.returned (iv s)/\Below w.heap.size w w':=by
 go_enter Tryz.func81,Tryz.ntmps81
 go_wp2_with (go_at_call 94;refine (HG.out _ bL).mono ?_;rintro e w1 ⟨rfl,b1⟩)
 go_ret
 exact ⟨rfl,b1⟩
theorem jy6 {w:World} {x:Nat} {own:Nat->Prop} {now:Int} {L:List (Int × Int)} (h:pwW w x own now L) :
 Calls Tryz.prog 81 #[pt x 0] w fun e w'=>e=.returned (iv L.length)/\jff pwW w w' x own now L:=by
 have hpw:=h
 obtain ⟨ti,tt,h1,_⟩:=h
 have hxw:x<w.heap.size:=(blt h1)
 exact (jv2 x L.length w (fun W hb=>jpa x 1 L.length W (by rw [Joins.cell_of_block ((hb.block x hxw).trans h1)];rfl))).mono (by rintro e w' ⟨rfl,hb⟩;exact ⟨rfl,jiv hpw hb⟩)
theorem jt7 (x:Nat) (a1 a2 v:Int) (some':Bool) (w:World)
 (HF:Hid (∀ W,Below w.heap.size w W->Calls Tryz.prog 117 #[pt x 3] W fun e w'=>e=.returned (.tuple #[.agg #[iv a1,iv a2,iv v],.bool some'])/\Below W.heap.size W w')) (h0:some'=false->a1=0/\a2=0) :
 Calls Tryz.prog 79 #[pt x 0] w fun e w'=>e=.returned (.tuple #[.agg #[iv a1,iv a2],.bool some'])/\Below w.heap.size w w':=by
 go_enter Tryz.func79,Tryz.ntmps79
 go_wp2_with fail
 refine (HF.out _ bL).mono ?_
 rintro e w1 ⟨rfl,b1⟩
 have n0:w1.heap[w.heap.size]?=some (.cells #[iv 0,iv 0] 131 (0,0)):=(b1.block _ (by simp)).trans (heap_alloc_new w _)
 have hsz:w.heap.size<w1.heap.size:=(blt n0)
 obtain ⟨r0,r1⟩:=jje n0
 have f0:=ja0 n0 0
 have f1:=ja0 n0 1
 have w01:Below w.heap.size w w1:=((Below.refl _ _).alloc (Nat.le_refl _) _).trans (b1.mono (by simp))
 have hne:w1.heap.size≠w.heap.size:=by omega
 have hle:w.heap.size<=w1.heap.size:=by omega
 clear b1
 cases some'
 ·obtain ⟨rfl,rfl⟩:=h0 rfl
  go_wp2
  refine bodyPost_ret (v:=.tuple #[.agg #[iv 0,iv 0],.bool false]) (by simp [results,Tryz.results79,go_sem,r0,r1,hsz]) rfl ⟨rfl,?_⟩
  exact ((w01.setCell (p:=(aq w.heap.size 0)) (Nat.le_refl _) _).setCell (p:=(aq w.heap.size 1)) (Nat.le_refl _) _).alloc (by simpa [World.setCell] using hle) _
 ·go_wp2
  refine bodyPost_ret (v:=.tuple #[.agg #[iv a1,iv a2],.bool true]) (by simp [results,Tryz.results79,go_sem,r0,r1,hsz]) rfl ⟨rfl,?_⟩
  exact ((w01.setCell (p:=(aq w.heap.size 0)) (Nat.le_refl _) _).setCell (p:=(aq w.heap.size 1)) (Nat.le_refl _) _).alloc (by simpa [World.setCell] using hle) _
theorem jhh {w:World} {x:Nat} {own:Nat->Prop} {now:Int} {L:List (Int × Int)} (h:pwW w x own now L) :
 Calls Tryz.prog 79 #[pt x 0] w fun e w'=>e=.returned (.tuple #[.agg #[iv (ja8 L).1,iv (ja8 L).2],.bool (jcf L)])/\Below w.heap.size w w':=by
 obtain ⟨ti,tt,h1,⟨h2,h2'⟩,⟨h3,h3'⟩,⟨h4,h4'⟩,h5,h6,h7⟩:=h
 have hxw:x<w.heap.size:=(blt h1)
 obtain ⟨e1,e2,e3⟩:=jsa h4' h3'
 rw [e1,e2]
 refine jt7 x _ _ (jfg tt).2 _ w (fun W hb=>jlo x 3 tt W (by rw [Joins.cell_of_block ((hb.block x hxw).trans h1)];rfl) (tt.at_below h2' hb)) ?_
 intro hf
 have:tt.toL=[]:=by simpa using hf
 simp [jfg,this]
theorem jo1:∀ {L:List (Int × Int)} {q:Nat},jcz L->q<L.length->L.eraseIdx q=L.filter (fun p=>p.2 != (L.getD q (0,0)).2)
 | [],_,_,h=>by simp at h
 | x :: xs,0,ho,_=>by
   unfold jcz at ho
   rw [List.map_cons,List.nodup_cons] at ho
   show xs=(x :: xs).filter (fun p=>p.2 != x.2)
   rw [List.filter_cons_of_neg (by simp),jc1]
   intro p hp
   have:p.2≠x.2:=fun e=>ho.1 (List.mem_map.2 ⟨p,hp,e⟩)
   simpa using this
 | x :: xs,q+1,ho,hq=>by
   have hq':q<xs.length:=by simpa using hq
   unfold jcz at ho
   rw [List.map_cons,List.nodup_cons] at ho
   have hne:x.2≠(xs.getD q (0,0)).2:=fun e=>ho.1 (List.mem_map.2 ⟨_,jes hq',e.symm⟩)
   have hg:(x :: xs).getD (q+1) (0,0)=xs.getD q (0,0):=by simp [List.getD]
   rw [hg,List.filter_cons_of_pos (by simpa using hne),List.eraseIdx_cons_succ,jo1 ho.2 hq']
theorem qeg {to:Int} {L:List (Int × Int)} (h:jcf L=false\/to<(ja8 L).1):adv to L=([],L):=by
 refine ju4 ?_
 unfold jcf ja8 at h
 by_cases hl:jb8 L L.length<0
 ·exact .inl hl
 ·rw [if_neg hl] at h
  rcases h with h|h
  ·simp at h;exact .inl h
  ·exact .inr h
theorem qbv {to:Int} {L:List (Int × Int)} (ho:jcz L) (hb:jcf L=true) (h:(ja8 L).1<=to):adv to L=(ja8 L :: (adv to (L.filter (fun p=>p.2 != (ja8 L).2))).1,(adv to (L.filter (fun p=>p.2 != (ja8 L).2))).2):=by
 have hlb:=jhf L L.length
 have h0:0<=jb8 L L.length:=by simpa [jcf] using hb
 obtain ⟨q,hq⟩:=Int.eq_ofNat_of_zero_le h0
 have hql:q<L.length:=by omega
 have hf:ja8 L=L.getD q (0,0):=by rw [ja8,if_neg (by omega),hq,Int.toNat_natCast]
 have he:L.eraseIdx q=L.filter (fun p=>p.2 != (ja8 L).2):=by rw [hf,jo1 ho hql]
 rw [qdh hq hql (hf▸h),← he,hf]
theorem jpu {L:List (Int × Int)} (hb:jcf L=true):((ja8 L).1,(ja8 L).2)∈L:=by
 have hne:L≠[]:=fun e=>by rw [e,jlf.2] at hb;cases hb
 exact (jf1 hne).2.1
structure advI (w wr:World) (x D:Nat) (own:Nat->Prop) (to:Int) (out:Value) (L o L':List (Int × Int)) (own':Nat->Prop):Prop where
 told:wr.ownsRow w.heap.size 131 2 out o.length (jdq o)
 due:wr.heap[D]?=some (.cells #[iv (ja8 L').1,iv (ja8 L').2] 131 (0,0))
 pw:pwW wr x own' to L'
 fresh:∀ k,own' k->own k\/w.heap.size<=k
 nD:¬ own' D
 no:∀ k,out.ownBlock=some k->¬ own' k/\k≠D
 same:Same own w wr
 D:w.heap.size<=D
 spec:o++(adv to L').1=(adv to L).1/\(adv to L').2=(adv to L).2
 len:o.length+L'.length=L.length
theorem qcx {w wr w2 w3 w4:World} {x D:Nat} {own own':Nat->Prop} {to:Int} {out out':Value} {L o L':List (Int × Int)} {O:Obj} (I:advI w wr x D own to out L o L' own') (hb:jcf L'=true) (hto:(ja8 L').1<=to)
 (hp:jff pwW wr w2 x own' to (L'.filter (fun p=>p.2 != (ja8 L').2)))
 (hown3:w3.ownsRow w.heap.size 131 2 out' (o.length+1) (jdq o++[iv (ja8 L').1,iv (ja8 L').2])) (hg:(w2.alloc O).grownBy w3 out.ownBlock) (hat:out'.ownBlock=out.ownBlock\/out'.ownBlock=some (w2.alloc O).heap.size) (b4:Below w3.heap.size w3 w4) :
 ∃ own'',advI w ((w4.setCell (aq D 0) (iv (ja8 (L'.filter (fun p=>p.2 != (ja8 L').2))).1)).setCell (aq D 1) (iv (ja8 (L'.filter (fun p=>p.2 != (ja8 L').2))).2)) x D own to out' L (o++[ja8 L']) (L'.filter (fun p=>p.2 != (ja8 L').2)) own'':=by
 obtain ⟨own2,p2,s2,f2⟩:=hp
 have hm:=jpu hb
 have ho:jcz L':=by obtain ⟨_,_,_,_,_,_,h,_⟩:=I.pw;exact h
 have hlen:=jjk ho hm
 have lt':=jfj I.pw
 have lt2:=jfj p2
 have hDr:D<wr.heap.size:=(blt I.due)
 have z2:=s2.size
 have z3:w2.heap.size+1<=w3.heap.size:=by have:=hg.size;simpa using this
 have z4:=b4.size
 have ko:=World.ownsRow.lt I.told
 have k3:∀ k,k<w2.heap.size->out.ownBlock≠some k->w4.heap[k]?=w2.heap[k]?:=fun k hk hn=>(b4.block k (by omega)).trans ((hg.block k (by simp;omega) (fun e=>hn e.symm)).trans (Below.heap_alloc w2 O k hk))
 have nD2:¬ own2 D:=fun e=>(f2 D e).elim I.nD (fun h=>by omega)
 have no2:∀ k,out.ownBlock=some k->¬ own2 k:=fun k hk e=>(f2 k e).elim (I.no k hk).1 (fun h=>by have:=(ko k hk).2;omega)
 have hD4:w4.heap[D]?=some (.cells #[iv (ja8 L').1,iv (ja8 L').2] 131 (0,0)):=(k3 D (by omega) (fun e=>(I.no D e).2 rfl)).trans ((s2.block D hDr I.nD).trans I.due)
 have kD:∀ k u v,k≠D->((w4.setCell (aq D 0) u).setCell (aq D 1) v).heap[k]?=w4.heap[k]?:=fun k u v hk=>(Below.heap_setCell _ (aq D 1) _ _ hk).trans (Below.heap_setCell _ (aq D 0) _ _ hk)
 have o3:=World.ownsRow.lt hown3
 have no3:∀ k,out'.ownBlock=some k->¬ own2 k/\k≠D:=by
  intro k hk
  rcases hat with e|e
  ·exact ⟨no2 k (e.symm.trans hk),(I.no k (e.symm.trans hk)).2⟩
  ·rw [hk] at e
   simp at e
   exact ⟨fun h=>by have:=lt2 k h;omega,by omega⟩
 refine ⟨own2,?_,?_,?_,?_,nD2,no3,?_,I.D,?_,?_⟩
 ·rw [jux,List.length_append,List.length_singleton]
  exact jad (jbg hown3 b4 (Nat.le_refl _)) (fun k hk=>kD k _ _ (no3 k hk).2)
 ·rw [Joins.block_setCell (Joins.block_setCell hD4 _)];rfl
 ·exact jcb p2 (by simp [World.setCell];omega) (fun k hk=>(kD k _ _ (fun e=>nD2 (e▸hk))).trans (k3 k (lt2 k hk) (fun e=>no2 k e hk)))
 ·intro k hk
  rcases f2 k hk with h|h
  ·exact I.fresh k h
  ·exact .inr (Nat.le_trans I.same.size h)
 ·refine ⟨b4.os.trans (hg.os.trans (s2.os.trans I.same.os)),b4.tape.trans (hg.tape.trans (s2.tape.trans I.same.tape)),b4.output.trans (hg.output.trans (s2.output.trans I.same.output)),by simp [World.setCell];have:=I.same.size;omega,fun k hk hn=>?_⟩
  have hkr:=Nat.lt_of_lt_of_le hk I.same.size
  rw [kD k _ _ (fun e=>by have:=I.D;omega),k3 k (by omega) (fun e=>by have:=(ko k e).1;omega),s2.block k hkr (fun e=>(I.fresh k e).elim hn (fun h=>by omega))]
  exact I.same.block k hk hn
 ·have:=qbv ho hb hto
  have hs:=I.spec
  rw [this] at hs
  simp only at hs
  exact ⟨by rw [List.append_assoc];exact hs.1,hs.2⟩
 ·rw [List.length_append,List.length_singleton]
  have:=I.len
  omega
theorem qal {w w1:World} {x:Nat} {own:Nat->Prop} {now to:Int} {L:List (Int × Int)} (h:pwW w x own now L) (hb:Below (w.heap.size+1) ((w.setCell (aq x 0) (iv to)).alloc (.cells #[] 131)) w1) :
 advI w (w1.alloc (.cells #[iv (ja8 L).1,iv (ja8 L).2] 131)) x w1.heap.size own to (.slice (some (aq w.heap.size 0)) 0 0) L [] L own:=by
 have lt:=jfj h
 have hz:w.heap.size+1<=w1.heap.size:=by have:=hb.size;simpa [World.setCell] using this
 obtain ⟨ti,tt,h1,h2,h3,h4,h5,h6,h7⟩:=h
 have hx:x<w.heap.size:=h7 x (h6 x (.inl rfl))
 have kx:∀ k,k<w.heap.size->k≠x->(w1.alloc (.cells #[iv (ja8 L).1,iv (ja8 L).2] 131)).heap[k]?=w.heap[k]?:=fun k hk hne=>by
  rw [Below.heap_alloc w1 _ k (by omega),hb.block k (by omega),Below.heap_alloc _ _ k (by simpa [World.setCell] using hk),Below.heap_setCell _ (aq x 0) _ _ hne]
 have hx0:(w1.alloc (.cells #[iv (ja8 L).1,iv (ja8 L).2] 131)).heap[x]?=some (.cells #[iv to,.pointer ti.addr,iv L.length,.pointer tt.addr,iv L.length] 170 (0,0)):=by
  rw [Below.heap_alloc w1 _ x (by omega),hb.block x (by omega),Below.heap_alloc _ _ x (by simpa [World.setCell] using hx),Joins.block_setCell h1];rfl
 have kt:∀ t:Tr,t.at w->∀ n,t.has n->n≠x:=fun t ht n hn e=>by
  obtain ⟨C',hC⟩:=t.at_type ht hn
  rw [e,h1] at hC
  simp at hC
 refine ⟨⟨by simp [jdq],.inr ⟨w.heap.size,0,#[],rfl,Nat.le_refl _,?_,Nat.le_refl _,Nat.zero_le _,rfl,rfl⟩⟩,heap_alloc_new _ _,⟨ti,tt,hx0,⟨ti.at_keep h2.1 (fun n hn=>kx n (ti.at_lt h2.1 hn) (kt ti h2.1 n hn)),tt.at_keep h2.2 (fun n hn=>kx n (tt.at_lt h2.2 hn) (kt tt h2.2 n hn))⟩,h3,h4,h5,h6,fun k hk=>by have:=lt k hk;simp;omega⟩,fun k hk=>.inl hk,fun e=>by have:=lt _ e;omega,?_,?_,by omega,⟨rfl,rfl⟩,by simp⟩
 ·rw [Below.heap_alloc w1 _ _ (by omega),hb.block _ (by omega)]
  have:=heap_alloc_new (w.setCell (aq x 0) (iv to)) (.cells #[] 131)
  simpa [World.setCell] using this
 ·intro k hk
  simp [Value.ownBlock] at hk
  subst hk
  exact ⟨fun e=>by have:=lt _ e;omega,by omega⟩
 ·refine ⟨hb.os,hb.tape,hb.output,by simp;omega,fun k hk hn=>kx k hk (fun e=>hn (e▸h6 x (.inl rfl)))⟩
end Go.Proofs.YtfhncfghblkgeaaGreat
