import Derived.Test.YtfhncfghblkgeaaGreatL27
set_option maxRecDepth 100000
set_option maxHeartbeats 2000000
namespace Go.Proofs.YtfhncfghblkgeaaGreat
open Go.RowKit
theorem Tryz.infoPAnswer:(Tryz.prog.info? 188).map (fun i=>(i.zero,i.size,i.bytes))=some (some (.agg #[iv 0,iv 0,iv 0,iv 0,iv 0,iv 0,iv 0,iv 0,iv 0]),9,72):=by kernel_rfl
def jo3 (w w':World) (B x p:Nat) (C:Array Value) (T:TypeId) (t:Tr) (s num:Int) (v:Value) (n:Nat) (E L:List Value):Prop :=
 ∃ (t':Tr) (g cap:Nat),w'.heap[x]?=some (.cells (((C.setIfInBounds (p+1) (iv (s+1))).setIfInBounds p (.pointer t'.addr)).setIfInBounds (p+2) (.slice (some (aq g 0)) (n+1) cap)) T (0,0))/\t'.at w'/\t'.toL=jbd (num,0) n t.toL/\w'.ownsRow B 188 9 (.slice (some (aq g 0)) (n+1) cap) (n+1) (E++L)/\Same (fun b=>b=x\/v.ownBlock=some b) w w'/\(∀ k,t'.has k->t.has k\/w.heap.size<=k)/\(v.ownBlock=some g\/w.heap.size<=g)
def jev (w w':World) (B x p:Nat) (C:Array Value) (T:TypeId) (t:Tr) (s num:Int) (v:Value) (n:Nat) (E L:List Value) (rm:Int):Prop :=
 ∃ (t':Tr) (g cap:Nat),w'.heap[x]?=some (.cells ((((C.setIfInBounds (p+1) (iv (s+1))).setIfInBounds p (.pointer t'.addr)).setIfInBounds (p+2) (.slice (some (aq g 0)) (n+1) cap)).setIfInBounds (p+3) (iv rm)) T (0,0))/\t'.at w'/\t'.toL=jbd (num,0) n t.toL/\w'.ownsRow B 188 9 (.slice (some (aq g 0)) (n+1) cap) (n+1) (E++L)/\Same (fun b=>b=x\/v.ownBlock=some b) w w'/\(∀ k,t'.has k->t.has k\/w.heap.size<=k)/\(v.ownBlock=some g\/w.heap.size<=g)
theorem jx7 {w w':World} {B x p n:Nat} {C:Array Value} {T:TypeId} (hT:T≠211) (hT2:T≠188) {t:Tr} {s num:Int} {v:Value} {E L:List Value} {rm rm':Int} (h2:C[p+2]?=some v) (h3:C[p+3]?=some (iv rm)) (hA:jo3 w w' B x p C T t s num v n E L) :
 ∃ gg cp:Nat,w'.cell? (aq x (p+2))=some (.slice (some (aq gg 0)) (n+1) cp)/\w'.cell? (aq x (p+3))=some (iv rm)/\w'.frozen? (aq x (p+3))=false/\x<w'.heap.size/\(rm'=rm->jev w w' B x p C T t s num v n E L rm')/\jev w (w'.setCell (aq x (p+3)) (iv rm')) B x p C T t s num v n E L rm':=by
 obtain ⟨t',g,cap,a1,a2,a3,a4,a5,a6,a7⟩:=hA
 have z2:p+2<C.size:=(blt h2)
 have e2:((((C.setIfInBounds (p+1) (iv (s+1))).setIfInBounds p (.pointer t'.addr)).setIfInBounds (p+2) (.slice (some (aq g 0)) (n+1) cap)))[p+2]?=some (.slice (some (aq g 0)) (n+1) cap):=by
  rw [Array.getElem?_setIfInBounds,if_pos rfl,if_pos (by simpa using z2)]
 have e3:((((C.setIfInBounds (p+1) (iv (s+1))).setIfInBounds p (.pointer t'.addr)).setIfInBounds (p+2) (.slice (some (aq g 0)) (n+1) cap)))[p+3]?=some (iv rm):=by
  rw [Array.getElem?_setIfInBounds,if_neg (by omega),Array.getElem?_setIfInBounds,if_neg (by omega),Array.getElem?_setIfInBounds,if_neg (by omega)];exact h3
 refine ⟨g,cap,by rw [Joins.cell_of_block a1];exact e2,by rw [Joins.cell_of_block a1];exact e3,ja0 a1 _,(blt a1),fun e=>⟨t',g,cap,?_,a2,a3,a4,a5,a6,a7⟩,⟨t',g,cap,Joins.block_setCell a1 _,t'.at_set a2 a1 hT,a3,?_,jc8 a5 x _ _ (.inl rfl),a6,a7⟩⟩
 ·rw [e,jfs e3];exact a1
 ·exact jad a4 (fun k hk=>Below.heap_setCell _ (aq x (p+3)) _ _ (fun e=>jb3 a4 a1 (fun e=>hT2 e.symm) (by rw [hk,show k=x from e])))
theorem jni {w w':World} {B x p n:Nat} {C:Array Value} {T:TypeId} {t:Tr} {s num:Int} {v:Value} {E L:List Value} {rm:Int} (h:jev w w' B x p C T t s num v n E L rm):jev w w'.drew B x p C T t s num v n E L rm:=by
 obtain ⟨t',g,cap,a1,a2,a3,a4,a5,a6,a7⟩:=h
 exact ⟨t',g,cap,a1,t'.at_keep a2 (fun _ _=>rfl),a3,a4.drew,jld a5,a6,a7⟩
theorem jza {w W w4 w5:World} {B x p n g cap:Nat} {C:Array Value} {T:TypeId} (hT:T≠211) (hT2:T≠188) {t:Tr} {s num:Int} {v:Value} {E L:List Value} {O:Obj} (hW:Below w.heap.size w W) (hA:jbe W w4 x p C T (s+1) t (jbd (num,0) n t.toL)) (hvn:∀ k,v.ownBlock=some k->∃ Co,w4.heap[k]?=some (.cells Co 188 (0,0)))
 (hown:w5.ownsRow B 188 9 (.slice (some (aq g 0)) (n+1) cap) (n+1) (E++L)) (hg:(w4.alloc O).grownBy w5 v.ownBlock) (hat:v.ownBlock=some g\/g=w4.heap.size+1) :
 jo3 w (w5.setCell (aq x (p+2)) (.slice (some (aq g 0)) (n+1) cap)) B x p C T t s num v n E L:=by
 obtain ⟨t',a1,a2,a3,a4,a5⟩:=hA
 have zW:=hW.size
 have z4:=a4.size
 have hx4:x<w4.heap.size:=(blt a1)
 have k1:∀ k,k<w4.heap.size->v.ownBlock≠some k->w5.heap[k]?=w4.heap[k]?:=fun k hk hn=>(hg.block k (by simp;omega) (fun e=>hn e.symm)).trans (Below.heap_alloc w4 O k hk)
 have z5:w4.heap.size+1<=w5.heap.size:=by have:=hg.size;simpa using this
 have hvx:v.ownBlock≠some x:=fun e=>by
  obtain ⟨Co,hC⟩:=hvn x e
  rw [a1] at hC
  simp only [Option.some.injEq,Obj.cells.injEq] at hC
  exact hT2 hC.2.1
 have hx5:=(k1 x hx4 hvx).trans a1
 have ks:∀ k,k≠x->(w5.setCell (aq x (p+2)) (.slice (some (aq g 0)) (n+1) cap)).heap[k]?=w5.heap[k]?:=fun k hk=>Below.heap_setCell _ (aq x (p+2)) _ _ hk
 have hgx:g≠x:=by
  rintro rfl
  rcases hat with e|e
  ·exact hvx e
  ·omega
 refine ⟨t',g,cap,Joins.block_setCell hx5 _,t'.at_keep a2 (fun k hk=>?_),a3,jad hown (fun k hk=>ks k (fun e=>hgx (by simp [Value.ownBlock] at hk;exact hk.trans e))),⟨hg.os.trans (a4.os.trans hW.os),hg.tape.trans (a4.tape.trans hW.tape),hg.output.trans (a4.output.trans hW.output),by simp [World.setCell];omega,fun k hk hn=>?_⟩,fun k hk=>(a5 k hk).imp id (fun e=>by omega),hat.imp id (fun e=>by omega)⟩
 ·have hk4:=t'.at_lt a2 hk
  obtain ⟨C',hC⟩:=t'.at_type a2 hk
  have hkx:k≠x:=fun e=>by
   rw [e,a1] at hC
   simp only [Option.some.injEq,Obj.cells.injEq] at hC
   exact hT hC.2.1
  refine (ks k hkx).trans (k1 k hk4 (fun e=>?_))
  obtain ⟨Co,hCo⟩:=hvn k e
  rw [hCo] at hC
  simp only [Option.some.injEq,Obj.cells.injEq] at hC
  exact absurd hC.2.1 (by decide)
 ·rw [ks k (fun e=>hn (.inl e)),k1 k (by omega) (fun e=>hn (.inr e)),a4.block k (by omega) (fun e=>hn (.inl e))]
  exact hW.block k hk
theorem qck {W:World} {x:Nat} {own:Nat->Prop} {V:PV} (id at':Int) (h:psm W x own V) (hz:V.atl.length<=4294967296) :
 Calls Tryz.prog 75 #[pt V.aw 0,iv id,iv at'] W fun e w'=>e=.returned (iv (qaf V.an V.atl id at'))/\jaz W w' x own { V with atl:=jfd V.an V.atl id at' }:=by
 obtain ⟨g,h⟩:=h
 refine (timersW.set id at' h.aw (by omega)).mono ?_
 rintro e w' ⟨rfl,ha⟩
 exact ⟨rfl,h.turnA ha⟩
def PV.aadd (V:PV) (a:PAns) (up:Int):PV:={ V with atl:=jfd V.an V.atl a.t up,att:=jbd (a.t,0) V.al.length V.att,al:=V.al++[a],arm:=if V.arm<(V.al.length:Int)+1 then (V.al.length:Int)+1 else V.arm }
theorem jmi (l:List PAns):(jd2 l).length=l.length * 9:=by
 induction l with
 | nil=>rfl
 | cons o l ih=>simp only [jd2,List.flatMap_cons,List.length_append] at ih ⊢;rw [ih];simp [PAns.vals];omega
theorem jym {W w':World} {x:Nat} {own:Nat->Prop} {V:PV} {g:PG} (h:PMem W x own V g) (a:PAns) (hn:jb0 (a.t,0) V.att=none) {rm:Int} (hA:jev W w' 0 x 24 (jb9 V g) 117 g.att V.att.length a.t (.slice g.ao V.al.length g.ac) V.al.length (jd2 V.al) a.vals rm) :
 jaz W w' x own { V with att:=jbd (a.t,0) V.al.length V.att,al:=V.al++[a],arm:=rm }:=by
 obtain ⟨t',b,cap,a1,a2,a3,a4,a5,a6,a7⟩:=hA
 rw [h.att.2] at a3
 have e1:(V.att.length:Int)+1=((jbd (a.t,0) V.al.length V.att).length:Int):=by rw [jkj hn];omega
 have e2:(V.al++[a]).length=V.al.length+1:=by simp
 rw [e1] at a1
 have hs':Same (g.xs V x) W w':=jce a5 (fun k e=>e.elim .inl (fun e=>.inr (.inr e)))
 refine h.turn hs' (V':={ V with att:=jbd (a.t,0) V.al.length V.att,al:=V.al++[a],arm:=rm }) (g':={ g with att:=t',ao:=some (aq b 0),ac:=cap }) ?_ rfl ⟨rfl,rfl,rfl⟩ ⟨rfl,rfl,rfl,rfl⟩ ⟨rfl,rfl,rfl,rfl⟩ ⟨h.stay hs' h.ot.1,h.ot.2,fun _ e=>.inl e⟩ ⟨h.stay hs' h.qt.1,h.qt.2,fun _ e=>.inl e⟩ ⟨h.stay hs' h.qz.1,h.qz.2,fun _ e=>.inl e⟩ ⟨h.stay hs' h.lu.1,h.lu.2,fun _ e=>.inl e⟩ ⟨a2,a3,a6⟩ ?_ ?_
 ·rw [a1]
  unfold jb9
  simp only [e2]
  rfl
 ·refine ⟨jad h.orow (fun k e=>a5.block k (World.ownsRow.lt h.orow k e).2 (fun c=>?_)),fun k e=>.inl e⟩
  rcases c with c|c
  ·exact jb3 h.orow h.blk (by decide) (by rw [e,show k=x from c])
  ·obtain ⟨Co,hCo⟩:=jgj h.arow c
   exact jb3 h.orow hCo (by decide) e
 ·show w'.ownsRow 0 188 9 (.slice (some (aq b 0)) (V.al++[a]).length cap) (V.al++[a]).length (jd2 (V.al++[a]))/\∀ k,Value.ownBlock (.slice (some (aq b 0)) (V.al++[a]).length cap)=some k->_
  rw [e2]
  refine ⟨?_,fun k e=>?_⟩
  ·have e3:jd2 (V.al++[a])=jd2 V.al++a.vals:=by simp [jd2]
   rw [e3]
   exact a4
  ·have e4:b=k:=by simpa [Value.ownBlock] using e
   rw [← e4]
   exact a7
theorem qcr (a:PAns) (up:Int) (w:World) (x:Nat) (own:Nat->Prop) (V:PV) (h:psm w x own V) (hs:srt V.att) (hn:jb0 (a.t,0) V.att=none) (hz:V.al.length<=4294967296) (hzt:V.att.length<=4294967296) (hz2:V.atl.length<=4294967296) :
 Calls Tryz.prog 102 #[pt x 23,a.val,iv up] w fun e w'=>e=.returned (.tuple #[])/\jaz w w' x own (V.aadd a up):=by
 have hw:=jes h
 have hxo:own x:=by obtain ⟨g,h⟩:=h;exact h.ownx
 have HS:Hid (jel w own 1 x V { V with atl:=jfd V.an V.atl a.t up } 75 #[pt V.aw 0,iv a.t,iv up] (iv (qaf V.an V.atl a.t up))):=jas hw (fun W own' hp=>qck a.t up hp hz2)
 have c23:w.cell? (aq x 23)=some (pt V.aw 0):=by obtain ⟨g,h⟩:=h;exact h.cell 23 _ rfl
 have hxw:x<w.heap.size:=hw x hxo
 have HT0:Hid (jj1 w own 1 (w.alloc (.cells #[iv a.k,iv a.t,iv a.c,iv a.u,iv a.o,iv a.rk,iv a.ro,iv a.rc,iv a.ru] 188)) x V):=jgo h ((Below.refl _ _).alloc (Nat.le_refl _) _) (by simp)
 have ob0:Hid ((w.alloc (.cells #[iv a.k,iv a.t,iv a.c,iv a.u,iv a.o,iv a.rk,iv a.ro,iv a.rc,iv a.ru] 188)).heap[w.heap.size]?=some (.cells #[iv a.k,iv a.t,iv a.c,iv a.u,iv a.o,iv a.rk,iv a.ro,iv a.rc,iv a.ru] 188 (0,0))):=heap_alloc_new w _
 have HC:Hid (∀ W,jj1 w own 1 W x { V with atl:=jfd V.an V.atl a.t up }->W.cell? (aq x 23)=some (pt V.aw 0)):=fun W hT=>by
  obtain ⟨o1,⟨g,a1⟩,_⟩:=hT
  exact a1.cell 23 _ rfl
 have c23':=(((Below.refl w.heap.size w).alloc (Nat.le_refl _) (.cells #[iv a.k,iv a.t,iv a.c,iv a.u,iv a.o,iv a.rk,iv a.ro,iv a.rc,iv a.ru] 188)).cell (p:=(aq x 23)) hxw).trans c23
 replace hw:Hid _:=hw
 unfold PAns.val
 obtain ⟨i0,j0,j1,j2,j3⟩:=info_parts Tryz.infoPAnswer
 clear h c23
 go_enter Tryz.func102,Tryz.ntmps102
 go_wp2_with fail
 generalize w.alloc (.cells #[iv a.k,iv a.t,iv a.c,iv a.u,iv a.o,iv a.rk,iv a.ro,iv a.rc,iv a.ru] 188)=W0 at HT0 ob0 c23' ⊢
 have lw0:w.heap.size<W0.heap.size:=(blt ob0.out)
 have hx0:x<W0.heap.size:=by omega
 obtain ⟨s0,s1,s2,s3,s4,s5,s6,s7,s8⟩:=jbk ob0.out
 go_region_held3 (fun w'=>w'.cell? (aq x 23)=some (pt V.aw 0)/\w'.cell? (aq w.heap.size 1)=some (iv a.t)) (simp [go_sem, *])
  (first
    | (go_at_call 75;refine (HS.out _ (jan HT0.out bL)).mono ?_;rintro e W1 ⟨rfl,hT1,hk⟩
       have ob1:Hid (W1.heap[w.heap.size]?=some (.cells #[iv a.k,iv a.t,iv a.c,iv a.u,iv a.o,iv a.rk,iv a.ro,iv a.rc,iv a.ru] 188 (0,0))):=(hk _ (Nat.le_refl _) (by omega)).trans ob0.out
       obtain ⟨r0,r1,r2,r3,r4,r5,r6,r7,r8⟩:=jbk ob1.out
       have k23:=HC.out W1 hT1
       have lw1:w.heap.size<W1.heap.size:=(blt ob1.out)
       have hx1:x<W1.heap.size:=by omega
       replace hT1:Hid _:=hT1
       clear hk))
 clear s0 s1 s2 s3 s4 s5 s6 s7 s8 c23' HS HC HT0 ob0 lw0 hx0 k23
 obtain ⟨o1,⟨g,hm⟩,a2,a3,a4⟩:=hT1.out
 have hAx:w.heap.size≠x:=by omega
 have HFIN:Hid (∀ w',jev W1 w' 0 x 24 (jb9 { V with atl:=jfd V.an V.atl a.t up } g) 117 g.att V.att.length a.t (.slice g.ao V.al.length g.ac) V.al.length (jd2 V.al) a.vals (if V.arm<(V.al.length:Int)+1 then (V.al.length:Int)+1 else V.arm)->jaz w w' x own (V.aadd a up)):=fun w' hA=>jk8 (jsn a2 a3 a4 hw.out (jym hm a hn hA)).1
 have hx:W1.heap[x]?=some (.cells (jb9 { V with atl:=jfd V.an V.atl a.t up } g) 117 (0,0)):=hm.blk
 have h0:(jb9 { V with atl:=jfd V.an V.atl a.t up } g)[24]?=some (.pointer g.att.addr):=rfl
 have h1:(jb9 { V with atl:=jfd V.an V.atl a.t up } g)[24+1]?=some (iv V.att.length):=rfl
 have h2:(jb9 { V with atl:=jfd V.an V.atl a.t up } g)[24+2]?=some (.slice g.ao V.al.length g.ac):=rfl
 have h3:(jb9 { V with atl:=jfd V.an V.atl a.t up } g)[24+3]?=some (iv V.arm):=rfl
 have ht:=hm.att.1
 have hO:W1.ownsRow 0 188 9 (.slice g.ao V.al.length g.ac) V.al.length (jd2 V.al):=hm.arow
 have hst:srt g.att.toL:=by rw [show g.att.toL=V.att from hm.att.2];exact hs
 have hnt:jb0 (a.t,0) g.att.toL=none:=by rw [show g.att.toL=V.att from hm.att.2];exact hn
 unfold PAns.vals at HFIN
 clear hT1 hm a2 a3 a4 hn hs hz2
 generalize jb9 { V with atl:=jfd V.an V.atl a.t up } g=C at hx h0 h1 h2 h3 HFIN
 generalize hE:jd2 V.al=E at hO HFIN
 clear hE
 have hsz:(0:Int)<=(V.att.length:Int)/\(V.att.length:Int)<9223372036854775807:=⟨by omega,by omega⟩
 have hl:V.al.length * 72+72<=140737488351232:=by omega
 generalize (V.att.length:Int)=s at h1 hsz HFIN
 generalize V.al.length=n at h2 hO hl HFIN
 have HRM:Hid (∃ rm',rm'=if V.arm<(n:Int)+1 then (n:Int)+1 else V.arm):=⟨_,rfl⟩
 obtain ⟨rm',hrm⟩:=HRM.out
 rw [← hrm] at HFIN
 generalize V.arm=rm at h3 hrm
 generalize g.ao=oo at h2 hO HFIN
 generalize g.ac=oc at h2 hO HFIN
 generalize g.att=t at h0 ht hst hnt HFIN
 clear hz hzt
 have hT:117≠211:=by decide
 have hT2:117≠188:=by decide
 have HP:Hid (∀ W,Below W1.heap.size W1 W->Calls Tryz.prog 112 #[pt x 24,.agg #[iv a.t,iv 0],iv n] W fun e w'=>e=.returned (.tuple #[])/\jbe W w' x 24 C 117 (s+1) t (jbd (a.t,0) n t.toL)):=fun W hW=>jhh x 24 C 117 hT t s a.t 0 n W ((hW.block x hx1).trans hx) h0 h1 (t.at_below ht hW) hst hnt hsz
 have kl:W1.cell? (aq x 26)=some (.slice oo n oc):=by rw [Joins.cell_of_block hx];exact h2
 have hvx:Value.ownBlock (.slice oo n oc)≠some x:=jb3 hO hx (fun e=>hT2 e.symm)
 have HROOM:Hid (∀ W6,jo3 W1 W6 0 x 24 C 117 t s a.t (.slice oo n oc) n E [iv a.k,iv a.t,iv a.c,iv a.u,iv a.o,iv a.rk,iv a.ro,iv a.rc,iv a.ru]->∃ gg cp:Nat,W6.cell? (aq x 26)=some (.slice (some (aq gg 0)) (n+1) cp)/\W6.cell? (aq x 27)=some (iv rm)/\W6.frozen? (aq x 27)=false/\x<W6.heap.size/\(rm'=rm->jev W1 W6 0 x 24 C 117 t s a.t (.slice oo n oc) n E [iv a.k,iv a.t,iv a.c,iv a.u,iv a.o,iv a.rk,iv a.ro,iv a.rc,iv a.ru] rm')/\jev W1 (W6.setCell (aq x 27) (iv rm')) 0 x 24 C 117 t s a.t (.slice oo n oc) n E [iv a.k,iv a.t,iv a.c,iv a.u,iv a.o,iv a.rk,iv a.ro,iv a.rc,iv a.ru] rm'):=fun W6 hA=>jx7 hT hT2 h2 h3 hA
 have HAPP:Hid (∀ W w4,Below W1.heap.size W1 W->jbe W w4 x 24 C 117 (s+1) t (jbd (a.t,0) n t.toL)->w4.ownsRow 0 188 9 (.slice oo n oc) n E/\w4.cell? (aq x 26)=some (.slice oo n oc)/\w4.frozen? (aq x 26)=false/\x<w4.heap.size/\(∀ w5 O,(w4.alloc O).drew.grownBy w5 (Value.ownBlock (.slice oo n oc))->w5.cell? (aq x 26)=some (.slice oo n oc)/\w5.frozen? (aq x 26)=false)/\∀ w5 g cp O,w5.ownsRow 0 188 9 (.slice (some (aq g 0)) (n+1) cp) (n+1) (E++[iv a.k,iv a.t,iv a.c,iv a.u,iv a.o,iv a.rk,iv a.ro,iv a.rc,iv a.ru])->(w4.alloc O).grownBy w5 (Value.ownBlock (.slice oo n oc))->(Value.ownBlock (.slice oo n oc)=some g\/g=w4.heap.size+1)->jo3 W1 (w5.setCell (aq x 26) (.slice (some (aq g 0)) (n+1) cp)) 0 x 24 C 117 t s a.t (.slice oo n oc) n E [iv a.k,iv a.t,iv a.c,iv a.u,iv a.o,iv a.rk,iv a.ro,iv a.rc,iv a.ru]):=fun W w4 hW hA=>by
  have hA0:=hA
  obtain ⟨t',a1,a2,a3,a4,a5⟩:=hA
  have zW:=hW.size
  have z4:=a4.size
  have hOW:=jbs hO hW (Nat.le_refl _)
  have hO4:w4.ownsRow 0 188 9 (.slice oo n oc) n E:=jad hOW (fun k hk=>a4.block k (World.ownsRow.lt hOW k hk).2 (fun e=>hvx (by rw [hk];exact congrArg some e)))
  have e2:((C.setIfInBounds (24+1) (iv (s+1))).setIfInBounds 24 (.pointer t'.addr))[24+2]?=some (.slice oo n oc):=by
   rw [Array.getElem?_setIfInBounds,if_neg (by omega),Array.getElem?_setIfInBounds,if_neg (by omega)];exact h2
  have hx4:x<w4.heap.size:=(blt a1)
  refine ⟨hO4,by rw [Joins.cell_of_block a1];exact e2,ja0 a1 _,hx4,fun w5 O hg=>?_,fun w5 g cp O q1 q2 q3=>jza hT hT2 hW hA0 (fun k hk=>?_) q1 q2 q3⟩
  ·have hx5:w5.heap[x]?=_:=(hg.block x (by simp;omega) (fun e=>hvx e.symm)).trans ((Below.heap_alloc w4 O x hx4).trans a1)
   exact ⟨by rw [Joins.cell_of_block hx5];exact e2,ja0 hx5 _⟩
  ·rcases hO4.2 with ⟨hh,_⟩|⟨g',cp',cur,hh,_,hgg,_⟩
   ·rw [hh] at hk;simp [Value.ownBlock] at hk
   ·rw [hh] at hk
    have e:g'=k:=by simpa [Value.ownBlock] using hk
    rw [← e]
    exact ⟨_,hgg⟩
 clear hx h0 h1 h2 h3 ht hst hnt hsz hO hvx
 replace ob1:Hid _:=ob1
 go_wp2_with fail
 go_region_held3 (fun w'=>w'.cell? (aq w.heap.size 1)=some (iv a.t)/\w'.cell? (aq x 26)=some (.slice oo n oc)) (simp [go_sem, *])
  (first
    | (go_at_call 112;refine (HP.out _ bL).mono ?_;rintro e w4 ⟨rfl,hq⟩
       obtain ⟨m1,m3,m4,m5,m6,m7⟩:=HAPP.out _ w4 bL hq
       have hsm:=hq.choose_spec.2.2.2.1
       have ob4:Hid (w4.heap[w.heap.size]?=some (.cells #[iv a.k,iv a.t,iv a.c,iv a.u,iv a.o,iv a.rk,iv a.ro,iv a.rc,iv a.ru] 188 (0,0))):=(hsm.block w.heap.size lw1 hAx).trans ob1.out
       obtain ⟨q0,q1,q2,q3,q4,q5,q6,q7,q8⟩:=jbk ob4.out
       replace m1:Hid (w4.ownsRow 0 188 9 (.slice oo n oc) n E):=m1
       replace m6:Hid _:=m6
       replace m7:Hid _:=m7
       clear hsm hq))
 have hz4:w.heap.size<w4.heap.size:=(blt ob4.out)
 have hnb:Hid ((w4.alloc (.cells #[iv a.k,iv a.t,iv a.c,iv a.u,iv a.o,iv a.rk,iv a.ro,iv a.rc,iv a.ru] 188)).heap[w4.heap.size]?=some (.cells #[iv a.k,iv a.t,iv a.c,iv a.u,iv a.o,iv a.rk,iv a.ro,iv a.rc,iv a.ru] 188 (0,0))):=heap_alloc_new _ _
 clear r0 r1 r2 r3 r4 r5 r6 r7 r8 HP HAPP kl
 go_wp2_with fail
 go_region_law ((refine step_append_lies _ (by rfl) _ _ _ (by rfl) 0 188 i0 (.agg #[iv 0,iv 0,iv 0,iv 0,iv 0,iv 0,iv 0,iv 0,iv 0]) 9 72 Tryz.underlying113 j0 j1 j2 j3 rfl (by omega) (.slice oo n oc) n E (by rfl) ((show w4.ownsRow 0 188 9 (.slice oo n oc) n E from m1.out).alloc _).drew (aq w4.heap.size 0) 1 1 [iv a.k,iv a.t,iv a.c,iv a.u,iv a.o,iv a.rk,iv a.ro,iv a.rc,iv a.ru] (by rfl) (by rfl) (World.news_of_block (cs:=#[iv a.k,iv a.t,iv a.c,iv a.u,iv a.o,iv a.rk,iv a.ro,iv a.rc,iv a.ru]) (t:=188) (fr:=(0,0)) hnb.out) (by simp [Value.oneCell']) (by omega) (by unfold maxLen;omega) (by omega) (by simp) (w4.heap.size+1) (by simp) ?_
                 intro gg cp w5 hown3 hgrow hat hlt
                 obtain ⟨g1,gf⟩:=m6.out w5 _ hgrow
                 replace hown3:Hid _:=hown3
                 replace hgrow:Hid _:=hgrow
                 replace hat:Hid _:=hat))
 all_goals
  have hA:=m7.out w5 gg cp _ hown3.out ⟨hgrow.out.os,hgrow.out.tape,hgrow.out.output,hgrow.out.size,hgrow.out.block⟩ hat.out
  obtain ⟨g6,c6,k2,k3,kf,kx,kn,ks⟩:=HROOM.out _ hA
  clear hA g1 gf
  generalize w5.setCell (aq x 26) (.slice (some (aq gg 0)) (n+1) cp)=W6 at k2 k3 kf kx kn ks ⊢
  replace kn:Hid _:=kn
  replace ks:Hid _:=ks
  by_cases hr:rm<(n:Int)+1
  ·have dr:decide (rm<(n:Int)+1)=true:=by simpa using hr
   have er:rm'=(n:Int)+1:=by rw [hrm,if_pos hr]
   subst er
   clear hrm
   go_wp2_with fail
   go_region
   all_goals (first|go_end0|(go_wp2;go_end0)|(go_wp2;refine bodyPost_ret (results_none rfl _ _ _) rfl ?_))
   all_goals exact ⟨rfl,HFIN.out _ (jni ks.out)⟩
  ·have dr:decide (rm<(n:Int)+1)=false:=by simpa using hr
   have er:rm'=rm:=by rw [hrm,if_neg hr]
   clear hrm
   go_wp2_with fail
   go_region
   all_goals (first|go_end0|(go_wp2;go_end0)|(go_wp2;refine bodyPost_ret (results_none rfl _ _ _) rfl ?_))
   all_goals exact ⟨rfl,HFIN.out _ (jni (kn.out er))⟩
def jix (w w':World) (x p b n:Nat) (C:Array Value) (T:TypeId) (E:List Value):Prop :=
 ∃ (g cap:Nat) (rm:Int),w'.heap[x]?=some (.cells ((C.setIfInBounds (p+2) (.slice (some (aq g 0)) n cap)).setIfInBounds (p+3) (iv rm)) T (0,0))/\w'.ownsRow 0 184 6 (.slice (some (aq g 0)) n cap) n E/\Same (fun k=>k=x) w w'/\(g=b\/w.heap.size<=g)
theorem jwo (x p b n oc:Nat) (C:Array Value) (T:TypeId) (rm:Int) (E:List Value) (w:World) (hx:w.heap[x]?=some (.cells C T (0,0))) (h2:C[p+2]?=some (.slice (some (aq b 0)) n oc)) (h3:C[p+3]?=some (iv rm)) (hO:w.ownsRow 0 184 6 (.slice (some (aq b 0)) n oc) n E) (h1:∀ u∈E,u.oneCell'=true) (hl:n * 48+48<=140737488351232) :
 Calls Tryz.prog 176 #[pt x p] w fun e w'=>e=.returned (.tuple #[])/\jix w w' x p b n C T E:=by
 have hxw:x<w.heap.size:=(blt hx)
 have k2:w.cell? (aq x (p+2))=some (.slice (some (aq b 0)) n oc):=by rw [Joins.cell_of_block hx];exact h2
 have k3:w.cell? (aq x (p+3))=some (iv rm):=by rw [Joins.cell_of_block hx];exact h3
 have f2:=ja0 hx (p+2)
 have f3:=ja0 hx (p+3)
 obtain ⟨i0,hi,hz0,hz1,hz2⟩:=info_parts Tryz.infoPOrder
 have HK:Hid (∀ w',Below w.heap.size w w'->jix w w' x p b n C T E):=fun w' hb=>by
  refine ⟨b,oc,rm,?_,jbs hO hb (Nat.le_refl _),Same.of_below hb,.inl rfl⟩
  rw [jfs h2,jfs h3]
  exact (hb.block x hxw).trans hx
 have hbw:b<w.heap.size:=(World.ownsRow.lt hO b rfl).2
 have HALL:Hid (∀ W0,Below w.heap.size w W0->W0.heap.size=w.heap.size->W0.cell? (aq x (p+2))=some (.slice (some (aq b 0)) n oc)/\x<W0.heap.size/\Hid (∀ j u,E[j]?=some u->(W0.alloc (.cells #[] 184)).cell? (((aq b 0):Addr).add j)=some u)/\Hid (∀ v' W2,W2.ownsRow W0.heap.size 184 6 v' (0+n) ([]++E)->(W0.alloc (.cells #[] 184)).grownBy W2 (Value.ownBlock (.slice (some (aq W0.heap.size 0)) 0 0))->(v'=.slice none 0 0↔(Value.slice (some (aq W0.heap.size 0)) 0 0)=.slice none 0 0/\n=0)->∃ g cp,v'=.slice (some (aq g 0)) n cp/\W2.cell? (aq x (p+2))=some (.slice (some (aq b 0)) n oc)/\W2.frozen? (aq x (p+2))=false/\W2.frozen? (aq x (p+3))=false/\W2.cell? (aq x (p+3))=some (iv rm)/\x<W2.heap.size/\Hid (∀ r:Int,jix w ((W2.setCell (aq x (p+2)) (.slice (some (aq g 0)) n cp)).setCell (aq x (p+3)) (iv r)) x p b n C T E))):=fun W0 hW hsz=>by
  have hx0:=(hW.block x hxw).trans hx
  have hxw0:x<W0.heap.size:=by omega
  refine ⟨by rw [Joins.cell_of_block hx0];exact h2,hxw0,fun j u hu=>?_,fun v' W2 hown hgrow hnil=>?_⟩
  ·have:=(jbs hO hW (Nat.le_refl _)).cells (g:=b) rfl j u hu
   rw [Addr.add_lit] at this ⊢
   exact (((Below.refl W0.heap.size W0).alloc (Nat.le_refl _) (.cells #[] 184)).cell (p:=(aq b (0+j))) (by show b<_;omega)).trans this
  ·rw [Nat.zero_add,List.nil_append] at hown
   have hk:∀ k,k<w.heap.size->W2.heap[k]?=w.heap[k]?:=fun k hk=>(hgrow.block k (by simp;omega) (fun e=>by simp [Value.ownBlock] at e;omega)).trans ((Below.heap_alloc _ _ _ (by omega)).trans (hW.block k hk))
   have z:=hgrow.size
   rw [show (W0.alloc (.cells #[] 184)).heap.size=W0.heap.size+1 by simp] at z
   rcases hown.2 with ⟨hh,_⟩|⟨g,cp,cur,rfl,hgw,hg,_⟩
   ·have:=(hnil.1 hh).1
    simp at this
   ·have hx2:=(hk x hxw).trans hx
    have hgx:x≠g:=by omega
    refine ⟨g,cp,rfl,by rw [Joins.cell_of_block hx2];exact h2,ja0 hx2 _,ja0 hx2 _,by rw [Joins.cell_of_block hx2];exact h3,(blt hx2),fun r=>⟨g,cp,r,Joins.block_setCell (Joins.block_setCell hx2 _) _,?_,?_,.inr (by omega)⟩⟩
    ·refine jad (jpe hown (Nat.zero_le _)) (fun k hk'=>?_)
     have e:g=k:=by simpa [Value.ownBlock] using hk'
     rw [Below.heap_setCell _ (aq x (p+3)) _ _ (show k≠x by omega),Below.heap_setCell _ (aq x (p+2)) _ _ (show k≠x by omega)]
    ·have hs0:Same (fun k=>k=x) w W2:=⟨hgrow.os.trans hW.os,hgrow.tape.trans hW.tape,hgrow.output.trans hW.output,by omega,fun k hk' _=>hk k hk'⟩
     exact jc8 (jc8 hs0 x _ _ rfl) x _ _ rfl
 clear hx h2 h3
 by_cases hr:wrap64 (rm.tdiv 2)<(n:Int)
 ·have dr:decide (wrap64 (rm.tdiv 2)<(n:Int))=true:=by simpa using hr
  go_enter Tryz.func176,Tryz.ntmps176
  go_wp2_with fail
  go_quiet (fail)
  go_wp2
  first|go_end0|refine bodyPost_ret (results_none rfl _ _ _) rfl ?_
  exact ⟨rfl,HK.out _ bL⟩
 ·have dr:decide (wrap64 (rm.tdiv 2)<(n:Int))=false:=by simpa using hr
  go_enter Tryz.func176,Tryz.ntmps176
  go_wp2_with fail
  go_quiet (fail)
  obtain ⟨k2',hx0,HNEWS,HAPP⟩:=HALL.out (w.drewN nq) (jae (Below.refl _ _)) rfl
  have hlen:E.length=n * 6:=hO.1
  clear HALL HK hO
  generalize w.drewN nq=W0 at k2' hx0 HNEWS HAPP ⊢
  go_wp2_with (at_builtin;refine wpList_append_own _ rfl _ _ 106 rfl W0.heap.size 184 i0 (.agg #[iv 0,iv 0,iv 0,iv 0,iv 0,iv 0]) 6 48 Tryz.underlying106 hi hz0 hz1 hz2 rfl (by decide) _ _ _ rfl (World.ownsRow_made W0 #[] 0 (Nat.le_refl _) (by unfold maxLen;omega) rfl) (aq b 0) n oc E rfl hlen HNEWS.out h1 (by unfold maxLen;omega) (by omega) (by simp) ?_
               intro v' W2 hown hgrow hnil
               obtain ⟨g,cp,rfl,c2,z2,z3,c3,hx2,hfin⟩:=HAPP.out v' W2 hown hgrow hnil)
  first|go_end0|refine bodyPost_ret (results_none rfl _ _ _) rfl ?_
  exact ⟨rfl,hfin.out _⟩
def jjh (w w':World) (x q b n:Nat) (C:Array Value) (T:TypeId) (E:List Value):Prop :=
 ∃ (g cap:Nat) (rm:Int),w'.heap[x]?=some (.cells ((C.setIfInBounds (q+3) (.slice (some (aq g 0)) n cap)).setIfInBounds (q+4) (iv rm)) T (0,0))/\w'.ownsRow 0 188 9 (.slice (some (aq g 0)) n cap) n E/\Same (fun k=>k=x) w w'/\(g=b\/w.heap.size<=g)
theorem jxb (x q b n oc:Nat) (C:Array Value) (T:TypeId) (rm:Int) (E:List Value) (w:World) (hx:w.heap[x]?=some (.cells C T (0,0))) (h2:C[q+3]?=some (.slice (some (aq b 0)) n oc)) (h3:C[q+4]?=some (iv rm)) (hO:w.ownsRow 0 188 9 (.slice (some (aq b 0)) n oc) n E) (h1:∀ u∈E,u.oneCell'=true) (hl:n * 72+72<=140737488351232) :
 Calls Tryz.prog 163 #[pt x q] w fun e w'=>e=.returned (.tuple #[])/\jjh w w' x q b n C T E:=by
 have hxw:x<w.heap.size:=(blt hx)
 have k2:w.cell? (aq x (q+3))=some (.slice (some (aq b 0)) n oc):=by rw [Joins.cell_of_block hx];exact h2
 have k3:w.cell? (aq x (q+4))=some (iv rm):=by rw [Joins.cell_of_block hx];exact h3
 have f2:=ja0 hx (q+3)
 have f3:=ja0 hx (q+4)
 obtain ⟨i0,hi,hz0,hz1,hz2⟩:=info_parts Tryz.infoPAnswer
 have HK:Hid (∀ w',Below w.heap.size w w'->jjh w w' x q b n C T E):=fun w' hb=>by
  refine ⟨b,oc,rm,?_,jbs hO hb (Nat.le_refl _),Same.of_below hb,.inl rfl⟩
  rw [jfs h2,jfs h3]
  exact (hb.block x hxw).trans hx
 have hbw:b<w.heap.size:=(World.ownsRow.lt hO b rfl).2
 have HALL:Hid (∀ W0,Below w.heap.size w W0->W0.heap.size=w.heap.size->W0.cell? (aq x (q+3))=some (.slice (some (aq b 0)) n oc)/\x<W0.heap.size/\Hid (∀ j u,E[j]?=some u->(W0.alloc (.cells #[] 188)).cell? (((aq b 0):Addr).add j)=some u)/\Hid (∀ v' W2,W2.ownsRow W0.heap.size 188 9 v' (0+n) ([]++E)->(W0.alloc (.cells #[] 188)).grownBy W2 (Value.ownBlock (.slice (some (aq W0.heap.size 0)) 0 0))->(v'=.slice none 0 0↔(Value.slice (some (aq W0.heap.size 0)) 0 0)=.slice none 0 0/\n=0)->∃ g cp,v'=.slice (some (aq g 0)) n cp/\W2.cell? (aq x (q+3))=some (.slice (some (aq b 0)) n oc)/\W2.frozen? (aq x (q+3))=false/\W2.frozen? (aq x (q+4))=false/\W2.cell? (aq x (q+4))=some (iv rm)/\x<W2.heap.size/\Hid (∀ r:Int,jjh w ((W2.setCell (aq x (q+3)) (.slice (some (aq g 0)) n cp)).setCell (aq x (q+4)) (iv r)) x q b n C T E))):=fun W0 hW hsz=>by
  have hx0:=(hW.block x hxw).trans hx
  have hxw0:x<W0.heap.size:=by omega
  refine ⟨by rw [Joins.cell_of_block hx0];exact h2,hxw0,fun j u hu=>?_,fun v' W2 hown hgrow hnil=>?_⟩
  ·have:=(jbs hO hW (Nat.le_refl _)).cells (g:=b) rfl j u hu
   rw [Addr.add_lit] at this ⊢
   exact (((Below.refl W0.heap.size W0).alloc (Nat.le_refl _) (.cells #[] 188)).cell (p:=(aq b (0+j))) (by show b<_;omega)).trans this
  ·rw [Nat.zero_add,List.nil_append] at hown
   have hk:∀ k,k<w.heap.size->W2.heap[k]?=w.heap[k]?:=fun k hk=>(hgrow.block k (by simp;omega) (fun e=>by simp [Value.ownBlock] at e;omega)).trans ((Below.heap_alloc _ _ _ (by omega)).trans (hW.block k hk))
   have z:=hgrow.size
   rw [show (W0.alloc (.cells #[] 188)).heap.size=W0.heap.size+1 by simp] at z
   rcases hown.2 with ⟨hh,_⟩|⟨g,cp,cur,rfl,hgw,hg,_⟩
   ·have:=(hnil.1 hh).1
    simp at this
   ·have hx2:=(hk x hxw).trans hx
    have hgx:x≠g:=by omega
    refine ⟨g,cp,rfl,by rw [Joins.cell_of_block hx2];exact h2,ja0 hx2 _,ja0 hx2 _,by rw [Joins.cell_of_block hx2];exact h3,(blt hx2),fun r=>⟨g,cp,r,Joins.block_setCell (Joins.block_setCell hx2 _) _,?_,?_,.inr (by omega)⟩⟩
    ·refine jad (jpe hown (Nat.zero_le _)) (fun k hk'=>?_)
     have e:g=k:=by simpa [Value.ownBlock] using hk'
     rw [Below.heap_setCell _ (aq x (q+4)) _ _ (show k≠x by omega),Below.heap_setCell _ (aq x (q+3)) _ _ (show k≠x by omega)]
    ·have hs0:Same (fun k=>k=x) w W2:=⟨hgrow.os.trans hW.os,hgrow.tape.trans hW.tape,hgrow.output.trans hW.output,by omega,fun k hk' _=>hk k hk'⟩
     exact jc8 (jc8 hs0 x _ _ rfl) x _ _ rfl
 clear hx h2 h3
 by_cases hr:wrap64 (rm.tdiv 2)<(n:Int)
 ·have dr:decide (wrap64 (rm.tdiv 2)<(n:Int))=true:=by simpa using hr
  go_enter Tryz.func163,Tryz.ntmps163
  go_wp2_with fail
  go_quiet (fail)
  go_wp2
  first|go_end0|refine bodyPost_ret (results_none rfl _ _ _) rfl ?_
  exact ⟨rfl,HK.out _ bL⟩
 ·have dr:decide (wrap64 (rm.tdiv 2)<(n:Int))=false:=by simpa using hr
  go_enter Tryz.func163,Tryz.ntmps163
  go_wp2_with fail
  go_quiet (fail)
  obtain ⟨k2',hx0,HNEWS,HAPP⟩:=HALL.out (w.drewN nq) (jae (Below.refl _ _)) rfl
  have hlen:E.length=n * 9:=hO.1
  clear HALL HK hO
  generalize w.drewN nq=W0 at k2' hx0 HNEWS HAPP ⊢
  go_wp2_with (at_builtin;refine wpList_append_own _ rfl _ _ 113 rfl W0.heap.size 188 i0 (.agg #[iv 0,iv 0,iv 0,iv 0,iv 0,iv 0,iv 0,iv 0,iv 0]) 9 72 Tryz.underlying113 hi hz0 hz1 hz2 rfl (by decide) _ _ _ rfl (World.ownsRow_made W0 #[] 0 (Nat.le_refl _) (by unfold maxLen;omega) rfl) (aq b 0) n oc E rfl hlen HNEWS.out h1 (by unfold maxLen;omega) (by omega) (by simp) ?_
               intro v' W2 hown hgrow hnil
               obtain ⟨g,cp,rfl,c2,z2,z3,c3,hx2,hfin⟩:=HAPP.out v' W2 hown hgrow hnil)
  first|go_end0|refine bodyPost_ret (results_none rfl _ _ _) rfl ?_
  exact ⟨rfl,hfin.out _⟩
section
theorem jto {L L':List (Int × Int)} (h:∀ p,p∈L↔p∈L'):jc9 L=jc9 L'/\ja7 L=ja7 L':=by
 by_cases e:L=[]
 ·have e':L'=[]:=List.eq_nil_iff_forall_not_mem.2 (fun p hp=>by rw [← h,e] at hp;simp at hp)
  rw [e,e'];exact ⟨rfl,rfl⟩
 ·have e':L'≠[]:=fun c=>e (List.eq_nil_iff_forall_not_mem.2 (fun p hp=>by rw [h,c] at hp;simp at hp))
  obtain ⟨a1,a2,a3⟩:=jeg e
  obtain ⟨b1,b2,b3⟩:=jeg e'
  exact ⟨a1.trans b1.symm,jf0 (b3 _ ((h _).1 a2)) (a3 _ ((h _).2 b2))⟩
open Classical in
noncomputable def Sal.kset (S:Sal):List Nat:=(List.range S.os.length).filter (fun i=>decide (S.knows i))
noncomputable def Sal.tset (S:Sal):List (Int × Int):=S.kset.map (fun i=>((S.os.getD i ja2).untl S.C,(i:Int)+1))
theorem jso (S:Sal) (i:Nat):i∈S.kset↔S.knows i:=by
 unfold Sal.kset
 rw [List.mem_filter]
 constructor
 ·rintro ⟨_,h⟩;simpa using h
 ·intro h;exact ⟨List.mem_range.2 h.1,by simpa using h⟩
theorem jka (S:Sal) (p:Int × Int):p∈S.tset↔∃ i,S.knows i/\p=((S.os.getD i ja2).untl S.C,(i:Int)+1):=by
 unfold Sal.tset
 rw [List.mem_map]
 constructor
 ·rintro ⟨i,h,rfl⟩;exact ⟨i,(jso S i).1 h,rfl⟩
 ·rintro ⟨i,h,rfl⟩;exact ⟨i,(jso S i).2 h,rfl⟩
theorem ji3 {S:Sal} (hR:restS S) {i:Nat} (h:S.knows i):S.now<(S.os.getD i ja2).untl S.C:=by
 rcases h.2 with ha|ha
 ·rw [jdb ha];exact hR.fut _ (jb2 h.1) ha
 ·exact ha
theorem relO.firstK {V:PV} {S:Sal} {last:Nat} (h:relO V S last S.knows) (hR:restS S):jc9 V.tl=jc9 S.tset/\ja7 V.tl=ja7 S.tset :=
 jto (fun p=>by
  rw [h.tl,jka]
  constructor
  ·rintro ⟨i,a,_,rfl⟩;exact ⟨i,a,rfl⟩
  ·rintro ⟨i,a,rfl⟩
   exact ⟨i,a,by have:=ji3 hR a;have:=h.tn;omega,rfl⟩)
theorem jki {α:Type} {p q:α->Bool}:∀ {l:List α},(∀ x∈l,q x=true->p x=true)->(∃ x∈l,p x=true/\q x=false)->(l.filter q).length<(l.filter p).length
 | [],_,h=>by obtain ⟨x,hx,_⟩:=h;simp at hx
 | a :: l,h1,h2=>by
   have le:(l.filter q).length<=(l.filter p).length:=by
    clear h2
    induction l with
    | nil=>simp
    | cons b l ih =>
      have ih':=ih (fun x hx=>h1 x (by simp at hx ⊢;rcases hx with rfl|hx<;>simp_all))
      have hb:=h1 b (by simp)
      by_cases hq:q b=true
      ·rw [List.filter_cons_of_pos hq,List.filter_cons_of_pos (hb hq)];simpa using ih'
      ·by_cases hp:p b=true
       ·rw [List.filter_cons_of_neg hq,List.filter_cons_of_pos hp];simp;omega
       ·rw [List.filter_cons_of_neg hq,List.filter_cons_of_neg hp];exact ih'
   by_cases hq:q a=true
   ·rw [List.filter_cons_of_pos hq,List.filter_cons_of_pos (h1 a (by simp) hq)]
    obtain ⟨x,hx,hp,hn⟩:=h2
    have:=jki (p:=p) (q:=q) (l:=l) (fun x hx=>h1 x (List.mem_cons_of_mem _ hx)) ⟨x,by
     rcases List.mem_cons.1 hx with rfl|hx
     ·rw [hq] at hn;cases hn
     ·exact hx,hp,hn⟩
    simpa using this
   ·by_cases hp:p a=true
    ·rw [List.filter_cons_of_neg hq,List.filter_cons_of_pos hp];simp;omega
    ·rw [List.filter_cons_of_neg hq,List.filter_cons_of_neg hp]
     obtain ⟨x,hx,hp',hn⟩:=h2
     exact jki (p:=p) (q:=q) (l:=l) (fun x hx=>h1 x (List.mem_cons_of_mem _ hx)) ⟨x,by
      rcases List.mem_cons.1 hx with rfl|hx
      ·exact absurd hp' hp
      ·exact hx,hp',hn⟩
noncomputable def Sal.todo (S:Sal):Nat:=jbt S.os * (S.os.length+1)+S.kset.length
structure stopAt (S:Sal) (t:Int):Prop where
 some:∃ i,S.knows i/\t=(S.os.getD i ja2).untl S.C
 min:∀ i,S.knows i->t<=(S.os.getD i ja2).untl S.C
theorem jgg {S:Sal} (h:jc9 S.tset=true):stopAt S (ja7 S.tset).1:=by
 have hn:S.tset≠[]:=fun e=>by rw [e] at h;rw [jlc.2] at h;cases h
 obtain ⟨_,a2,a3⟩:=jeg hn
 obtain ⟨i,h1,h2⟩:=(jka S _).1 a2
 refine ⟨⟨i,h1,by rw [h2]⟩,fun k hk=>?_⟩
 have:=a3 _ ((jka S _).2 ⟨k,hk,rfl⟩)
 have:=jf4.1 this
 have h':((ja7 S.tset).1<(S.os.getD k ja2).untl S.C)\/((ja7 S.tset).1=(S.os.getD k ja2).untl S.C/\_):=this
 omega
theorem jts {S:Sal} (h:jc9 S.tset=false) (i:Nat):¬ S.knows i:=fun hk=>by
 have hn:S.tset≠[]:=fun e=>by
  have:=(jka S _).2 ⟨i,hk,rfl⟩
  rw [e] at this
  simp at this
 rw [(jeg hn).1] at h
 cases h
section
variable {S:Sal} {t:Int}
theorem stopAt.alive (h:stopAt S t):∀ o∈S.os,o.alive->t<=o.upto:=fun o ho ha=>by
 obtain ⟨k,hk,rfl⟩:=jd6 ho
 have:=h.min k ⟨hk,.inl ha⟩
 rwa [jdb ha] at this
theorem stopAt.later (h:stopAt S t) (hR:restS S):S.now<t:=by
 obtain ⟨i,h1,rfl⟩:=h.some
 exact ji3 hR h1
theorem jvt (h:stopAt S t) (hR:restS S) (h0:0<=S.now):(S.round t).todo<S.todo:=by
 have hl:=(jeq S t).2.2.2
 have hm:=h.alive
 have hn:=h.later hR
 by_cases hx:∃ o∈S.os,o.alive/\o.upto=t
 ·obtain ⟨o,ho,ha,hu⟩:=hx
  obtain ⟨i,hi,rfl⟩:=jd6 ho
  have hp:∀ o∈S.os,o.alive->0<=o.upto:=fun o ho ha=>by have:=hR.fut o ho ha;omega
  obtain ⟨d1,d2⟩:=jo6 S.os t hp S.os.length (Nat.le_refl _) i hi ha (by omega)
  obtain ⟨k,hk,hs,hku,_⟩:=jj0 S.os t S.os.length (Nat.le_refl _) d1
  have:=hm _ (jb2 hk) hs.symm
  have e:S.due t=t:=by unfold Sal.due;omega
  have hlt:=jod (S:=S) (to:=t) (by omega)
  rw [e] at hlt
  have hks:(S.round t).kset.length<=S.os.length:=by
   unfold Sal.kset
   refine Nat.le_trans (List.length_filter_le _ _) ?_
   rw [List.length_range,hl]
   exact Nat.le_refl _
  have h1:(jbt (S.round t).os+1) * (S.os.length+1)<=jbt S.os * (S.os.length+1):=Nat.mul_le_mul_right _ hlt
  rw [Nat.add_mul,Nat.one_mul] at h1
  unfold Sal.todo
  rw [hl]
  omega
 ·have hr:=jnk (S:=S) (t:=t) hR.stable (fun o ho ha=>by
   have:=hm o ho ha
   have:o.upto≠t:=fun e=>hx ⟨o,ho,ha,e⟩
   omega)
  rw [hr]
  have hlt:({ S with now:=t }:Sal).kset.length<S.kset.length:=by
   unfold Sal.kset
   refine jki (fun i _ hi=>?_) ?_
   ·have hi':({ S with now:=t }:Sal).knows i:=by simpa using hi
    have:=((jke (by omega) i).1 hi').1
    simpa using this
   ·obtain ⟨i,h1,h2⟩:=h.some
    have hno:¬ ({ S with now:=t }:Sal).knows i:=fun c=>by
     rcases ((jke (by omega) i).1 c).2 with ha|ha
     ·exact hx ⟨_,jb2 h1.1,ha,by rw [h2,jdb ha]⟩
     ·omega
    exact ⟨i,List.mem_range.2 h1.1,by simpa using h1,by simpa using hno⟩
  show jbt S.os * (S.os.length+1)+_<jbt S.os * (S.os.length+1)+_
  omega
theorem jhr (S:Sal) {t:Int} (h:S.now<=t) (T:Sal) (hn:T.now=t) (hC:T.C=S.C) (ha:T.ansL=S.ansL):T.answers<=S.answers:=by
 unfold Sal.answers
 rw [ha]
 have:∀ l:List Ans,(l.filter T.remem).length<=(l.filter S.remem).length:=by
  intro l
  induction l with
  | nil=>simp
  | cons a l ih =>
    have hb:T.remem a=true->S.remem a=true:=by
     unfold Sal.remem
     rw [hn,hC]
     simp only [decide_eq_true_eq]
     omega
    by_cases hq:T.remem a=true
    ·rw [List.filter_cons_of_pos hq,List.filter_cons_of_pos (hb hq)];simpa using ih
    ·rw [List.filter_cons_of_neg hq]
     by_cases hp:S.remem a=true
     ·rw [List.filter_cons_of_pos hp];simp;omega
     ·rw [List.filter_cons_of_neg hp];exact ih
 exact this _
theorem jmd (S:Sal) (st en:Int) (hen:en≠12):∀ n,n<=S.os.length->(ja5 (jbq S st en n).os).length<=(ja5 S.os).length
 | 0,_=>Nat.le_refl _
 | n+1,hn=>by
   have ih:=jmd S st en hen n (by omega)
   unfold jbq
   split
   ·exact Nat.le_trans (jhn (by rw [jc7];omega) hen) ih
   ·exact ih
theorem jot (S:Sal) (st en:Int) (hen:en≠12):(ja5 (S.past st en).os).length<=(ja5 S.os).length :=
 Nat.le_trans (jjp _) (jmd S st en hen _ (Nat.le_refl _))
theorem jrl (h:stopAt S t) (hR:restP S):restP (S.round t):=by
 obtain ⟨a,b,c,d⟩:=jeq S t
 have hn:=h.later hR.R
 have h1:=jot ({ S with now:=t }:Sal) 13 15 (by decide)
 have h2:=jot (({ S with now:=t }:Sal).past 13 15) 12 17 (by decide)
 refine ⟨jui hR.R h.alive,?_,?_⟩
 ·rw [a]
  have:=hR.qlen
  have h3:(ja5 (S.round t).os).length<=(ja5 S.os).length:=Nat.le_trans h2 h1
  omega
 ·rw [a]
  have:=jhr S (t:=t) (by omega) (S.round t) b a c
  have:=hR.alen
  omega
theorem jsq (hJ:salJ S) (ht:0<=t/\t<=4611686018427387904):salJ (S.round t):=by
 obtain ⟨a,b,c,d⟩:=jeq S t
 refine ⟨jk5 (jk5 (jhx hJ.I ht) 13 15 (by decide)) 12 17 (by decide),by rw [a];exact hJ.cap,by rw [a];exact hJ.queue,by rw [d];exact hJ.len,by rw [c];exact hJ.ats⟩
theorem jtd {to:Int} (hto:S.now<=to) (h:∀ i,S.knows i->to<(S.os.getD i ja2).untl S.C):({ S with now:=to }:Sal).knows=S.knows:=by
 funext i
 exact propext ((jke hto i).trans ⟨fun c=>c.1,fun c=>⟨c,.inr (h i c)⟩⟩)
theorem jux {to:Int} (h:∀ i,S.knows i->to<(S.os.getD i ja2).untl S.C):S.tickTo to={ S with now:=to } :=
 jvz (jyg (fun o ho ha=>by
  obtain ⟨k,hk,rfl⟩:=jd6 ho
  have:=h k ⟨hk,.inl ha⟩
  rwa [jdb ha] at this))
theorem jt8 {to:Int} (hto:S.now<=to) (h:∀ i,S.knows i->to<(S.os.getD i ja2).untl S.C) (hR:restP S):restP ({ S with now:=to }:Sal):=by
 refine ⟨⟨fun o ho ha=>?_,hR.R.stable,hR.R.lease,hR.R.wait,hR.R.keep,hR.R.tokens,hR.R.queue⟩,hR.qlen,?_⟩
 ·obtain ⟨k,hk,rfl⟩:=jd6 ho
  have:=h k ⟨hk,.inl ha⟩
  rwa [jdb ha] at this
 ·have:=jhr S (t:=to) hto ({ S with now:=to }:Sal) rfl rfl rfl
  have:=hR.alen
  show (_:Int)<=S.C.tokens
  omega
theorem jh2 {k:Nat}:∀ (n:Nat) (S:Sal),((jam n S).os.getD k ja2).state=12->(jam n S).os.getD k ja2=S.os.getD k ja2
 | 0,_,_=>rfl
 | n+1,S,h=>by
   unfold jam at h ⊢
   split
   ·rfl
   ·next q qs hq =>
    split
    ·rfl
    ·next hf =>
     rw [hq] at h
     simp only at h
     rw [if_neg hf] at h
     obtain ⟨_,hl,hs⟩:=jcc hq ja2 (by decide)
     have ih:=jh2 n (S.holds q) h
     rw [ih] at h ⊢
     have hg:(S.holds q).os.getD k ja2=if k=q then { S.os.getD q ja2 with state:=13,cents:=(S.put q { S.os.getD q ja2 with state:=13 }).price,upto:=S.now+S.C.lease } else S.os.getD k ja2:=jb4 _ hl
     rw [hg] at h ⊢
     by_cases e:k=q
     ·rw [if_pos e] at h;exact absurd h (by show ¬ (13:Int)=12;decide)
     ·rw [if_neg e]
theorem jtn {k:Nat} (S:Sal) (h:((S.past 13 15).os.getD k ja2).state=12):(S.past 13 15).os.getD k ja2=S.os.getD k ja2:=by
 unfold Sal.past at h ⊢
 have e:=jh2 _ _ h
 have e':(jbq S 13 15 S.os.length).promote.os.getD k ja2=(jbq S 13 15 S.os.length).os.getD k ja2:=e
 rw [e'] at h ⊢
 rw [jgb S 13 15 _ (Nat.le_refl _)] at h ⊢
 split
 ·next hc=>rw [if_pos hc] at h;exact absurd h (by show ¬ (15:Int)=12;decide)
 ·rfl
end
end
end Go.Proofs.YtfhncfghblkgeaaGreat
