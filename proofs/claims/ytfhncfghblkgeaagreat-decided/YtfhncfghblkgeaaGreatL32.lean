import Derived.Test.YtfhncfghblkgeaaGreatL29
import Derived.Test.YtfhncfghblkgeaaGreatL31
set_option maxRecDepth 100000
set_option maxHeartbeats 2000000
namespace Go.Proofs.YtfhncfghblkgeaaGreat
open Go.RowKit
theorem Tryz.infoPAnswer:(Tryz.prog.info? 188).map (fun i=>(i.zero,i.size,i.bytes))=some (some (.agg #[iv 0,iv 0,iv 0,iv 0,iv 0,iv 0,iv 0,iv 0,iv 0]),9,72):=by kernel_rfl
def jp9 (w w':World) (B x p:Nat) (C:Array Value) (T:TypeId) (t:Tr) (s num:Int) (v:Value) (n:Nat) (E L:List Value):Prop :=
 ∃ (t':Tr) (g cap:Nat),w'.heap[x]?=some (.cells (((C.setIfInBounds (p+1) (iv (s+1))).setIfInBounds p (.pointer t'.addr)).setIfInBounds (p+2) (.slice (some (aq g 0)) (n+1) cap)) T (0,0))/\t'.at w'/\t'.toL=jbl (num,0) n t.toL/\w'.ownsRow B 188 9 (.slice (some (aq g 0)) (n+1) cap) (n+1) (E++L)/\Same (fun b=>b=x\/v.ownBlock=some b) w w'/\(∀ k,t'.has k->t.has k\/w.heap.size<=k)/\(v.ownBlock=some g\/w.heap.size<=g)
def jfl (w w':World) (B x p:Nat) (C:Array Value) (T:TypeId) (t:Tr) (s num:Int) (v:Value) (n:Nat) (E L:List Value) (rm:Int):Prop :=
 ∃ (t':Tr) (g cap:Nat),w'.heap[x]?=some (.cells ((((C.setIfInBounds (p+1) (iv (s+1))).setIfInBounds p (.pointer t'.addr)).setIfInBounds (p+2) (.slice (some (aq g 0)) (n+1) cap)).setIfInBounds (p+3) (iv rm)) T (0,0))/\t'.at w'/\t'.toL=jbl (num,0) n t.toL/\w'.ownsRow B 188 9 (.slice (some (aq g 0)) (n+1) cap) (n+1) (E++L)/\Same (fun b=>b=x\/v.ownBlock=some b) w w'/\(∀ k,t'.has k->t.has k\/w.heap.size<=k)/\(v.ownBlock=some g\/w.heap.size<=g)
theorem jxh {w w':World} {B x p n:Nat} {C:Array Value} {T:TypeId} (hT:T≠211) (hT2:T≠188) {t:Tr} {s num:Int} {v:Value} {E L:List Value} {rm rm':Int} (h2:C[p+2]?=some v) (h3:C[p+3]?=some (iv rm)) (hA:jp9 w w' B x p C T t s num v n E L) :
 ∃ gg cp:Nat,w'.cell? (aq x (p+2))=some (.slice (some (aq gg 0)) (n+1) cp)/\w'.cell? (aq x (p+3))=some (iv rm)/\w'.frozen? (aq x (p+3))=false/\x<w'.heap.size/\(rm'=rm->jfl w w' B x p C T t s num v n E L rm')/\jfl w (w'.setCell (aq x (p+3)) (iv rm')) B x p C T t s num v n E L rm':=by
 obtain ⟨t',g,cap,a1,a2,a3,a4,a5,a6,a7⟩:=hA
 have z2:p+2<C.size:=(blt h2)
 have e2:((((C.setIfInBounds (p+1) (iv (s+1))).setIfInBounds p (.pointer t'.addr)).setIfInBounds (p+2) (.slice (some (aq g 0)) (n+1) cap)))[p+2]?=some (.slice (some (aq g 0)) (n+1) cap):=by
  rw [Array.getElem?_setIfInBounds,if_pos rfl,if_pos (by simpa using z2)]
 have e3:((((C.setIfInBounds (p+1) (iv (s+1))).setIfInBounds p (.pointer t'.addr)).setIfInBounds (p+2) (.slice (some (aq g 0)) (n+1) cap)))[p+3]?=some (iv rm):=by
  rw [Array.getElem?_setIfInBounds,if_neg (by omega),Array.getElem?_setIfInBounds,if_neg (by omega),Array.getElem?_setIfInBounds,if_neg (by omega)];exact h3
 refine ⟨g,cap,by rw [Joins.cell_of_block a1];exact e2,by rw [Joins.cell_of_block a1];exact e3,ja0 a1 _,(blt a1),fun e=>⟨t',g,cap,?_,a2,a3,a4,a5,a6,a7⟩,⟨t',g,cap,Joins.block_setCell a1 _,t'.at_set a2 a1 hT,a3,?_,jce a5 x _ _ (.inl rfl),a6,a7⟩⟩
 ·rw [e,jga e3];exact a1
 ·exact jad a4 (fun k hk=>Below.heap_setCell _ (aq x (p+3)) _ _ (fun e=>jb9 a4 a1 (fun e=>hT2 e.symm) (by rw [hk,show k=x from e])))
theorem jo0 {w w':World} {B x p n:Nat} {C:Array Value} {T:TypeId} {t:Tr} {s num:Int} {v:Value} {E L:List Value} {rm:Int} (h:jfl w w' B x p C T t s num v n E L rm):jfl w w'.drew B x p C T t s num v n E L rm:=by
 obtain ⟨t',g,cap,a1,a2,a3,a4,a5,a6,a7⟩:=h
 exact ⟨t',g,cap,a1,t'.at_keep a2 (fun _ _=>rfl),a3,a4.drew,jmp a5,a6,a7⟩
theorem qc1 {w W w4 w5:World} {B x p n g cap:Nat} {C:Array Value} {T:TypeId} (hT:T≠211) (hT2:T≠188) {t:Tr} {s num:Int} {v:Value} {E L:List Value} {O:Obj} (hW:Below w.heap.size w W) (hA:jbk W w4 x p C T (s+1) t (jbl (num,0) n t.toL)) (hvn:∀ k,v.ownBlock=some k->∃ Co,w4.heap[k]?=some (.cells Co 188 (0,0)))
 (hown:w5.ownsRow B 188 9 (.slice (some (aq g 0)) (n+1) cap) (n+1) (E++L)) (hg:(w4.alloc O).grownBy w5 v.ownBlock) (hat:v.ownBlock=some g\/g=w4.heap.size+1) :
 jp9 w (w5.setCell (aq x (p+2)) (.slice (some (aq g 0)) (n+1) cap)) B x p C T t s num v n E L:=by
 obtain ⟨t',a1,a2,a3,a4,a5⟩:=hA
 have zW:=hW.size
 have z4:=a4.size
 have hx4:x<w4.heap.size:=(blt a1)
 have k1:∀ k,k<w4.heap.size->v.ownBlock≠some k->w5.heap[k]?=w4.heap[k]?:=fun k hk hn=>(hg.block k (by simp;omega) (fun e=>hn e.symm)).trans (Below.heap_alloc w4 O k hk)
 have z5:w4.heap.size+1<=w5.heap.size:=by have:=hg.size;simpa using this
 have hvx:v.ownBlock≠some x:=fun e=>by
  obtain ⟨Co,hC⟩:=hvn x e
  rw [a1] at hC
  simp only [Option.some.injEq,Obj.cells.injEq] at hC
  exact hT2 hC.2.1
 have hx5:=(k1 x hx4 hvx).trans a1
 have ks:∀ k,k≠x->(w5.setCell (aq x (p+2)) (.slice (some (aq g 0)) (n+1) cap)).heap[k]?=w5.heap[k]?:=fun k hk=>Below.heap_setCell _ (aq x (p+2)) _ _ hk
 have hgx:g≠x:=by
  rintro rfl
  rcases hat with e|e
  ·exact hvx e
  ·omega
 refine ⟨t',g,cap,Joins.block_setCell hx5 _,t'.at_keep a2 (fun k hk=>?_),a3,jad hown (fun k hk=>ks k (fun e=>hgx (by simp [Value.ownBlock] at hk;exact hk.trans e))),⟨hg.os.trans (a4.os.trans hW.os),hg.tape.trans (a4.tape.trans hW.tape),hg.output.trans (a4.output.trans hW.output),by simp [World.setCell];omega,fun k hk hn=>?_⟩,fun k hk=>(a5 k hk).imp id (fun e=>by omega),hat.imp id (fun e=>by omega)⟩
 ·have hk4:=t'.at_lt a2 hk
  obtain ⟨C',hC⟩:=t'.at_type a2 hk
  have hkx:k≠x:=fun e=>by
   rw [e,a1] at hC
   simp only [Option.some.injEq,Obj.cells.injEq] at hC
   exact hT hC.2.1
  refine (ks k hkx).trans (k1 k hk4 (fun e=>?_))
  obtain ⟨Co,hCo⟩:=hvn k e
  rw [hCo] at hC
  simp only [Option.some.injEq,Obj.cells.injEq] at hC
  exact absurd hC.2.1 (by decide)
 ·rw [ks k (fun e=>hn (.inl e)),k1 k (by omega) (fun e=>hn (.inr e)),a4.block k (by omega) (fun e=>hn (.inl e))]
  exact hW.block k hk
theorem qfc {W:World} {x:Nat} {own:Nat->Prop} {V:PV} (id at':Int) (h:psm W x own V) (hz:V.atl.length<=4294967296) :
 Calls Tryz.prog 75 #[pt V.aw 0,iv id,iv at'] W fun e w'=>e=.returned (iv (qdg V.an V.atl id at'))/\jb4 W w' x own { V with atl:=jg1 V.an V.atl id at' }:=by
 obtain ⟨g,h⟩:=h
 refine (timersW.set id at' h.aw (by omega)).mono ?_
 rintro e w' ⟨rfl,ha⟩
 exact ⟨rfl,h.turnA ha⟩
def PV.aadd (V:PV) (a:PAns) (up:Int):PV:={ V with atl:=jg1 V.an V.atl a.t up,att:=jbl (a.t,0) V.al.length V.att,al:=V.al++[a],arm:=if V.arm<(V.al.length:Int)+1 then (V.al.length:Int)+1 else V.arm }
theorem jns (l:List PAns):(jdd l).length=l.length * 9:=by
 induction l with
 | nil=>rfl
 | cons o l ih=>simp only [jdd,List.flatMap_cons,List.length_append] at ih ⊢;rw [ih];simp [PAns.vals];omega
theorem qbp {W w':World} {x:Nat} {own:Nat->Prop} {V:PV} {g:PG} (h:PMem W x own V g) (a:PAns) (hn:jb5 (a.t,0) V.att=none) {rm:Int} (hA:jfl W w' 0 x 24 (jbe V g) 117 g.att V.att.length a.t (.slice g.ao V.al.length g.ac) V.al.length (jdd V.al) a.vals rm) :
 jb4 W w' x own { V with att:=jbl (a.t,0) V.al.length V.att,al:=V.al++[a],arm:=rm }:=by
 obtain ⟨t',b,cap,a1,a2,a3,a4,a5,a6,a7⟩:=hA
 rw [h.att.2] at a3
 have e1:(V.att.length:Int)+1=((jbl (a.t,0) V.al.length V.att).length:Int):=by rw [jmx hn];omega
 have e2:(V.al++[a]).length=V.al.length+1:=by simp
 rw [e1] at a1
 have hs':Same (g.xs V x) W w':=jci a5 (fun k e=>e.elim .inl (fun e=>.inr (.inr e)))
 refine h.turn hs' (V':={ V with att:=jbl (a.t,0) V.al.length V.att,al:=V.al++[a],arm:=rm }) (g':={ g with att:=t',ao:=some (aq b 0),ac:=cap }) ?_ rfl ⟨rfl,rfl,rfl⟩ ⟨rfl,rfl,rfl,rfl⟩ ⟨rfl,rfl,rfl,rfl⟩ ⟨h.stay hs' h.ot.1,h.ot.2,fun _ e=>.inl e⟩ ⟨h.stay hs' h.qt.1,h.qt.2,fun _ e=>.inl e⟩ ⟨h.stay hs' h.qz.1,h.qz.2,fun _ e=>.inl e⟩ ⟨h.stay hs' h.lu.1,h.lu.2,fun _ e=>.inl e⟩ ⟨a2,a3,a6⟩ ?_ ?_
 ·rw [a1]
  unfold jbe
  simp only [e2]
  rfl
 ·refine ⟨jad h.orow (fun k e=>a5.block k (World.ownsRow.lt h.orow k e).2 (fun c=>?_)),fun k e=>.inl e⟩
  rcases c with c|c
  ·exact jb9 h.orow h.blk (by decide) (by rw [e,show k=x from c])
  ·obtain ⟨Co,hCo⟩:=jh7 h.arow c
   exact jb9 h.orow hCo (by decide) e
 ·show w'.ownsRow 0 188 9 (.slice (some (aq b 0)) (V.al++[a]).length cap) (V.al++[a]).length (jdd (V.al++[a]))/\∀ k,Value.ownBlock (.slice (some (aq b 0)) (V.al++[a]).length cap)=some k->_
  rw [e2]
  refine ⟨?_,fun k e=>?_⟩
  ·have e3:jdd (V.al++[a])=jdd V.al++a.vals:=by simp [jdd]
   rw [e3]
   exact a4
  ·have e4:b=k:=by simpa [Value.ownBlock] using e
   rw [← e4]
   exact a7
theorem qg5 (a:PAns) (up:Int) (w:World) (x:Nat) (own:Nat->Prop) (V:PV) (h:psm w x own V) (hs:srt V.att) (hn:jb5 (a.t,0) V.att=none) (hz:V.al.length<=4294967296) (hzt:V.att.length<=4294967296) (hz2:V.atl.length<=4294967296) :
 Calls Tryz.prog 102 #[pt x 23,a.val,iv up] w fun e w'=>e=.returned (.tuple #[])/\jb4 w w' x own (V.aadd a up):=by
 have hw:=jfm h
 have hxo:own x:=by obtain ⟨g,h⟩:=h;exact h.ownx
 have HS:Hid (jfa w own 1 x V { V with atl:=jg1 V.an V.atl a.t up } 75 #[pt V.aw 0,iv a.t,iv up] (iv (qdg V.an V.atl a.t up))):=jax hw (fun W own' hp=>qfc a.t up hp hz2)
 have c23:w.cell? (aq x 23)=some (pt V.aw 0):=by obtain ⟨g,h⟩:=h;exact h.cell 23 _ rfl
 have hxw:x<w.heap.size:=hw x hxo
 have HT0:Hid (jjp w own 1 (w.alloc (.cells #[iv a.k,iv a.t,iv a.c,iv a.u,iv a.o,iv a.rk,iv a.ro,iv a.rc,iv a.ru] 188)) x V):=jh4 h ((Below.refl _ _).alloc (Nat.le_refl _) _) (by simp)
 have ob0:Hid ((w.alloc (.cells #[iv a.k,iv a.t,iv a.c,iv a.u,iv a.o,iv a.rk,iv a.ro,iv a.rc,iv a.ru] 188)).heap[w.heap.size]?=some (.cells #[iv a.k,iv a.t,iv a.c,iv a.u,iv a.o,iv a.rk,iv a.ro,iv a.rc,iv a.ru] 188 (0,0))):=heap_alloc_new w _
 have HC:Hid (∀ W,jjp w own 1 W x { V with atl:=jg1 V.an V.atl a.t up }->W.cell? (aq x 23)=some (pt V.aw 0)):=fun W hT=>by
  obtain ⟨o1,⟨g,a1⟩,_⟩:=hT
  exact a1.cell 23 _ rfl
 have c23':=(((Below.refl w.heap.size w).alloc (Nat.le_refl _) (.cells #[iv a.k,iv a.t,iv a.c,iv a.u,iv a.o,iv a.rk,iv a.ro,iv a.rc,iv a.ru] 188)).cell (p:=(aq x 23)) hxw).trans c23
 replace hw:Hid _:=hw
 unfold PAns.val
 obtain ⟨i0,j0,j1,j2,j3⟩:=info_parts Tryz.infoPAnswer
 clear h c23
 go_enter Tryz.func102,Tryz.ntmps102
 go_wp2_with fail
 generalize w.alloc (.cells #[iv a.k,iv a.t,iv a.c,iv a.u,iv a.o,iv a.rk,iv a.ro,iv a.rc,iv a.ru] 188)=W0 at HT0 ob0 c23' ⊢
 have lw0:w.heap.size<W0.heap.size:=(blt ob0.out)
 have hx0:x<W0.heap.size:=by omega
 obtain ⟨s0,s1,s2,s3,s4,s5,s6,s7,s8⟩:=jbt ob0.out
 go_region_held3 (fun w'=>w'.cell? (aq x 23)=some (pt V.aw 0)/\w'.cell? (aq w.heap.size 1)=some (iv a.t)) (simp [go_sem, *])
  (first
    | (go_at_call 75;refine (HS.out _ (jat HT0.out bL)).mono ?_;rintro e W1 ⟨rfl,hT1,hk⟩
       have ob1:Hid (W1.heap[w.heap.size]?=some (.cells #[iv a.k,iv a.t,iv a.c,iv a.u,iv a.o,iv a.rk,iv a.ro,iv a.rc,iv a.ru] 188 (0,0))):=(hk _ (Nat.le_refl _) (by omega)).trans ob0.out
       obtain ⟨r0,r1,r2,r3,r4,r5,r6,r7,r8⟩:=jbt ob1.out
       have k23:=HC.out W1 hT1
       have lw1:w.heap.size<W1.heap.size:=(blt ob1.out)
       have hx1:x<W1.heap.size:=by omega
       replace hT1:Hid _:=hT1
       clear hk))
 clear s0 s1 s2 s3 s4 s5 s6 s7 s8 c23' HS HC HT0 ob0 lw0 hx0 k23
 obtain ⟨o1,⟨g,hm⟩,a2,a3,a4⟩:=hT1.out
 have hAx:w.heap.size≠x:=by omega
 have HFIN:Hid (∀ w',jfl W1 w' 0 x 24 (jbe { V with atl:=jg1 V.an V.atl a.t up } g) 117 g.att V.att.length a.t (.slice g.ao V.al.length g.ac) V.al.length (jdd V.al) a.vals (if V.arm<(V.al.length:Int)+1 then (V.al.length:Int)+1 else V.arm)->jb4 w w' x own (V.aadd a up)):=fun w' hA=>jl7 (jtv a2 a3 a4 hw.out (qbp hm a hn hA)).1
 have hx:W1.heap[x]?=some (.cells (jbe { V with atl:=jg1 V.an V.atl a.t up } g) 117 (0,0)):=hm.blk
 have h0:(jbe { V with atl:=jg1 V.an V.atl a.t up } g)[24]?=some (.pointer g.att.addr):=rfl
 have h1:(jbe { V with atl:=jg1 V.an V.atl a.t up } g)[24+1]?=some (iv V.att.length):=rfl
 have h2:(jbe { V with atl:=jg1 V.an V.atl a.t up } g)[24+2]?=some (.slice g.ao V.al.length g.ac):=rfl
 have h3:(jbe { V with atl:=jg1 V.an V.atl a.t up } g)[24+3]?=some (iv V.arm):=rfl
 have ht:=hm.att.1
 have hO:W1.ownsRow 0 188 9 (.slice g.ao V.al.length g.ac) V.al.length (jdd V.al):=hm.arow
 have hst:srt g.att.toL:=by rw [show g.att.toL=V.att from hm.att.2];exact hs
 have hnt:jb5 (a.t,0) g.att.toL=none:=by rw [show g.att.toL=V.att from hm.att.2];exact hn
 unfold PAns.vals at HFIN
 clear hT1 hm a2 a3 a4 hn hs hz2
 generalize jbe { V with atl:=jg1 V.an V.atl a.t up } g=C at hx h0 h1 h2 h3 HFIN
 generalize hE:jdd V.al=E at hO HFIN
 clear hE
 have hsz:(0:Int)<=(V.att.length:Int)/\(V.att.length:Int)<9223372036854775807:=⟨by omega,by omega⟩
 have hl:V.al.length * 72+72<=140737488351232:=by omega
 generalize (V.att.length:Int)=s at h1 hsz HFIN
 generalize V.al.length=n at h2 hO hl HFIN
 have HRM:Hid (∃ rm',rm'=if V.arm<(n:Int)+1 then (n:Int)+1 else V.arm):=⟨_,rfl⟩
 obtain ⟨rm',hrm⟩:=HRM.out
 rw [← hrm] at HFIN
 generalize V.arm=rm at h3 hrm
 generalize g.ao=oo at h2 hO HFIN
 generalize g.ac=oc at h2 hO HFIN
 generalize g.att=t at h0 ht hst hnt HFIN
 clear hz hzt
 have hT:117≠211:=by decide
 have hT2:117≠188:=by decide
 have HP:Hid (∀ W,Below W1.heap.size W1 W->Calls Tryz.prog 112 #[pt x 24,.agg #[iv a.t,iv 0],iv n] W fun e w'=>e=.returned (.tuple #[])/\jbk W w' x 24 C 117 (s+1) t (jbl (a.t,0) n t.toL)):=fun W hW=>ji2 x 24 C 117 hT t s a.t 0 n W ((hW.block x hx1).trans hx) h0 h1 (t.at_below ht hW) hst hnt hsz
 have kl:W1.cell? (aq x 26)=some (.slice oo n oc):=by rw [Joins.cell_of_block hx];exact h2
 have hvx:Value.ownBlock (.slice oo n oc)≠some x:=jb9 hO hx (fun e=>hT2 e.symm)
 have HROOM:Hid (∀ W6,jp9 W1 W6 0 x 24 C 117 t s a.t (.slice oo n oc) n E [iv a.k,iv a.t,iv a.c,iv a.u,iv a.o,iv a.rk,iv a.ro,iv a.rc,iv a.ru]->∃ gg cp:Nat,W6.cell? (aq x 26)=some (.slice (some (aq gg 0)) (n+1) cp)/\W6.cell? (aq x 27)=some (iv rm)/\W6.frozen? (aq x 27)=false/\x<W6.heap.size/\(rm'=rm->jfl W1 W6 0 x 24 C 117 t s a.t (.slice oo n oc) n E [iv a.k,iv a.t,iv a.c,iv a.u,iv a.o,iv a.rk,iv a.ro,iv a.rc,iv a.ru] rm')/\jfl W1 (W6.setCell (aq x 27) (iv rm')) 0 x 24 C 117 t s a.t (.slice oo n oc) n E [iv a.k,iv a.t,iv a.c,iv a.u,iv a.o,iv a.rk,iv a.ro,iv a.rc,iv a.ru] rm'):=fun W6 hA=>jxh hT hT2 h2 h3 hA
 have HAPP:Hid (∀ W w4,Below W1.heap.size W1 W->jbk W w4 x 24 C 117 (s+1) t (jbl (a.t,0) n t.toL)->w4.ownsRow 0 188 9 (.slice oo n oc) n E/\w4.cell? (aq x 26)=some (.slice oo n oc)/\w4.frozen? (aq x 26)=false/\x<w4.heap.size/\(∀ w5 O,(w4.alloc O).drew.grownBy w5 (Value.ownBlock (.slice oo n oc))->w5.cell? (aq x 26)=some (.slice oo n oc)/\w5.frozen? (aq x 26)=false)/\∀ w5 g cp O,w5.ownsRow 0 188 9 (.slice (some (aq g 0)) (n+1) cp) (n+1) (E++[iv a.k,iv a.t,iv a.c,iv a.u,iv a.o,iv a.rk,iv a.ro,iv a.rc,iv a.ru])->(w4.alloc O).grownBy w5 (Value.ownBlock (.slice oo n oc))->(Value.ownBlock (.slice oo n oc)=some g\/g=w4.heap.size+1)->jp9 W1 (w5.setCell (aq x 26) (.slice (some (aq g 0)) (n+1) cp)) 0 x 24 C 117 t s a.t (.slice oo n oc) n E [iv a.k,iv a.t,iv a.c,iv a.u,iv a.o,iv a.rk,iv a.ro,iv a.rc,iv a.ru]):=fun W w4 hW hA=>by
  have hA0:=hA
  obtain ⟨t',a1,a2,a3,a4,a5⟩:=hA
  have zW:=hW.size
  have z4:=a4.size
  have hOW:=jbg hO hW (Nat.le_refl _)
  have hO4:w4.ownsRow 0 188 9 (.slice oo n oc) n E:=jad hOW (fun k hk=>a4.block k (World.ownsRow.lt hOW k hk).2 (fun e=>hvx (by rw [hk];exact congrArg some e)))
  have e2:((C.setIfInBounds (24+1) (iv (s+1))).setIfInBounds 24 (.pointer t'.addr))[24+2]?=some (.slice oo n oc):=by
   rw [Array.getElem?_setIfInBounds,if_neg (by omega),Array.getElem?_setIfInBounds,if_neg (by omega)];exact h2
  have hx4:x<w4.heap.size:=(blt a1)
  refine ⟨hO4,by rw [Joins.cell_of_block a1];exact e2,ja0 a1 _,hx4,fun w5 O hg=>?_,fun w5 g cp O q1 q2 q3=>qc1 hT hT2 hW hA0 (fun k hk=>?_) q1 q2 q3⟩
  ·have hx5:w5.heap[x]?=_:=(hg.block x (by simp;omega) (fun e=>hvx e.symm)).trans ((Below.heap_alloc w4 O x hx4).trans a1)
   exact ⟨by rw [Joins.cell_of_block hx5];exact e2,ja0 hx5 _⟩
  ·rcases hO4.2 with ⟨hh,_⟩|⟨g',cp',cur,hh,_,hgg,_⟩
   ·rw [hh] at hk;simp [Value.ownBlock] at hk
   ·rw [hh] at hk
    have e:g'=k:=by simpa [Value.ownBlock] using hk
    rw [← e]
    exact ⟨_,hgg⟩
 clear hx h0 h1 h2 h3 ht hst hnt hsz hO hvx
 replace ob1:Hid _:=ob1
 go_wp2_with fail
 go_region_held3 (fun w'=>w'.cell? (aq w.heap.size 1)=some (iv a.t)/\w'.cell? (aq x 26)=some (.slice oo n oc)) (simp [go_sem, *])
  (first
    | (go_at_call 112;refine (HP.out _ bL).mono ?_;rintro e w4 ⟨rfl,hq⟩
       obtain ⟨m1,m3,m4,m5,m6,m7⟩:=HAPP.out _ w4 bL hq
       have hsm:=hq.choose_spec.2.2.2.1
       have ob4:Hid (w4.heap[w.heap.size]?=some (.cells #[iv a.k,iv a.t,iv a.c,iv a.u,iv a.o,iv a.rk,iv a.ro,iv a.rc,iv a.ru] 188 (0,0))):=(hsm.block w.heap.size lw1 hAx).trans ob1.out
       obtain ⟨q0,q1,q2,q3,q4,q5,q6,q7,q8⟩:=jbt ob4.out
       replace m1:Hid (w4.ownsRow 0 188 9 (.slice oo n oc) n E):=m1
       replace m6:Hid _:=m6
       replace m7:Hid _:=m7
       clear hsm hq))
 have hz4:w.heap.size<w4.heap.size:=(blt ob4.out)
 have hnb:Hid ((w4.alloc (.cells #[iv a.k,iv a.t,iv a.c,iv a.u,iv a.o,iv a.rk,iv a.ro,iv a.rc,iv a.ru] 188)).heap[w4.heap.size]?=some (.cells #[iv a.k,iv a.t,iv a.c,iv a.u,iv a.o,iv a.rk,iv a.ro,iv a.rc,iv a.ru] 188 (0,0))):=heap_alloc_new _ _
 clear r0 r1 r2 r3 r4 r5 r6 r7 r8 HP HAPP kl
 go_wp2_with fail
 go_region_law ((refine step_append_lies _ (by rfl) _ _ _ (by rfl) 0 188 i0 (.agg #[iv 0,iv 0,iv 0,iv 0,iv 0,iv 0,iv 0,iv 0,iv 0]) 9 72 Tryz.underlying113 j0 j1 j2 j3 rfl (by omega) (.slice oo n oc) n E (by rfl) ((show w4.ownsRow 0 188 9 (.slice oo n oc) n E from m1.out).alloc _).drew (aq w4.heap.size 0) 1 1 [iv a.k,iv a.t,iv a.c,iv a.u,iv a.o,iv a.rk,iv a.ro,iv a.rc,iv a.ru] (by rfl) (by rfl) (World.news_of_block (cs:=#[iv a.k,iv a.t,iv a.c,iv a.u,iv a.o,iv a.rk,iv a.ro,iv a.rc,iv a.ru]) (t:=188) (fr:=(0,0)) hnb.out) (by simp [Value.oneCell']) (by omega) (by unfold maxLen;omega) (by omega) (by simp) (w4.heap.size+1) (by simp) ?_
                 intro gg cp w5 hown3 hgrow hat hlt
                 obtain ⟨g1,gf⟩:=m6.out w5 _ hgrow
                 replace hown3:Hid _:=hown3
                 replace hgrow:Hid _:=hgrow
                 replace hat:Hid _:=hat))
 all_goals
  have hA:=m7.out w5 gg cp _ hown3.out ⟨hgrow.out.os,hgrow.out.tape,hgrow.out.output,hgrow.out.size,hgrow.out.block⟩ hat.out
  obtain ⟨g6,c6,k2,k3,kf,kx,kn,ks⟩:=HROOM.out _ hA
  clear hA g1 gf
  generalize w5.setCell (aq x 26) (.slice (some (aq gg 0)) (n+1) cp)=W6 at k2 k3 kf kx kn ks ⊢
  replace kn:Hid _:=kn
  replace ks:Hid _:=ks
  by_cases hr:rm<(n:Int)+1
  ·have dr:decide (rm<(n:Int)+1)=true:=by simpa using hr
   have er:rm'=(n:Int)+1:=by rw [hrm,if_pos hr]
   subst er
   clear hrm
   go_wp2_with fail
   go_region
   all_goals (first|go_end0|(go_wp2;go_end0)|(go_wp2;refine bodyPost_ret (results_none rfl _ _ _) rfl ?_))
   all_goals exact ⟨rfl,HFIN.out _ (jo0 ks.out)⟩
  ·have dr:decide (rm<(n:Int)+1)=false:=by simpa using hr
   have er:rm'=rm:=by rw [hrm,if_neg hr]
   clear hrm
   go_wp2_with fail
   go_region
   all_goals (first|go_end0|(go_wp2;go_end0)|(go_wp2;refine bodyPost_ret (results_none rfl _ _ _) rfl ?_))
   all_goals exact ⟨rfl,HFIN.out _ (jo0 (kn.out er))⟩
def jk2 (w w':World) (x p b n:Nat) (C:Array Value) (T:TypeId) (E:List Value):Prop :=
 ∃ (g cap:Nat) (rm:Int),w'.heap[x]?=some (.cells ((C.setIfInBounds (p+2) (.slice (some (aq g 0)) n cap)).setIfInBounds (p+3) (iv rm)) T (0,0))/\w'.ownsRow 0 184 6 (.slice (some (aq g 0)) n cap) n E/\Same (fun k=>k=x) w w'/\(g=b\/w.heap.size<=g)
theorem jxa (x p b n oc:Nat) (C:Array Value) (T:TypeId) (rm:Int) (E:List Value) (w:World) (hx:w.heap[x]?=some (.cells C T (0,0))) (h2:C[p+2]?=some (.slice (some (aq b 0)) n oc)) (h3:C[p+3]?=some (iv rm)) (hO:w.ownsRow 0 184 6 (.slice (some (aq b 0)) n oc) n E) (h1:∀ u∈E,u.oneCell'=true) (hl:n * 48+48<=140737488351232) :
 Calls Tryz.prog 176 #[pt x p] w fun e w'=>e=.returned (.tuple #[])/\jk2 w w' x p b n C T E:=by
 have hxw:x<w.heap.size:=(blt hx)
 have k2:w.cell? (aq x (p+2))=some (.slice (some (aq b 0)) n oc):=by rw [Joins.cell_of_block hx];exact h2
 have k3:w.cell? (aq x (p+3))=some (iv rm):=by rw [Joins.cell_of_block hx];exact h3
 have f2:=ja0 hx (p+2)
 have f3:=ja0 hx (p+3)
 obtain ⟨i0,hi,hz0,hz1,hz2⟩:=info_parts Tryz.infoPOrder
 have HK:Hid (∀ w',Below w.heap.size w w'->jk2 w w' x p b n C T E):=fun w' hb=>by
  refine ⟨b,oc,rm,?_,jbg hO hb (Nat.le_refl _),Same.of_below hb,.inl rfl⟩
  rw [jga h2,jga h3]
  exact (hb.block x hxw).trans hx
 have hbw:b<w.heap.size:=(World.ownsRow.lt hO b rfl).2
 have HALL:Hid (∀ W0,Below w.heap.size w W0->W0.heap.size=w.heap.size->W0.cell? (aq x (p+2))=some (.slice (some (aq b 0)) n oc)/\x<W0.heap.size/\Hid (∀ j u,E[j]?=some u->(W0.alloc (.cells #[] 184)).cell? (((aq b 0):Addr).add j)=some u)/\Hid (∀ v' W2,W2.ownsRow W0.heap.size 184 6 v' (0+n) ([]++E)->(W0.alloc (.cells #[] 184)).grownBy W2 (Value.ownBlock (.slice (some (aq W0.heap.size 0)) 0 0))->(v'=.slice none 0 0↔(Value.slice (some (aq W0.heap.size 0)) 0 0)=.slice none 0 0/\n=0)->∃ g cp,v'=.slice (some (aq g 0)) n cp/\W2.cell? (aq x (p+2))=some (.slice (some (aq b 0)) n oc)/\W2.frozen? (aq x (p+2))=false/\W2.frozen? (aq x (p+3))=false/\W2.cell? (aq x (p+3))=some (iv rm)/\x<W2.heap.size/\Hid (∀ r:Int,jk2 w ((W2.setCell (aq x (p+2)) (.slice (some (aq g 0)) n cp)).setCell (aq x (p+3)) (iv r)) x p b n C T E))):=fun W0 hW hsz=>by
  have hx0:=(hW.block x hxw).trans hx
  have hxw0:x<W0.heap.size:=by omega
  refine ⟨by rw [Joins.cell_of_block hx0];exact h2,hxw0,fun j u hu=>?_,fun v' W2 hown hgrow hnil=>?_⟩
  ·have:=(jbg hO hW (Nat.le_refl _)).cells (g:=b) rfl j u hu
   rw [Addr.add_lit] at this ⊢
   exact (((Below.refl W0.heap.size W0).alloc (Nat.le_refl _) (.cells #[] 184)).cell (p:=(aq b (0+j))) (by show b<_;omega)).trans this
  ·rw [Nat.zero_add,List.nil_append] at hown
   have hk:∀ k,k<w.heap.size->W2.heap[k]?=w.heap[k]?:=fun k hk=>(hgrow.block k (by simp;omega) (fun e=>by simp [Value.ownBlock] at e;omega)).trans ((Below.heap_alloc _ _ _ (by omega)).trans (hW.block k hk))
   have z:=hgrow.size
   rw [show (W0.alloc (.cells #[] 184)).heap.size=W0.heap.size+1 by simp] at z
   rcases hown.2 with ⟨hh,_⟩|⟨g,cp,cur,rfl,hgw,hg,_⟩
   ·have:=(hnil.1 hh).1
    simp at this
   ·have hx2:=(hk x hxw).trans hx
    have hgx:x≠g:=by omega
    refine ⟨g,cp,rfl,by rw [Joins.cell_of_block hx2];exact h2,ja0 hx2 _,ja0 hx2 _,by rw [Joins.cell_of_block hx2];exact h3,(blt hx2),fun r=>⟨g,cp,r,Joins.block_setCell (Joins.block_setCell hx2 _) _,?_,?_,.inr (by omega)⟩⟩
    ·refine jad (jq7 hown (Nat.zero_le _)) (fun k hk'=>?_)
     have e:g=k:=by simpa [Value.ownBlock] using hk'
     rw [Below.heap_setCell _ (aq x (p+3)) _ _ (show k≠x by omega),Below.heap_setCell _ (aq x (p+2)) _ _ (show k≠x by omega)]
    ·have hs0:Same (fun k=>k=x) w W2:=⟨hgrow.os.trans hW.os,hgrow.tape.trans hW.tape,hgrow.output.trans hW.output,by omega,fun k hk' _=>hk k hk'⟩
     exact jce (jce hs0 x _ _ rfl) x _ _ rfl
 clear hx h2 h3
 by_cases hr:wrap64 (rm.tdiv 2)<(n:Int)
 ·have dr:decide (wrap64 (rm.tdiv 2)<(n:Int))=true:=by simpa using hr
  go_enter Tryz.func176,Tryz.ntmps176
  go_wp2_with fail
  go_quiet (fail)
  go_wp2
  first|go_end0|refine bodyPost_ret (results_none rfl _ _ _) rfl ?_
  exact ⟨rfl,HK.out _ bL⟩
 ·have dr:decide (wrap64 (rm.tdiv 2)<(n:Int))=false:=by simpa using hr
  go_enter Tryz.func176,Tryz.ntmps176
  go_wp2_with fail
  go_quiet (fail)
  obtain ⟨k2',hx0,HNEWS,HAPP⟩:=HALL.out (w.drewN nq) (jaf (Below.refl _ _)) rfl
  have hlen:E.length=n * 6:=hO.1
  clear HALL HK hO
  generalize w.drewN nq=W0 at k2' hx0 HNEWS HAPP ⊢
  go_wp2_with (at_builtin;refine wpList_append_own _ rfl _ _ 106 rfl W0.heap.size 184 i0 (.agg #[iv 0,iv 0,iv 0,iv 0,iv 0,iv 0]) 6 48 Tryz.underlying106 hi hz0 hz1 hz2 rfl (by decide) _ _ _ rfl (World.ownsRow_made W0 #[] 0 (Nat.le_refl _) (by unfold maxLen;omega) rfl) (aq b 0) n oc E rfl hlen HNEWS.out h1 (by unfold maxLen;omega) (by omega) (by simp) ?_
               intro v' W2 hown hgrow hnil
               obtain ⟨g,cp,rfl,c2,z2,z3,c3,hx2,hfin⟩:=HAPP.out v' W2 hown hgrow hnil)
  first|go_end0|refine bodyPost_ret (results_none rfl _ _ _) rfl ?_
  exact ⟨rfl,hfin.out _⟩
def jkc (w w':World) (x q b n:Nat) (C:Array Value) (T:TypeId) (E:List Value):Prop :=
 ∃ (g cap:Nat) (rm:Int),w'.heap[x]?=some (.cells ((C.setIfInBounds (q+3) (.slice (some (aq g 0)) n cap)).setIfInBounds (q+4) (iv rm)) T (0,0))/\w'.ownsRow 0 188 9 (.slice (some (aq g 0)) n cap) n E/\Same (fun k=>k=x) w w'/\(g=b\/w.heap.size<=g)
theorem jxz (x q b n oc:Nat) (C:Array Value) (T:TypeId) (rm:Int) (E:List Value) (w:World) (hx:w.heap[x]?=some (.cells C T (0,0))) (h2:C[q+3]?=some (.slice (some (aq b 0)) n oc)) (h3:C[q+4]?=some (iv rm)) (hO:w.ownsRow 0 188 9 (.slice (some (aq b 0)) n oc) n E) (h1:∀ u∈E,u.oneCell'=true) (hl:n * 72+72<=140737488351232) :
 Calls Tryz.prog 163 #[pt x q] w fun e w'=>e=.returned (.tuple #[])/\jkc w w' x q b n C T E:=by
 have hxw:x<w.heap.size:=(blt hx)
 have k2:w.cell? (aq x (q+3))=some (.slice (some (aq b 0)) n oc):=by rw [Joins.cell_of_block hx];exact h2
 have k3:w.cell? (aq x (q+4))=some (iv rm):=by rw [Joins.cell_of_block hx];exact h3
 have f2:=ja0 hx (q+3)
 have f3:=ja0 hx (q+4)
 obtain ⟨i0,hi,hz0,hz1,hz2⟩:=info_parts Tryz.infoPAnswer
 have HK:Hid (∀ w',Below w.heap.size w w'->jkc w w' x q b n C T E):=fun w' hb=>by
  refine ⟨b,oc,rm,?_,jbg hO hb (Nat.le_refl _),Same.of_below hb,.inl rfl⟩
  rw [jga h2,jga h3]
  exact (hb.block x hxw).trans hx
 have hbw:b<w.heap.size:=(World.ownsRow.lt hO b rfl).2
 have HALL:Hid (∀ W0,Below w.heap.size w W0->W0.heap.size=w.heap.size->W0.cell? (aq x (q+3))=some (.slice (some (aq b 0)) n oc)/\x<W0.heap.size/\Hid (∀ j u,E[j]?=some u->(W0.alloc (.cells #[] 188)).cell? (((aq b 0):Addr).add j)=some u)/\Hid (∀ v' W2,W2.ownsRow W0.heap.size 188 9 v' (0+n) ([]++E)->(W0.alloc (.cells #[] 188)).grownBy W2 (Value.ownBlock (.slice (some (aq W0.heap.size 0)) 0 0))->(v'=.slice none 0 0↔(Value.slice (some (aq W0.heap.size 0)) 0 0)=.slice none 0 0/\n=0)->∃ g cp,v'=.slice (some (aq g 0)) n cp/\W2.cell? (aq x (q+3))=some (.slice (some (aq b 0)) n oc)/\W2.frozen? (aq x (q+3))=false/\W2.frozen? (aq x (q+4))=false/\W2.cell? (aq x (q+4))=some (iv rm)/\x<W2.heap.size/\Hid (∀ r:Int,jkc w ((W2.setCell (aq x (q+3)) (.slice (some (aq g 0)) n cp)).setCell (aq x (q+4)) (iv r)) x q b n C T E))):=fun W0 hW hsz=>by
  have hx0:=(hW.block x hxw).trans hx
  have hxw0:x<W0.heap.size:=by omega
  refine ⟨by rw [Joins.cell_of_block hx0];exact h2,hxw0,fun j u hu=>?_,fun v' W2 hown hgrow hnil=>?_⟩
  ·have:=(jbg hO hW (Nat.le_refl _)).cells (g:=b) rfl j u hu
   rw [Addr.add_lit] at this ⊢
   exact (((Below.refl W0.heap.size W0).alloc (Nat.le_refl _) (.cells #[] 188)).cell (p:=(aq b (0+j))) (by show b<_;omega)).trans this
  ·rw [Nat.zero_add,List.nil_append] at hown
   have hk:∀ k,k<w.heap.size->W2.heap[k]?=w.heap[k]?:=fun k hk=>(hgrow.block k (by simp;omega) (fun e=>by simp [Value.ownBlock] at e;omega)).trans ((Below.heap_alloc _ _ _ (by omega)).trans (hW.block k hk))
   have z:=hgrow.size
   rw [show (W0.alloc (.cells #[] 188)).heap.size=W0.heap.size+1 by simp] at z
   rcases hown.2 with ⟨hh,_⟩|⟨g,cp,cur,rfl,hgw,hg,_⟩
   ·have:=(hnil.1 hh).1
    simp at this
   ·have hx2:=(hk x hxw).trans hx
    have hgx:x≠g:=by omega
    refine ⟨g,cp,rfl,by rw [Joins.cell_of_block hx2];exact h2,ja0 hx2 _,ja0 hx2 _,by rw [Joins.cell_of_block hx2];exact h3,(blt hx2),fun r=>⟨g,cp,r,Joins.block_setCell (Joins.block_setCell hx2 _) _,?_,?_,.inr (by omega)⟩⟩
    ·refine jad (jq7 hown (Nat.zero_le _)) (fun k hk'=>?_)
     have e:g=k:=by simpa [Value.ownBlock] using hk'
     rw [Below.heap_setCell _ (aq x (q+4)) _ _ (show k≠x by omega),Below.heap_setCell _ (aq x (q+3)) _ _ (show k≠x by omega)]
    ·have hs0:Same (fun k=>k=x) w W2:=⟨hgrow.os.trans hW.os,hgrow.tape.trans hW.tape,hgrow.output.trans hW.output,by omega,fun k hk' _=>hk k hk'⟩
     exact jce (jce hs0 x _ _ rfl) x _ _ rfl
 clear hx h2 h3
 by_cases hr:wrap64 (rm.tdiv 2)<(n:Int)
 ·have dr:decide (wrap64 (rm.tdiv 2)<(n:Int))=true:=by simpa using hr
  go_enter Tryz.func163,Tryz.ntmps163
  go_wp2_with fail
  go_quiet (fail)
  go_wp2
  first|go_end0|refine bodyPost_ret (results_none rfl _ _ _) rfl ?_
  exact ⟨rfl,HK.out _ bL⟩
 ·have dr:decide (wrap64 (rm.tdiv 2)<(n:Int))=false:=by simpa using hr
  go_enter Tryz.func163,Tryz.ntmps163
  go_wp2_with fail
  go_quiet (fail)
  obtain ⟨k2',hx0,HNEWS,HAPP⟩:=HALL.out (w.drewN nq) (jaf (Below.refl _ _)) rfl
  have hlen:E.length=n * 9:=hO.1
  clear HALL HK hO
  generalize w.drewN nq=W0 at k2' hx0 HNEWS HAPP ⊢
  go_wp2_with (at_builtin;refine wpList_append_own _ rfl _ _ 113 rfl W0.heap.size 188 i0 (.agg #[iv 0,iv 0,iv 0,iv 0,iv 0,iv 0,iv 0,iv 0,iv 0]) 9 72 Tryz.underlying113 hi hz0 hz1 hz2 rfl (by decide) _ _ _ rfl (World.ownsRow_made W0 #[] 0 (Nat.le_refl _) (by unfold maxLen;omega) rfl) (aq b 0) n oc E rfl hlen HNEWS.out h1 (by unfold maxLen;omega) (by omega) (by simp) ?_
               intro v' W2 hown hgrow hnil
               obtain ⟨g,cp,rfl,c2,z2,z3,c3,hx2,hfin⟩:=HAPP.out v' W2 hown hgrow hnil)
  first|go_end0|refine bodyPost_ret (results_none rfl _ _ _) rfl ?_
  exact ⟨rfl,hfin.out _⟩
section
section
variable {w:World} {x:Nat} {own:Nat->Prop} {S:Sal} {last:Nat} {an:Int}
theorem jov (h:psx an x S last w own) (hl:last<=4294967296) (r:Req) :
 Calls Tryz.prog 169 #[pt x 0,r.val] w fun e w'=>e=.returned (POrd.val ⟨(last:Int)+1,r.cust,r.units,0,0,0⟩)/\jap (psx an x S (last+1)) w w' own:=by
 obtain ⟨V,hm,hr,ha,han⟩:=h
 have hv:=hr.last
 refine (jwp r.kind r.token r.cust r.units r.order hm (by rw [hv];omega)).mono ?_
 rintro e w' ⟨rfl,hq⟩
 rw [hv] at hq
 refine ⟨by rw [hv],jf4 hq ⟨hr.C,hr.now,?_,hr.tn,hr.once,hr.tl,hr.kin,hr.live,hr.ls,hr.ol,hr.turns,hr.sizes,hr.held,hr.sold,hr.lu,hr.cust⟩ ha han⟩
 show (last:Int)+1=((last+1:Nat):Int)
 omega
theorem jye (h:psx an x S (S.os.length+1) w own) (hK:saleK S) (c u:Int) (hc:c≠0) (hu:1<=u/\u<=4294967296) :
 Calls Tryz.prog 162 #[pt x 0,POrd.val ⟨(S.os.length:Int)+1,c,u,0,0,0⟩] w fun e w'=>e=.returned (POrd.val ⟨(S.os.length:Int)+1,c,u,13,S.price,S.now+S.C.lease⟩)/\jap (psx an x (S.more ⟨c,u,13,S.price,S.now+S.C.lease,0⟩) (S.os.length+1)) w w' own:=by
 have hw:=(jbb an x S (S.os.length+1)).lt h
 refine qda x own (psx an x S (S.os.length+1)) (psx an x (S.more ⟨c,u,13,S.price,S.now+S.C.lease,0⟩) (S.os.length+1)) (jbb _ _ _ _) (jbb _ _ _ _) _ _ _ _ _ _ S.price (S.now+S.C.lease) w hw h (fun W hW=>jfs (jbb _ _ _ _) hw (fun W o hp=>jz9 hp) W hW) (fun W hW=>jcl hw (fun W o hp=>?_) W hW)
 exact jqc hp hK ⟨(S.os.length:Int)+1,c,u,0,S.price,0⟩ rfl rfl hc hu 13 (.inr rfl) _ rfl rfl rfl rfl (by unfold Ord.untl jau;rw [if_pos (.inr rfl),if_pos rfl])
theorem qf2 (h:psx an x S S.os.length w own) (hK:saleK S) (r:Req) (hc:r.cust≠0) (hu:1<=r.units/\r.units<=4294967296) :
 Calls Tryz.prog 155 #[pt x 0,r.val] w fun e w'=>e=.returned (Rep.val ⟨2,(S.os.length:Int)+1,S.price,S.now+S.C.lease⟩)/\jap (psx an x (S.more ⟨r.cust,r.units,13,S.price,S.now+S.C.lease,0⟩) (S.os.length+1)) w w' own:=by
 have hw:=(jbb an x S S.os.length).lt h
 exact qe7 x own (psx an x S S.os.length) (psx an x S (S.os.length+1)) (psx an x (S.more ⟨r.cust,r.units,13,S.price,S.now+S.C.lease,0⟩) (S.os.length+1)) (jbb _ _ _ _) (jbb _ _ _ _) (jbb _ _ _ _) r.kind r.token r.cust r.units r.order ((S.os.length:Int)+1) S.price (S.now+S.C.lease) w hw h (fun loc W hW=>ja6 hw (fun W o hp=>jov hp hK.len r) W hW) (fun loc W hW=>ja6 hw (fun W o hp=>jye hp hK r.cust r.units hc hu) W hW)
theorem jzu (h:psx an x S S.os.length w own) (hK:saleK S) (r:Req) (hc:r.cust≠0) (hu:1<=r.units/\r.units<=4294967296) :
 Calls Tryz.prog 156 #[pt x 0,r.val] w fun e w'=>e=.returned (Rep.val ⟨3,(S.os.length:Int)+1,0,S.now+S.C.wait⟩)/\jap (psx an x (S.more ⟨r.cust,r.units,12,0,S.now+S.C.wait,0⟩) (S.os.length+1)) w w' own:=by
 have hw:=(jbb an x S S.os.length).lt h
 refine jzg x own (psx an x S S.os.length) (psx an x S (S.os.length+1)) (psx an x (S.more ⟨r.cust,r.units,12,0,S.now+S.C.wait,0⟩) (S.os.length+1)) (jbb _ _ _ _) (jbb _ _ _ _) (jbb _ _ _ _) r.kind r.token r.cust r.units r.order ((S.os.length:Int)+1) (S.now+S.C.wait) w hw h (fun loc W hW=>ja6 hw (fun W o hp=>jov hp hK.len r) W hW) (fun loc W hW=>ja6 hw (fun W o hp=>?_) W hW)
 have:=jqc hp hK ⟨(S.os.length:Int)+1,r.cust,r.units,0,0,0⟩ rfl rfl hc hu 12 (.inl rfl) ⟨r.cust,r.units,12,0,S.now+S.C.wait,0⟩ rfl rfl rfl rfl (by unfold Ord.untl jau;rw [if_pos (.inl rfl),if_neg (show ¬ (12:Int)=13 by decide),if_pos rfl])
 rw [show jau S.C 12=S.C.wait by unfold jau;rw [if_neg (show ¬ (12:Int)=13 by decide),if_pos rfl]] at this
 exact this
theorem jq1 (h:psx an x S last w own) (c:Int) (hc:c≠0) :
 Calls Tryz.prog 61 #[pt x 19,iv c] w fun e w'=>e=.returned (.agg #[iv (ja4 S.os 13 c),iv (ja4 S.os 14 c),iv (ja4 S.os 12 c)])/\Below w.heap.size w w':=by
 obtain ⟨V,⟨g,hm⟩,hr,_⟩:=h
 have:=jw0 x 19 g.lu c w (hm.cell 21 _ rfl) hm.lu.1 (by rw [hm.lu.2];exact hr.lu.1)
 rw [hm.lu.2,jip hr.lu hc (.inr (.inl rfl)),jip hr.lu hc (.inr (.inr rfl)),jip hr.lu hc (.inl rfl)] at this
 exact this
theorem qag (h:psx an x S last w own) :
 Calls Tryz.prog 59 #[pt x 15] w fun e w'=>e=.returned (iv (ja5 S.os).length)/\Below w.heap.size w w':=by
 obtain ⟨V,⟨g,hm⟩,hr,_⟩:=h
 have:=jyu x 15 V.qt.length w (hm.cell 16 _ rfl)
 rw [jz8 hr.turns] at this
 exact this
theorem jf5 (h:psx an x S last w own):w.cell? (aq x 1)=some (iv S.C.cap)/\w.cell? (aq x 2)=some (iv S.C.queue)/\w.cell? (aq x 9)=some (iv last)/\w.cell? (aq x 8)=some (iv S.now)/\w.cell? (aq x 5)=some (iv S.C.keep)/\w.cell? (aq x 6)=some (iv S.C.tokens)/\w.cell? (aq x 19)=some (iv (ja4 S.os 13 0))/\w.cell? (aq x 20)=some (iv (ja4 S.os 14 0)):=by
 obtain ⟨V,⟨g,hm⟩,hr,_⟩:=h
 have e1:=hm.cell 1 (iv V.C.cap) rfl
 have e2:=hm.cell 2 (iv V.C.queue) rfl
 have e9:=hm.cell 9 (iv V.last) rfl
 have e8:=hm.cell 8 (iv V.now) rfl
 have e5:=hm.cell 5 (iv V.C.keep) rfl
 have e6:=hm.cell 6 (iv V.C.tokens) rfl
 have e19:=hm.cell 19 (iv V.held) rfl
 have e20:=hm.cell 20 (iv V.sold) rfl
 rw [hr.C] at e1 e2 e5 e6
 rw [hr.last] at e9
 rw [hr.now] at e8
 rw [hr.held] at e19
 rw [hr.sold] at e20
 exact ⟨e1,e2,e9,e8,e5,e6,e19,e20⟩
theorem qgt (h:psx an x S S.os.length w own) (hK:saleK S) (hq:((ja5 S.os).length:Int)<=S.C.queue) (r:Req) (hc:r.cust≠0) (hu:1<=r.units/\r.units<=4294967296) :
 Calls Tryz.prog 132 #[pt x 0,r.val] w fun e w'=>e=.returned (S.ask r).1.val/\jap (psx an x (S.ask r).2 (S.ask r).2.os.length) w w' own:=by
 have K:=jbb an x S S.os.length
 have hw:=K.lt h
 obtain ⟨x1,x2,x9,_⟩:=jf5 h
 have b13:=jhi hK.I (st:=13) (c:=r.cust) (.inr (.inl rfl)) (.inl hc)
 have b14:=jhi hK.I (st:=14) (c:=r.cust) (.inr (.inr rfl)) (.inl hc)
 have b12:=jhi hK.I (st:=12) (c:=r.cust) (.inl rfl) (.inl hc)
 have l13:=jeh hK.I 13 r.cust
 have l14:=jeh hK.I 14 r.cust
 have l12:=jeh hK.I 12 r.cust
 have hqn:((ja5 S.os).length:Int)=0↔ja5 S.os=[]:=by
  rw [← List.length_eq_zero_iff];omega
 have H:=qcb x own (psx an x S S.os.length) (psx an x (S.more ⟨r.cust,r.units,13,S.price,S.now+S.C.lease,0⟩) (S.os.length+1)) (psx an x (S.more ⟨r.cust,r.units,12,0,S.now+S.C.wait,0⟩) (S.os.length+1)) K (jbb _ _ _ _) (jbb _ _ _ _)
  (fun v W=>v=(S.ask r).1.val/\jap (psx an x (S.ask r).2 (S.ask r).2.os.length) w W own)
  r.kind r.token r.cust r.units r.order (ja4 S.os 13 r.cust) (ja4 S.os 14 r.cust) (ja4 S.os 12 r.cust) (ja5 S.os).length S.left S.free S.C.cap S.os.length S.C.queue 2 ((S.os.length:Int)+1) S.price (S.now+S.C.lease) 3 ((S.os.length:Int)+1) 0 (S.now+S.C.wait) w
  (jab (by omega) (by omega)) (jab (by omega) (by omega)) (jab (by omega) (by omega)) hw h x1 x2 x9
  (S.C.cap<ja4 S.os 13 r.cust+ja4 S.os 14 r.cust+ja4 S.os 12 r.cust+r.units) (S.left<r.units) (4294967296<=S.os.length) (ja5 S.os=[]/\r.units<=S.free) (((ja5 S.os).length:Int)=S.C.queue)
  Iff.rfl Iff.rfl (show _↔_ by omega) (show _↔_ by rw [hqn]) (show _↔_ by omega)
  (fun W hW=>jq1 (jbf h hW) r.cust hc) (fun W hW=>qag (jbf h hW)) (fun W hW=>qd9 (jbf h hW) hK) (fun W hW=>qaa (jbf h hW) hK)
  (fun c1 W hW=>by
    have e:S.ask r=(⟨4,0,0,0⟩,S):=by unfold Sal.ask;rw [if_pos c1]
    rw [e];exact ⟨rfl,jbi K h hW⟩)
  (fun c1 c2 W hW=>by
    have e:S.ask r=(⟨5,0,0,0⟩,S):=by unfold Sal.ask;rw [if_neg c1,if_pos c2]
    rw [e];exact ⟨rfl,jbi K h hW⟩)
  (fun c1 c2 c3 W hW=>by
    have e:S.ask r=(⟨6,0,0,0⟩,S):=by unfold Sal.ask;rw [if_neg c1,if_neg c2,if_pos c3]
    rw [e];exact ⟨rfl,jbi K h hW⟩)
  (fun c1 c2 c3 c4=>⟨fun loc W hW=>ja6 hw (fun W o hp=>qf2 hp hK r hc hu) W hW,fun W ha=>by
    obtain ⟨e1,e2⟩:=jcw S r.cust r.units
    rw [e2] at e1
    have e:S.ask r=(⟨2,(S.os.length:Int)+1,S.price,S.now+S.C.lease⟩,S.more ⟨r.cust,r.units,13,S.price,S.now+S.C.lease,0⟩):=by
     unfold Sal.ask
     rw [if_neg c1,if_neg c2,if_neg c3,if_pos c4,e1]
     congr 2
     show ((S.os++[_]).getD S.os.length ja3).cents=_
     rw [jaw (by omega),if_pos rfl]
    rw [e]
    refine ⟨rfl,?_⟩
    rw [show (S.more ⟨r.cust,r.units,13,S.price,S.now+S.C.lease,0⟩).os.length=S.os.length+1 by simp [Sal.more]]
    exact ha⟩)
  (fun c1 c2 c3 c4 c5 W hW=>by
    have e:S.ask r=(⟨6,0,0,0⟩,S):=by unfold Sal.ask;rw [if_neg c1,if_neg c2,if_neg c3,if_neg c4,if_pos c5]
    rw [e];exact ⟨rfl,jbi K h hW⟩)
  (fun c1 c2 c3 c4 c5=>⟨fun loc W hW=>ja6 hw (fun W o hp=>jzu hp hK r hc hu) W hW,fun W ha=>by
    have e:S.ask r=(⟨3,(S.os.length:Int)+1,0,S.now+S.C.wait⟩,S.more ⟨r.cust,r.units,12,0,S.now+S.C.wait,0⟩):=by unfold Sal.ask;rw [if_neg c1,if_neg c2,if_neg c3,if_neg c4,if_neg c5]
    rw [e]
    refine ⟨rfl,?_⟩
    rw [show (S.more ⟨r.cust,r.units,12,0,S.now+S.C.wait,0⟩).os.length=S.os.length+1 by simp [Sal.more]]
    exact ha⟩)
 refine H.mono ?_
 rintro e w' ⟨v,rfl,rfl,ha⟩
 exact ⟨rfl,ha⟩
theorem jss (S:Sal) (r:Req):(S.confirm r).2.os.length=S.os.length:=by
 unfold Sal.confirm
 split
 ·rfl
 ·split
  ·rfl
  ·show (Sal.promote _).os.length=_
   rw [je5,jk7,jd6]
theorem jvw (S:Sal) (r:Req):(S.cancel r).2.os.length=S.os.length:=by
 unfold Sal.cancel
 split
 ·rfl
 ·split
  ·rfl
  ·show (Sal.promote _).os.length=_
   rw [je5,jd6]
theorem qgv (h:psx an x S S.os.length w own) (hK:saleK S) (hq:((ja5 S.os).length:Int)<=S.C.queue) (r:Req) (h1:r.kind=1->r.cust≠0/\1<=r.units/\r.units<=4294967296) (h2:r.kind≠1->1<=r.order) :
 Calls Tryz.prog 101 #[pt x 0,r.val] w fun e w'=>e=.returned (S.doS r).1.val/\jap (psx an x (S.doS r).2 (S.doS r).2.os.length) w w' own:=by
 have K:=jbb an x S S.os.length
 have hw:=K.lt h
 obtain ⟨k,t,c,u,o⟩:=r
 by_cases e1:k=1
 ·subst e1
  have e:S.doS ⟨1,t,c,u,o⟩=S.ask ⟨1,t,c,u,o⟩:=by unfold Sal.doS;rw [if_pos rfl]
  rw [e]
  obtain ⟨q1,q2⟩:=h1 rfl
  exact qgg x own (psx an x S S.os.length) _ K (jbb _ _ _ _) t c u o _ _ _ _ w hw h (fun loc W hW=>ja6 hw (fun W o hp=>qgt hp hK hq _ q1 q2) W hW)
 ·have h2':=h2 e1
  by_cases e2:k=2
  ·subst e2
   have e:S.doS ⟨2,t,c,u,o⟩=S.confirm ⟨2,t,c,u,o⟩:=by unfold Sal.doS;rw [if_neg (show ¬ (2:Int)=1 by decide),if_pos rfl]
   rw [e,jss]
   exact jwb x own (psx an x S S.os.length) _ K (jbb _ _ _ _) t c u o _ _ _ _ w hw h (fun loc W hW=>ja6 hw (fun W o hp=>jxt hp hK _ h2') W hW)
  ·have e:S.doS ⟨k,t,c,u,o⟩=S.cancel ⟨k,t,c,u,o⟩:=by unfold Sal.doS;rw [if_neg e1,if_neg e2]
   rw [e,jvw]
   exact jxc x own (psx an x S S.os.length) _ K (jbb _ _ _ _) k t c u o _ _ _ _ w (by simpa using e1) (by simpa using e2) hw h (fun loc W hW=>ja6 hw (fun W o hp=>qcf hp hK _ h2') W hW)
end
end
end Go.Proofs.YtfhncfghblkgeaaGreat
