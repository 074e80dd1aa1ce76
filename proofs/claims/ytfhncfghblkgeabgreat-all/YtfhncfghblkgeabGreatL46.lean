import Derived.Test.YtfhncfghblkgeabGreatL44
import Derived.Test.YtfhncfghblkgeabGreatL45
set_option maxRecDepth 100000
set_option maxHeartbeats 2000000
namespace Go.Proofs.YtfhncfghblkgeabGreat
open Go.RowKit
theorem Tryz.infoPAnswer:(Tryz.prog.info? 146).map (fun i=>(i.zero,i.size,i.bytes))=some (some (.agg #[iv 0,iv 0,iv 0,iv 0,iv 0,iv 0,iv 0,iv 0,iv 0]),9,72):=by kernel_rfl
def Zg (w w':World) (B x p:Nat) (C:Array Value) (T:TypeId) (t:Tr) (s num:Int) (v:Value) (n:Nat) (E L:List Value):Prop :=
 ∃ (t':Tr) (g cap:Nat),w'.heap[x]?=some (.cells (((C.setIfInBounds (p+1) (iv (s+1))).setIfInBounds p (.pointer t'.addr)).setIfInBounds (p+2) (.slice (some (aq g 0)) (n+1) cap)) T (0,0))/\t'.at w'/\t'.toL=zD (num,0) n t.toL/\w'.ownsRow B 146 9 (.slice (some (aq g 0)) (n+1) cap) (n+1) (E++L)/\Same (fun b=>b=x\/v.ownBlock=some b) w w'/\(∀ k,t'.has k->t.has k\/w.heap.size<=k)/\(v.ownBlock=some g\/w.heap.size<=g)
def dY (w w':World) (B x p:Nat) (C:Array Value) (T:TypeId) (t:Tr) (s num:Int) (v:Value) (n:Nat) (E L:List Value) (rm:Int):Prop :=
 ∃ (t':Tr) (g cap:Nat),w'.heap[x]?=some (.cells ((((C.setIfInBounds (p+1) (iv (s+1))).setIfInBounds p (.pointer t'.addr)).setIfInBounds (p+2) (.slice (some (aq g 0)) (n+1) cap)).setIfInBounds (p+3) (iv rm)) T (0,0))/\t'.at w'/\t'.toL=zD (num,0) n t.toL/\w'.ownsRow B 146 9 (.slice (some (aq g 0)) (n+1) cap) (n+1) (E++L)/\Same (fun b=>b=x\/v.ownBlock=some b) w w'/\(∀ k,t'.has k->t.has k\/w.heap.size<=k)/\(v.ownBlock=some g\/w.heap.size<=g)
theorem Mw {w w':World} {B x p n:Nat} {C:Array Value} {T:TypeId} (hT:T≠178) (hT2:T≠146) {t:Tr} {s num:Int} {v:Value} {E L:List Value} {rm rm':Int} (h2:C[p+2]?=some v) (h3:C[p+3]?=some (iv rm)) (hA:Zg w w' B x p C T t s num v n E L) :
 ∃ gg cp:Nat,w'.cell? (aq x (p+2))=some (.slice (some (aq gg 0)) (n+1) cp)/\w'.cell? (aq x (p+3))=some (iv rm)/\w'.frozen? (aq x (p+3))=false/\x<w'.heap.size/\(rm'=rm->dY w w' B x p C T t s num v n E L rm')/\dY w (w'.sc x (p+3) (iv rm')) B x p C T t s num v n E L rm':=by
 obtain ⟨t',g,cap,a1,a2,a3,a4,a5,a6,a7⟩:=hA
 have z2:p+2<C.size:=(blt h2)
 have e2:((((C.setIfInBounds (p+1) (iv (s+1))).setIfInBounds p (.pointer t'.addr)).setIfInBounds (p+2) (.slice (some (aq g 0)) (n+1) cap)))[p+2]?=some (.slice (some (aq g 0)) (n+1) cap):=by
  rw [vE,uQ rfl,uQ (by simpa using z2)]
 have e3:((((C.setIfInBounds (p+1) (iv (s+1))).setIfInBounds p (.pointer t'.addr)).setIfInBounds (p+2) (.slice (some (aq g 0)) (n+1) cap)))[p+3]?=some (iv rm):=by
  rw [vE,uP uO,vE,uP uO,vE,uP uO];exact h3
 refine ⟨g,cap,by rw [uI a1];exact e2,by rw [uI a1];exact e3,qA a1 _,(blt a1),fun e=>⟨t',g,cap,?_,a2,a3,a4,a5,a6,a7⟩,⟨t',g,cap,uH a1 _,t'.at_set a2 a1 hT,a3,?_,jI a5 x _ _ (.inl rfl),a6,a7⟩⟩
 ·rw [e,gM e3];exact a1
 ·exact qG a4 (fun k hk=>uG _ (aq x (p+3)) _ _ (fun e=>qP a4 a1 (fun e=>hT2 e.symm) (by rw [hk,show k=x from e])))
theorem sB {w w':World} {B x p n:Nat} {C:Array Value} {T:TypeId} {t:Tr} {s num:Int} {v:Value} {E L:List Value} {rm:Int} (h:dY w w' B x p C T t s num v n E L rm):dY w w'.drew B x p C T t s num v n E L rm:=by
 obtain ⟨t',g,cap,a1,a2,a3,a4,a5,a6,a7⟩:=h
 exact ⟨t',g,cap,a1,t'.at_keep a2 (fun _ _=>rfl),a3,a4.drew,rX a5,a6,a7⟩
theorem Ez {w W w4 w5:World} {B x p n g cap:Nat} {C:Array Value} {T:TypeId} (hT:T≠178) (hT2:T≠146) {t:Tr} {s num:Int} {v:Value} {E L:List Value} {O:Obj} (hW:Below w.heap.size w W) (hA:zC W w4 x p C T (s+1) t (zD (num,0) n t.toL)) (hvn:∀ k,v.ownBlock=some k->∃ Co,w4.heap[k]?=some (.cells Co 146))
 (hown:w5.ownsRow B 146 9 (.slice (some (aq g 0)) (n+1) cap) (n+1) (E++L)) (hg:(w4.alloc O).grownBy w5 v.ownBlock) (hat:v.ownBlock=some g\/g=w4.heap.size+1) :
 Zg w (w5.sc x (p+2) (.slice (some (aq g 0)) (n+1) cap)) B x p C T t s num v n E L:=by
 obtain ⟨t',a1,a2,a3,a4,a5⟩:=hA
 have zW:=hW.size
 have z4:=a4.size
 have hx4:x<w4.heap.size:=(blt a1)
 have k1:∀ k,k<w4.heap.size->v.ownBlock≠some k->w5.heap[k]?=w4.heap[k]?:=fun k hk hn=>(hg.block k uT (fun e=>hn e.symm)).trans (uE w4 O k hk)
 have z5:w4.heap.size+1<=w5.heap.size:=by have:=hg.size;simpa using this
 have hvx:v.ownBlock≠some x:=fun e=>by
  obtain ⟨Co,hC⟩:=hvn x e
  rw [a1] at hC
  simp only [Option.some.injEq,Obj.cells.injEq] at hC
  exact hT2 hC.2.1
 have hx5:=(k1 x hx4 hvx).trans a1
 have ks:∀ k,k≠x->(w5.sc x (p+2) (.slice (some (aq g 0)) (n+1) cap)).heap[k]?=w5.heap[k]?:=fun k hk=>uG _ (aq x (p+2)) _ _ hk
 have hgx:g≠x:=by
  rintro rfl
  rcases hat with e|e
  ·exact hvx e
  ·omega
 refine ⟨t',g,cap,uH hx5 _,t'.at_keep a2 (fun k hk=>?_),a3,qG hown (fun k hk=>ks k (fun e=>hgx (by simp [Value.ownBlock] at hk;exact hk.trans e))),⟨hg.os.trans (a4.os.trans hW.os),hg.tape.trans (a4.tape.trans hW.tape),hg.output.trans (a4.output.trans hW.output),by simp [World.setCell];omega,fun k hk hn=>?_⟩,fun k hk=>(a5 k hk).imp id (fun e=>uO),hat.imp id (fun e=>uO)⟩
 ·have hk4:=t'.at_lt a2 hk
  obtain ⟨C',hC⟩:=t'.at_type a2 hk
  have hkx:k≠x:=fun e=>by
   rw [e,a1] at hC
   simp only [Option.some.injEq,Obj.cells.injEq] at hC
   exact hT hC.2.1
  refine (ks k hkx).trans (k1 k hk4 (fun e=>?_))
  obtain ⟨Co,hCo⟩:=hvn k e
  rw [hCo] at hC
  simp only [Option.some.injEq,Obj.cells.injEq] at hC
  exact absurd hC.2.1 vO
 ·rw [ks k (fun e=>hn (.inl e)),k1 k uO (fun e=>hn (.inr e)),a4.block k uO (fun e=>hn (.inl e))]
  exact hW.block k hk
theorem YL {W:World} {x:Nat} {own:Nat->Prop} {V:PV} (id at':Int) (h:QE W x own V) (hz:V.atl.length<=4294967296) :
 Ca 79 #[pt V.aw 0,iv id,iv at'] W fun e w'=>e=.returned (iv (Xk V.an V.atl id at'))/\yN W w' x own { V with atl:=vI V.an V.atl id at' }:=by
 obtain ⟨g,h⟩:=h
 refine (timersW.set id at' h.aw uO).mono ?_
 rintro e w' ⟨rfl,ha⟩
 exact ⟨rfl,h.turnA ha⟩
def PV.aadd (V:PV) (a:PAns) (up:Int):PV:={ V with atl:=vI V.an V.atl a.t up,att:=zD (a.t,0) V.al.length V.att,al:=V.al++[a],arm:=if V.arm<(V.al.length:Int)+1 then (V.al.length:Int)+1 else V.arm }
theorem wO (l:List PAns):(xZ l).length=l.length * 9:=by
 induction l with
 | nil=>rfl
 | cons o l ih=>simp only [xZ,List.flatMap_cons,List.length_append] at ih ⊢;rw [ih];simp [PAns.vals];omega
theorem In {W w':World} {x:Nat} {own:Nat->Prop} {V:PV} {g:PG} (h:PMem W x own V g) (a:PAns) (hn:yO (a.t,0) V.att=none) {rm:Int} (hA:dY W w' 0 x 24 (yS V g) 105 g.att V.att.length a.t (.slice g.ao V.al.length g.ac) V.al.length (xZ V.al) a.vals rm) :
 yN W w' x own { V with att:=zD (a.t,0) V.al.length V.att,al:=V.al++[a],arm:=rm }:=by
 obtain ⟨t',b,cap,a1,a2,a3,a4,a5,a6,a7⟩:=hA
 rw [h.att.2] at a3
 have e1:(V.att.length:Int)+1=((zD (a.t,0) V.al.length V.att).length:Int):=by rw [eB hn];omega
 have e2:(V.al++[a]).length=V.al.length+1:=by simp
 rw [e1] at a1
 have hs':Same (g.xs V x) W w':=jO a5 (fun k e=>e.elim .inl (fun e=>.inr (.inr e)))
 refine h.turn hs' (V':={ V with att:=zD (a.t,0) V.al.length V.att,al:=V.al++[a],arm:=rm }) (g':={ g with att:=t',ao:=some (aq b 0),ac:=cap }) ?_ rfl ⟨rfl,rfl,rfl⟩ ⟨rfl,rfl,rfl,rfl⟩ ⟨rfl,rfl,rfl,rfl⟩ ⟨h.stay hs' h.ot.1,h.ot.2,fun _ e=>.inl e⟩ ⟨h.stay hs' h.qt.1,h.qt.2,fun _ e=>.inl e⟩ ⟨h.stay hs' h.qz.1,h.qz.2,fun _ e=>.inl e⟩ ⟨h.stay hs' h.lu.1,h.lu.2,fun _ e=>.inl e⟩ ⟨a2,a3,a6⟩ ?_ ?_
 ·rw [a1]
  unfold yS
  simp only [e2]
  rfl
 ·refine ⟨qG h.orow (fun k e=>a5.block k (uJ h.orow k e).2 (fun c=>?_)),fun k e=>.inl e⟩
  rcases c with c|c
  ·exact qP h.orow h.blk vO (by rw [e,show k=x from c])
  ·obtain ⟨Co,hCo⟩:=lX h.arow c
   exact qP h.orow hCo vO e
 ·show w'.ownsRow 0 146 9 (.slice (some (aq b 0)) (V.al++[a]).length cap) (V.al++[a]).length (xZ (V.al++[a]))/\∀ k,Value.ownBlock (.slice (some (aq b 0)) (V.al++[a]).length cap)=some k->_
  rw [e2]
  refine ⟨?_,fun k e=>?_⟩
  ·have e3:xZ (V.al++[a])=xZ V.al++a.vals:=by simp [xZ]
   rw [e3]
   exact a4
  ·have e4:b=k:=by simpa [Value.ownBlock] using e
   rw [← e4]
   exact a7
theorem YG (a:PAns) (up:Int) (w:World) (x:Nat) (own:Nat->Prop) (V:PV) (h:QE w x own V) (hs:srt V.att) (hn:yO (a.t,0) V.att=none) (hz:V.al.length<=4294967296) (hzt:V.att.length<=4294967296) (hz2:V.atl.length<=4294967296) :
 Ca 69 #[pt x 23,a.val,iv up] w fun e w'=>e=.returned (.tuple #[])/\yN w w' x own (V.aadd a up):=by
 have hw:=fF h
 have hxo:own x:=by obtain ⟨g,h⟩:=h;exact h.ownx
 have HS:Hid (dC w own 1 x V { V with atl:=vI V.an V.atl a.t up } 79 #[pt V.aw 0,iv a.t,iv up] (iv (Xk V.an V.atl a.t up))):=yG hw (fun W own' hp=>YL a.t up hp hz2)
 have c23:w.cell? (aq x 23)=some (pt V.aw 0):=by obtain ⟨g,h⟩:=h;exact h.cell 23 _ rfl
 have hxw:x<w.heap.size:=hw x hxo
 have HT0:Hid (aS w own 1 (w.alloc (.cells #[iv a.k,iv a.t,iv a.c,iv a.u,iv a.o,iv a.rk,iv a.ro,iv a.rc,iv a.ru] 146)) x V):=mO h ((uM _ _).alloc (uA _) _) vS
 have ob0:Hid ((w.alloc (.cells #[iv a.k,iv a.t,iv a.c,iv a.u,iv a.o,iv a.rk,iv a.ro,iv a.rc,iv a.ru] 146)).heap[w.heap.size]?=some (.cells #[iv a.k,iv a.t,iv a.c,iv a.u,iv a.o,iv a.rk,iv a.ro,iv a.rc,iv a.ru] 146)):=uF w _
 have HC:Hid (∀ W,aS w own 1 W x { V with atl:=vI V.an V.atl a.t up }->W.cell? (aq x 23)=some (pt V.aw 0)):=fun W hT=>by
  obtain ⟨o1,⟨g,a1⟩,_⟩:=hT
  exact a1.cell 23 _ rfl
 have c23':=(((uM w.heap.size w).alloc (uA _) (.cells #[iv a.k,iv a.t,iv a.c,iv a.u,iv a.o,iv a.rk,iv a.ro,iv a.rc,iv a.ru] 146)).cell (p:=(aq x 23)) hxw).trans c23
 replace hw:Hid _:=hw
 unfold PAns.val
 obtain ⟨i0,j0,j1,j2,j3⟩:=info_parts Tryz.infoPAnswer
 clear h c23
 go_enter Tryz.func69,Tryz.ntmps69
 go_wp2_with fail
 generalize w.alloc (.cells #[iv a.k,iv a.t,iv a.c,iv a.u,iv a.o,iv a.rk,iv a.ro,iv a.rc,iv a.ru] 146)=W0 at HT0 ob0 c23' ⊢
 have lw0:w.heap.size<W0.heap.size:=(blt ob0.out)
 have hx0:x<W0.heap.size:=uO
 obtain ⟨s0,s1,s2,s3,s4,s5,s6,s7,s8⟩:=zI ob0.out
 go_region_held3 (fun w'=>w'.cell? (aq x 23)=some (pt V.aw 0)/\w'.cell? (aq w.heap.size 1)=some (iv a.t)) (simp [go_sem, *])
  (first
    | (go_at_call 79;refine (HS.out _ (yB HT0.out bL)).mono ?_;rintro e W1 ⟨rfl,hT1,hk⟩
       have ob1:Hid (W1.heap[w.heap.size]?=some (.cells #[iv a.k,iv a.t,iv a.c,iv a.u,iv a.o,iv a.rk,iv a.ro,iv a.rc,iv a.ru] 146)):=(hk _ (uA _) uO).trans ob0.out
       obtain ⟨r0,r1,r2,r3,r4,r5,r6,r7,r8⟩:=zI ob1.out
       have k23:=HC.out W1 hT1
       have lw1:w.heap.size<W1.heap.size:=(blt ob1.out)
       have hx1:x<W1.heap.size:=uO
       replace hT1:Hid _:=hT1
       clear hk))
 clear s0 s1 s2 s3 s4 s5 s6 s7 s8 c23' HS HC HT0 ob0 lw0 hx0 k23
 obtain ⟨o1,⟨g,hm⟩,a2,a3,a4⟩:=hT1.out
 have hAx:w.heap.size≠x:=uO
 have HFIN:Hid (∀ w',dY W1 w' 0 x 24 (yS { V with atl:=vI V.an V.atl a.t up } g) 105 g.att V.att.length a.t (.slice g.ao V.al.length g.ac) V.al.length (xZ V.al) a.vals (if V.arm<(V.al.length:Int)+1 then (V.al.length:Int)+1 else V.arm)->yN w w' x own (V.aadd a up)):=fun w' hA=>cX (Ol a2 a3 a4 hw.out (In hm a hn hA)).1
 have hx:W1.heap[x]?=some (.cells (yS { V with atl:=vI V.an V.atl a.t up } g) 105 (0,0)):=hm.blk
 have h0:(yS { V with atl:=vI V.an V.atl a.t up } g)[24]?=some (.pointer g.att.addr):=rfl
 have h1:(yS { V with atl:=vI V.an V.atl a.t up } g)[24+1]?=some (iv V.att.length):=rfl
 have h2:(yS { V with atl:=vI V.an V.atl a.t up } g)[24+2]?=some (.slice g.ao V.al.length g.ac):=rfl
 have h3:(yS { V with atl:=vI V.an V.atl a.t up } g)[24+3]?=some (iv V.arm):=rfl
 have ht:=hm.att.1
 have hO:W1.ownsRow 0 146 9 (.slice g.ao V.al.length g.ac) V.al.length (xZ V.al):=hm.arow
 have hst:srt g.att.toL:=by rw [show g.att.toL=V.att from hm.att.2];exact hs
 have hnt:yO (a.t,0) g.att.toL=none:=by rw [show g.att.toL=V.att from hm.att.2];exact hn
 unfold PAns.vals at HFIN
 clear hT1 hm a2 a3 a4 hn hs hz2
 generalize yS { V with atl:=vI V.an V.atl a.t up } g=C at hx h0 h1 h2 h3 HFIN
 generalize hE:xZ V.al=E at hO HFIN
 clear hE
 have hsz:(0:Int)<=(V.att.length:Int)/\(V.att.length:Int)<9223372036854775807:=⟨uO,uO⟩
 have hl:V.al.length * 72+72<=140737488351232:=uO
 generalize (V.att.length:Int)=s at h1 hsz HFIN
 generalize V.al.length=n at h2 hO hl HFIN
 have HRM:Hid (∃ rm',rm'=if V.arm<(n:Int)+1 then (n:Int)+1 else V.arm):=⟨_,rfl⟩
 obtain ⟨rm',hrm⟩:=HRM.out
 rw [← hrm] at HFIN
 generalize V.arm=rm at h3 hrm
 generalize g.ao=oo at h2 hO HFIN
 generalize g.ac=oc at h2 hO HFIN
 generalize g.att=t at h0 ht hst hnt HFIN
 clear hz hzt
 have hT:105≠178:=by decide
 have hT2:105≠146:=by decide
 have HP:Hid (∀ W,Below W1.heap.size W1 W->Ca 99 #[pt x 24,.agg #[iv a.t,iv 0],iv n] W fun e w'=>e=.returned (.tuple #[])/\zC W w' x 24 C 105 (s+1) t (zD (a.t,0) n t.toL)):=fun W hW=>nO x 24 C 105 hT t s a.t 0 n W ((hW.block x hx1).trans hx) h0 h1 (t.at_below ht hW) hst hnt hsz
 have kl:W1.cell? (aq x 26)=some (.slice oo n oc):=by rw [uI hx];exact h2
 have hvx:Value.ownBlock (.slice oo n oc)≠some x:=qP hO hx (fun e=>hT2 e.symm)
 have HROOM:Hid (∀ W6,Zg W1 W6 0 x 24 C 105 t s a.t (.slice oo n oc) n E [iv a.k,iv a.t,iv a.c,iv a.u,iv a.o,iv a.rk,iv a.ro,iv a.rc,iv a.ru]->∃ gg cp:Nat,W6.cell? (aq x 26)=some (.slice (some (aq gg 0)) (n+1) cp)/\W6.cell? (aq x 27)=some (iv rm)/\W6.frozen? (aq x 27)=false/\x<W6.heap.size/\(rm'=rm->dY W1 W6 0 x 24 C 105 t s a.t (.slice oo n oc) n E [iv a.k,iv a.t,iv a.c,iv a.u,iv a.o,iv a.rk,iv a.ro,iv a.rc,iv a.ru] rm')/\dY W1 (W6.setCell (aq x 27) (iv rm')) 0 x 24 C 105 t s a.t (.slice oo n oc) n E [iv a.k,iv a.t,iv a.c,iv a.u,iv a.o,iv a.rk,iv a.ro,iv a.rc,iv a.ru] rm'):=fun W6 hA=>Mw hT hT2 h2 h3 hA
 have HAPP:Hid (∀ W w4,Below W1.heap.size W1 W->zC W w4 x 24 C 105 (s+1) t (zD (a.t,0) n t.toL)->w4.ownsRow 0 146 9 (.slice oo n oc) n E/\w4.cell? (aq x 26)=some (.slice oo n oc)/\w4.frozen? (aq x 26)=false/\x<w4.heap.size/\(∀ w5 O,(w4.alloc O).drew.grownBy w5 (Value.ownBlock (.slice oo n oc))->w5.cell? (aq x 26)=some (.slice oo n oc)/\w5.frozen? (aq x 26)=false)/\∀ w5 g cp O,w5.ownsRow 0 146 9 (.slice (some (aq g 0)) (n+1) cp) (n+1) (E++[iv a.k,iv a.t,iv a.c,iv a.u,iv a.o,iv a.rk,iv a.ro,iv a.rc,iv a.ru])->(w4.alloc O).grownBy w5 (Value.ownBlock (.slice oo n oc))->(Value.ownBlock (.slice oo n oc)=some g\/g=w4.heap.size+1)->Zg W1 (w5.setCell (aq x 26) (.slice (some (aq g 0)) (n+1) cp)) 0 x 24 C 105 t s a.t (.slice oo n oc) n E [iv a.k,iv a.t,iv a.c,iv a.u,iv a.o,iv a.rk,iv a.ro,iv a.rc,iv a.ru]):=fun W w4 hW hA=>by
  have hA0:=hA
  obtain ⟨t',a1,a2,a3,a4,a5⟩:=hA
  have zW:=hW.size
  have z4:=a4.size
  have hOW:=qH hO hW (uA _)
  have hO4:w4.ownsRow 0 146 9 (.slice oo n oc) n E:=qG hOW (fun k hk=>a4.block k (uJ hOW k hk).2 (fun e=>hvx (by rw [hk];exact congrArg some e)))
  have e2:((C.setIfInBounds (24+1) (iv (s+1))).setIfInBounds 24 (.pointer t'.addr))[24+2]?=some (.slice oo n oc):=by
   rw [vE,uP uO,vE,uP uO];exact h2
  have hx4:x<w4.heap.size:=(blt a1)
  refine ⟨hO4,by rw [uI a1];exact e2,qA a1 _,hx4,fun w5 O hg=>?_,fun w5 g cp O q1 q2 q3=>Ez hT hT2 hW hA0 (fun k hk=>?_) q1 q2 q3⟩
  ·have hx5:w5.heap[x]?=_:=(hg.block x uT (fun e=>hvx e.symm)).trans ((uE w4 O x hx4).trans a1)
   exact ⟨by rw [uI hx5];exact e2,qA hx5 _⟩
  ·rcases hO4.2 with ⟨hh,_⟩|⟨g',cp',cur,hh,_,hgg,_⟩
   ·rw [hh] at hk;simp [Value.ownBlock] at hk
   ·rw [hh] at hk
    have e:g'=k:=by simpa [Value.ownBlock] using hk
    rw [← e]
    exact ⟨_,hgg⟩
 clear hx h0 h1 h2 h3 ht hst hnt hsz hO hvx
 replace ob1:Hid _:=ob1
 go_wp2_with fail
 go_region_held3 (fun w'=>w'.cell? (aq w.heap.size 1)=some (iv a.t)/\w'.cell? (aq x 26)=some (.slice oo n oc)) (simp [go_sem, *])
  (first
    | (go_at_call 99;refine (HP.out _ bL).mono ?_;rintro e w4 ⟨rfl,hq⟩
       obtain ⟨m1,m3,m4,m5,m6,m7⟩:=HAPP.out _ w4 bL hq
       have hsm:=hq.choose_spec.2.2.2.1
       have ob4:Hid (w4.heap[w.heap.size]?=some (.cells #[iv a.k,iv a.t,iv a.c,iv a.u,iv a.o,iv a.rk,iv a.ro,iv a.rc,iv a.ru] 146)):=(hsm.block w.heap.size lw1 hAx).trans ob1.out
       obtain ⟨q0,q1,q2,q3,q4,q5,q6,q7,q8⟩:=zI ob4.out
       replace m1:Hid (w4.ownsRow 0 146 9 (.slice oo n oc) n E):=m1
       replace m6:Hid _:=m6
       replace m7:Hid _:=m7
       clear hsm hq))
 have hz4:w.heap.size<w4.heap.size:=(blt ob4.out)
 have hnb:Hid ((w4.alloc (.cells #[iv a.k,iv a.t,iv a.c,iv a.u,iv a.o,iv a.rk,iv a.ro,iv a.rc,iv a.ru] 146)).heap[w4.heap.size]?=some (.cells #[iv a.k,iv a.t,iv a.c,iv a.u,iv a.o,iv a.rk,iv a.ro,iv a.rc,iv a.ru] 146)):=uF _ _
 clear r0 r1 r2 r3 r4 r5 r6 r7 r8 HP HAPP kl
 go_wp2_with fail
 go_region_law ((refine step_append_lies _ (by rfl) _ _ _ (by rfl) 0 146 i0 (.agg #[iv 0,iv 0,iv 0,iv 0,iv 0,iv 0,iv 0,iv 0,iv 0]) 9 72 Tryz.underlying93 j0 j1 j2 j3 rfl uO (.slice oo n oc) n E (by rfl) ((show w4.ownsRow 0 146 9 (.slice oo n oc) n E from m1.out).alloc _).drew (aq w4.heap.size 0) 1 1 [iv a.k,iv a.t,iv a.c,iv a.u,iv a.o,iv a.rk,iv a.ro,iv a.rc,iv a.ru] (by rfl) (by rfl) (World.news_of_block (cs:=#[iv a.k,iv a.t,iv a.c,iv a.u,iv a.o,iv a.rk,iv a.ro,iv a.rc,iv a.ru]) (t:=146) (fr:=(0,0)) hnb.out) (by simp [Value.oneCell']) uO (by unfold maxLen;omega) uO vS (w4.heap.size+1) vS ?_
                 intro gg cp w5 hown3 hgrow hat hlt
                 obtain ⟨g1,gf⟩:=m6.out w5 _ hgrow
                 replace hown3:Hid _:=hown3
                 replace hgrow:Hid _:=hgrow
                 replace hat:Hid _:=hat))
 all_goals
  have hA:=m7.out w5 gg cp _ hown3.out ⟨hgrow.out.os,hgrow.out.tape,hgrow.out.output,hgrow.out.size,hgrow.out.block⟩ hat.out
  obtain ⟨g6,c6,k2,k3,kf,kx,kn,ks⟩:=HROOM.out _ hA
  clear hA g1 gf
  generalize w5.setCell (aq x 26) (.slice (some (aq gg 0)) (n+1) cp)=W6 at k2 k3 kf kx kn ks ⊢
  replace kn:Hid _:=kn
  replace ks:Hid _:=ks
  by_cases hr:rm<(n:Int)+1
  ·have dr:decide (rm<(n:Int)+1)=true:=by simpa using hr
   have er:rm'=(n:Int)+1:=by rw [hrm,uQ hr]
   subst er
   clear hrm
   go_wp2_with fail
   go_region
   all_goals (first|go_end0|(go_wp2;go_end0)|(go_wp2;refine uK (uR rfl _ _ _) rfl ?_))
   all_goals exact ⟨rfl,HFIN.out _ (sB ks.out)⟩
  ·have dr:decide (rm<(n:Int)+1)=false:=by simpa using hr
   have er:rm'=rm:=by rw [hrm,uP hr]
   clear hrm
   go_wp2_with fail
   go_region
   all_goals (first|go_end0|(go_wp2;go_end0)|(go_wp2;refine uK (uR rfl _ _ _) rfl ?_))
   all_goals exact ⟨rfl,HFIN.out _ (sB (kn.out er))⟩
theorem Ce (x:Nat) (ba:Option Addr) (bl bc:Nat) (k t c u o er:Int) (w:World) (he:(er != 0)=true)
 (HU:Hid (∀ W,Below w.heap.size w W->Ca 42 #[.slice ba bl bc] W fun e w'=>e=.returned (.tuple #[.agg #[iv k,iv t,iv c,iv u,iv o],iv er])/\Below W.heap.size W w')) :
 Ca 27 #[pt x 0,.slice ba bl bc] w fun e w'=>e=.returned (.agg #[iv 1,iv 0,iv 0,iv 0])/\Below w.heap.size w w':=by
 go_enter Tryz.func27,Tryz.ntmps27
 have rb0:Hid ((w.alloc (.cells #[iv 0,iv 0,iv 0,iv 0] 33)).heap[w.heap.size]?=some (.cells #[iv 0,iv 0,iv 0,iv 0] 33)):=uF w _
 have hbl:Hid (Below w.heap.size w (w.alloc (.cells #[iv 0,iv 0,iv 0,iv 0] 33))):=(uM _ _).alloc (uA _) _
 go_wp2_with fail
 generalize w.alloc (.cells #[iv 0,iv 0,iv 0,iv 0] 33)=W0 at rb0 hbl ⊢
 refine (HU.out _ hbl.out).mono ?_
 rintro e W1 ⟨rfl,b1⟩
 have lr0:w.heap.size<W0.heap.size:=(blt rb0.out)
 have hb1:Hid (Below w.heap.size w W1):=uL hbl.out (b1.mono hbl.out.size)
 have rb1:Hid _:=(b1.block _ lr0).trans rb0.out
 have lr1:w.heap.size<W1.heap.size:=(blt rb1.out)
 clear b1 lr0 rb0 hbl HU
 obtain ⟨s0,s1,s2,s3⟩:=qC rb1.out
 have f0:=qA rb1.out 0
 have f1:=qA rb1.out 1
 have f2:=qA rb1.out 2
 have f3:=qA rb1.out 3
 go_wp2
 refine uK (v:=.agg #[iv 1,iv 0,iv 0,iv 0]) (by simp [results,Tryz.results27,go_sem,s0,s1,s2,s3,lr1]) rfl ⟨rfl,?_⟩
 exact nU hb1.out (uA _) uO
theorem Nm (x:Nat) (ba:Option Addr) (bl bc:Nat) (t c u o a0 a1 a2 a3:Int) (w:World)
 (HU:Hid (∀ W,Below w.heap.size w W->Ca 42 #[.slice ba bl bc] W fun e w'=>e=.returned (.tuple #[.agg #[iv 4,iv t,iv c,iv u,iv o],iv 0])/\Below W.heap.size W w'))
 (HP:Hid (∀ W,Below w.heap.size w W->Ca 43 #[pt x 0,.agg #[iv 4,iv t,iv c,iv u,iv o]] W fun e w'=>e=.returned (.agg #[iv a0,iv a1,iv a2,iv a3])/\Below W.heap.size W w')) :
 Ca 27 #[pt x 0,.slice ba bl bc] w fun e w'=>e=.returned (.agg #[iv a0,iv a1,iv a2,iv a3])/\Below w.heap.size w w':=by
 go_enter Tryz.func27,Tryz.ntmps27
 have rb0:Hid ((w.alloc (.cells #[iv 0,iv 0,iv 0,iv 0] 33)).heap[w.heap.size]?=some (.cells #[iv 0,iv 0,iv 0,iv 0] 33)):=uF w _
 have hbl:Hid (Below w.heap.size w (w.alloc (.cells #[iv 0,iv 0,iv 0,iv 0] 33))):=(uM _ _).alloc (uA _) _
 go_wp2_with fail
 generalize w.alloc (.cells #[iv 0,iv 0,iv 0,iv 0] 33)=W0 at rb0 hbl ⊢
 refine (HU.out _ hbl.out).mono ?_
 rintro e W1 ⟨rfl,b1⟩
 have lr0:w.heap.size<W0.heap.size:=(blt rb0.out)
 have hb1:Hid (Below w.heap.size w W1):=uL hbl.out (b1.mono hbl.out.size)
 have rb1:Hid _:=(b1.block _ lr0).trans rb0.out
 have lr1:w.heap.size<W1.heap.size:=(blt rb1.out)
 clear b1 lr0 rb0 hbl HU
 go_wp2_with fail
 refine (HP.out _ (hb1.out.alloc uO _)).mono ?_
 rintro e W2 ⟨rfl,b2⟩
 have hb2:Hid (Below w.heap.size w W2):=uL (hb1.out.alloc uO _) (b2.mono uT)
 have rb2:Hid (W2.heap[w.heap.size]?=some (.cells #[iv 0,iv 0,iv 0,iv 0] 33)):=(b2.block _ uT).trans ((uE _ _ _ lr1).trans rb1.out)
 have lr2:w.heap.size<W2.heap.size:=(blt rb2.out)
 clear b2 rb1 hb1 lr1 HP
 obtain ⟨s0,s1,s2,s3⟩:=qC rb2.out
 have f0:=qA rb2.out 0
 have f1:=qA rb2.out 1
 have f2:=qA rb2.out 2
 have f3:=qA rb2.out 3
 go_wp2
 refine uK (v:=.agg #[iv a0,iv a1,iv a2,iv a3]) (by simp [results,Tryz.results27,go_sem,s0,s1,s2,s3]) rfl ⟨rfl,?_⟩
 exact jM hb2.out (uA _)
theorem At (x:Nat) (own:Nat->Prop) (P0 P1:World->(Nat->Prop)->Prop) (K0:Keeps P0) (K1:Keeps P1) (ba:Option Addr) (bl bc:Nat) (k t c u o a0 a1 a2 a3:Int) (w:World) (hk4:(k==4)=false) (hw:∀ k,own k->k<w.heap.size) (h:P0 w own)
 (HU:Hid (∀ W,Below w.heap.size w W->Ca 42 #[.slice ba bl bc] W fun e w'=>e=.returned (.tuple #[.agg #[iv k,iv t,iv c,iv u,iv o],iv 0])/\Below W.heap.size W w'))
 (HA:Hid (jX w own P0 P1 44 #[pt x 0,.agg #[iv k,iv t,iv c,iv u,iv o]] (.agg #[iv a0,iv a1,iv a2,iv a3]))) :
 Ca 27 #[pt x 0,.slice ba bl bc] w fun e w'=>e=.returned (.agg #[iv a0,iv a1,iv a2,iv a3])/\zQ P1 w w' own:=by
 have HST:Hid (∀ W,Below w.heap.size w W->w.heap.size<W.heap.size->qX P0 w own (fun j=>j=w.heap.size) W):=fun W hb hz=>yH K0 h hb (fun j e=>by subst e;omega)
 replace hw:Hid _:=hw
 clear h
 go_enter Tryz.func27,Tryz.ntmps27
 have rb0:Hid ((w.alloc (.cells #[iv 0,iv 0,iv 0,iv 0] 33)).heap[w.heap.size]?=some (.cells #[iv 0,iv 0,iv 0,iv 0] 33)):=uF w _
 have hbl:Hid (Below w.heap.size w (w.alloc (.cells #[iv 0,iv 0,iv 0,iv 0] 33))):=(uM _ _).alloc (uA _) _
 go_wp2_with fail
 generalize w.alloc (.cells #[iv 0,iv 0,iv 0,iv 0] 33)=W0 at rb0 hbl ⊢
 refine (HU.out _ hbl.out).mono ?_
 rintro e W1 ⟨rfl,b1⟩
 have lr0:w.heap.size<W0.heap.size:=(blt rb0.out)
 have hb1:Hid (Below w.heap.size w W1):=uL hbl.out (b1.mono hbl.out.size)
 have rb1:Hid _:=(b1.block _ lr0).trans rb0.out
 have lr1:w.heap.size<W1.heap.size:=(blt rb1.out)
 clear b1 lr0 rb0 hbl HU
 go_wp2_with fail
 refine (HA.out _ _ (HST.out _ (hb1.out.alloc uO _) uT)).mono ?_
 rintro e W2 ⟨rfl,hT2,hk⟩
 have rb2:Hid (W2.heap[w.heap.size]?=some (.cells #[iv 0,iv 0,iv 0,iv 0] 33)):=(hk _ rfl).trans ((uE _ _ _ lr1).trans rb1.out)
 have lr2:w.heap.size<W2.heap.size:=(blt rb2.out)
 have HE:Hid (∀ v0 v1 v2 v3,zQ P1 w ((((W2.sc w.heap.size 0 v0).sc w.heap.size 1 v1).sc w.heap.size 2 v2).sc w.heap.size 3 v3) own):=fun v0 v1 v2 v3=>zE (zX K1 hT2 hw.out rfl v0 v1 v2 v3)
 clear hk hT2 rb1 hb1 lr1 HA
 obtain ⟨s0,s1,s2,s3⟩:=qC rb2.out
 have f0:=qA rb2.out 0
 have f1:=qA rb2.out 1
 have f2:=qA rb2.out 2
 have f3:=qA rb2.out 3
 go_wp2
 refine uK (v:=.agg #[iv a0,iv a1,iv a2,iv a3]) (by simp [results,Tryz.results27,go_sem,s0,s1,s2,s3]) rfl ⟨rfl,?_⟩
 exact HE.out _ _ _ _
theorem Sl (x:Nat) (now:Int) (w:World) (h:w.cell? (aq x 8)=some (iv now)) :
 Ca 23 #[pt x 0] w fun e w'=>e=.returned (iv now)/\Below w.heap.size w w':=by
 go_enter Tryz.func23,Tryz.ntmps23
 go_wp2
 go_ret
 exact ⟨rfl,uM _ _⟩
theorem Gv (x:Nat) (c:Int) (w:World) (hc:yU c=false) :
 Ca 24 #[pt x 0,iv c] w fun e w'=>e=.returned (.tuple #[.agg #[iv 0,iv 0,iv 0],iv 3])/\Below w.heap.size w w':=by
 have HE:Hid (∀ O,Below w.heap.size w (w.alloc O)):=fun O=>(uM _ _).alloc (uA _) _
 by_cases h1:c<1
 ·have d1:decide (c<1)=true:=by simpa using h1
  clear hc
  go_enter Tryz.func24,Tryz.ntmps24
  go_wp2
  refine uK (v:=.tuple #[.agg #[iv 0,iv 0,iv 0],iv 3]) (by simp [results,Tryz.results24,go_sem]) rfl ⟨rfl,?_⟩
  exact HE.out _
 ·have h2:4294967296<c:=by
   simp [yU] at hc
   omega
  have d1:decide (c<1)=false:=by simpa using h1
  have d2:decide (4294967296<c)=true:=by simpa using h2
  clear hc
  go_enter Tryz.func24,Tryz.ntmps24
  go_wp2
  refine uK (v:=.tuple #[.agg #[iv 0,iv 0,iv 0],iv 3]) (by simp [results,Tryz.results24,go_sem]) rfl ⟨rfl,?_⟩
  exact HE.out _
theorem Uc (x:Nat) (c a b d:Int) (w:World) (h1:1<=c) (h2:c<=4294967296)
 (HA:Hid (∀ W,Below w.heap.size w W->Ca 41 #[pt x 19,iv c] W fun e w'=>e=.returned (.agg #[iv a,iv b,iv d])/\Below W.heap.size W w')) :
 Ca 24 #[pt x 0,iv c] w fun e w'=>e=.returned (.tuple #[.agg #[iv a,iv b,iv d],iv 0])/\Below w.heap.size w w':=by
 have j1:¬ c<1:=uO
 have j2:¬ 4294967296<c:=uO
 have d1:decide (c<1)=false:=by simpa using j1
 have d2:decide (4294967296<c)=false:=by simpa using j2
 go_enter Tryz.func24,Tryz.ntmps24
 have rb0:Hid ((w.alloc (.cells #[iv 0,iv 0,iv 0] 65)).heap[w.heap.size]?=some (.cells #[iv 0,iv 0,iv 0] 65)):=uF w _
 have hbl:Hid (Below w.heap.size w (w.alloc (.cells #[iv 0,iv 0,iv 0] 65))):=(uM _ _).alloc (uA _) _
 go_wp2_with fail
 generalize w.alloc (.cells #[iv 0,iv 0,iv 0] 65)=W0 at rb0 hbl ⊢
 refine (HA.out _ hbl.out).mono ?_
 rintro e W1 ⟨rfl,b1⟩
 have lr0:w.heap.size<W0.heap.size:=(blt rb0.out)
 have hb1:Hid (Below w.heap.size w W1):=uL hbl.out (b1.mono hbl.out.size)
 have rb1:Hid (W1.heap[w.heap.size]?=some (.cells #[iv 0,iv 0,iv 0] 65)):=(b1.block _ lr0).trans rb0.out
 have lr1:w.heap.size<W1.heap.size:=(blt rb1.out)
 clear b1 lr0 rb0 hbl HA
 obtain ⟨s0,s1,s2⟩:=jK rb1.out
 have f0:=qA rb1.out 0
 have f1:=qA rb1.out 1
 have f2:=qA rb1.out 2
 go_wp2
 refine uK (v:=.tuple #[.agg #[iv a,iv b,iv d],iv 0]) (by simp [results,Tryz.results24,go_sem,s0,s1,s2]) rfl ⟨rfl,?_⟩
 exact wU hb1.out (uA _)
section
theorem PMem.acells {W:World} {x:Nat} {own:Nat->Prop} {V:PV} {g:PG} (h:PMem W x own V g) {j:Nat} {a:PAns} (hj:V.al[j]?=some a):∃ b,g.ao=some (aq b 0)/\j<V.al.length/\∀ k,k<9->∀ u,a.vals[k]?=some u->W.cell? (aq b (j * 9+k))=some u:=by
 have hl:=(List.getElem?_eq_some_iff.1 hj).1
 have hd:V.al.getD j pans0=a:=by simp [List.getD,hj]
 have ho:=h.arow
 rcases ho.2 with ⟨_,h0⟩|⟨b,cap,cur,hv,_,hh,_⟩
 ·omega
 ·have hv':=hv
  simp only [Value.slice.injEq] at hv'
  obtain ⟨e1,_,e2⟩:=hv'
  rw [hv] at ho
  refine ⟨b,e1,hl,fun k hk u hu=>?_⟩
  have:=ho.cells (g:=b) rfl _ _ ((iK hl k hk).trans (by rw [hd];exact hu))
  rwa [Addr.add_lit,Nat.zero_add] at this
section
variable {w:World} {x:Nat} {own:Nat->Prop} {S:Sal} {last:Nat} {an:Int}
theorem Hk {W:World} {V:PV} {tok:Int} {j:Nat} {a:PAns} (h:QE W x own V) (hs:srt V.att) (hg:yO (tok,0) V.att=some (j:Int)) (hj:V.al[j]?=some a) :
 Ca 67 #[pt x 23,iv tok] W fun e w'=>e=.returned (.tuple #[a.val,.bool true])/\Below W.heap.size W w':=by
 obtain ⟨g,h⟩:=h
 obtain ⟨b,hb,hl,c⟩:=h.acells hj
 exact Cx x 23 b V.al.length g.ac j g.att tok a.k a.t a.c a.u a.o a.rk a.ro a.rc a.ru W (h.cell 24 _ rfl) h.att.1 (by rw [h.att.2];exact hs) (by rw [h.att.2];exact hg) (by rw [← hb];exact h.cell 26 _ rfl) hl (c 0 uO _ rfl) (c 1 uO _ rfl) (c 2 uO _ rfl) (c 3 uO _ rfl) (c 4 uO _ rfl) (c 5 uO _ rfl) (c 6 uO _ rfl) (c 7 uO _ rfl) (c 8 uO _ rfl)
theorem Nu {W:World} {V:PV} {tok:Int} (h:QE W x own V) (hs:srt V.att) (hg:yO (tok,0) V.att=none) :
 Ca 67 #[pt x 23,iv tok] W fun e w'=>e=.returned (.tuple #[pans0.val,.bool false])/\Below W.heap.size W w':=by
 obtain ⟨g,h⟩:=h
 exact Wm x 23 g.att tok W (h.cell 24 _ rfl) h.att.1 (by rw [h.att.2];exact hs) (by rw [h.att.2];exact hg)
theorem rW (S:Sal) (a:Ans):S.remem a=true↔S.now<a.at'+S.C.keep:=by
 unfold Sal.remem
 rw [decide_eq_true_iff]
 omega
theorem gB {S:Sal} {atl:List (Int × Int)} {att:List Ent} {al:List PAns} (h:relA S.now atl att al S.C.keep S.ansL):al.length=S.answers:=by
 rw [h.count]
 unfold Sal.answers
 congr 1
 apply List.filter_congr
 intro a _
 have:=rW S a
 cases hr:S.remem a
 ·rw [hr] at this
  simp only [Bool.false_eq_true,false_iff] at this
  simpa using this
 ·rw [hr] at this
  simpa using this.1 rfl
theorem Tv {S:Sal} {atl:List (Int × Int)} {att:List Ent} {al:List PAns} (h:relA S.now atl att al S.C.keep S.ansL) {j:Nat} (hj:j<S.ansL.length) (hm:S.now<(S.ansL.getD j zU).at'+S.C.keep):S.used (S.ansL.getD j zU).token=some (S.ansL.getD j zU):=by
 have ej:S.ansL.getD j zU=S.ansL[j]:=by simp [List.getD,uD hj]
 cases hu:S.used (S.ansL.getD j zU).token with
 | none =>
   unfold Sal.used at hu
   rw [List.find?_eq_none] at hu
   have:=hu (S.ansL.getD j zU) (by rw [ej];exact List.getElem_mem hj)
   rw [(rW S _).2 hm] at this
   simp at this
 | some a =>
   obtain ⟨i,hi,he,h1,h2,_⟩:=iC hu
   have:=h.uniq i j hi hj (by rw [he];exact (rW S a).1 h1) hm (by rw [he];exact h2)
   rw [← he,this]
theorem Fc {S:Sal} {atl:List (Int × Int)} {att:List Ent} {al:List PAns} (h:relA S.now atl att al S.C.keep S.ansL) {t:Int} (hn:∀ a∈al,a.t≠t):S.used t=none:=by
 cases hu:S.used t with
 | none=>rfl
 | some a =>
   obtain ⟨i,hi,he,h1,h2,_⟩:=iC hu
   obtain ⟨b,hb,e,_⟩:=h.reqs i hi (by rw [he];exact (rW S a).1 h1)
   exact absurd (e.trans (by rw [he];exact h2)) (hn b hb)
theorem Tu (h:QA S.now x S last w own) :
 Ca 40 #[pt x 23] w fun e w'=>e=.returned (iv S.answers)/\Below w.heap.size w w':=by
 obtain ⟨V,⟨g,hm⟩,hr,ha,han⟩:=h
 have:=Nz x 23 V.att.length w (hm.cell 25 _ rfl)
 rw [han] at ha
 rw [fJ ha.ls,gB ha] at this
 exact this
theorem ZJ (h:QA S.now x S last w own) (hR:restP S) (a:PAns) (hb:QH a.k a.t a.c a.u a.o=true) (hn:S.used a.t=none) :
 Ca 69 #[pt x 23,a.val,iv (S.now+S.C.keep)] w fun e w'=>e=.returned (.tuple #[])/\zQ (QA S.now x { S with ansL:=S.ansL++[⟨strOfNums (qE a.k (qT a.k a.t a.c a.u a.o)),a.t,⟨a.rk,a.ro,a.rc,a.ru⟩,S.now⟩] } last) w w' own:=by
 obtain ⟨V,hm,hr,ha,han⟩:=h
 have ha0:=ha
 rw [han] at ha0
 have hcnt:=gB ha0
 have hl1:=fJ ha.ls
 have hal:V.al.length<=4294967296:=by have:=hR.alen;have:=hR.R.tokens.2;omega
 have hz2:V.atl.length<=V.al.length:=by
  have:=yK (V.atl.map (fun p:Int × Int=>p.2)) (V.al.map PAns.t) (show (V.atl.map (fun p:Int × Int=>p.2)).Nodup from ha.once) (fun y hy=>by
   obtain ⟨p,hp,rfl⟩:=List.mem_map.1 hy
   obtain ⟨j,j1,j2,rfl⟩:=(ha.tl p).1 hp
   obtain ⟨b,hb',e,_⟩:=ha.reqs j j1 j2
   exact List.mem_map.2 ⟨b,hb',e⟩)
  simpa using this
 have hun:∀ j,j<S.ansL.length->V.an<(S.ansL.getD j zU).at'+S.C.keep->(S.ansL.getD j zU).token≠a.t:=fun j hj hm' e=>by
  have:=Tv ha0 hj (han▸hm')
  rw [e,hn] at this
  cases this
 have hgn:yO (a.t,0) V.att=none:=nP ha.ls (fun b hb' e=>by
  obtain ⟨j,j1,j2,j3⟩:=ha.al b hb'
  exact hun j j1 j2 (by rw [← j3,e]))
 refine (YG a (S.now+S.C.keep) w x own V hm ha.ls.srt hgn hal uO uO).mono ?_
 rintro e w' ⟨rfl,hq⟩
 exact ⟨rfl,oV hq ⟨hr.C,hr.now,hr.last,hr.tn,hr.once,hr.tl,hr.kin,hr.live,hr.ls,hr.ol,hr.turns,hr.sizes,hr.held,hr.sold,hr.lu,hr.cust⟩ (ha.add a S.now han hR.R.keep.1 hb hun) han⟩
theorem Zk (hJ:salJ S) (hR:restP S):saleK S:=⟨hJ.I,hJ.len,hR.R.lease,hR.R.wait,hR.R.keep⟩
theorem YI (h:QA S.now x S S.os.length w own) (hJ:salJ S) (hR:restP S) (r:Req) (hb:QH r.kind r.token r.cust r.units r.order=true) (hk:r.kind≠4) :
 Ca 44 #[pt x 0,r.val] w fun e w'=>e=.returned (S.send (qE r.kind (qT r.kind r.token r.cust r.units r.order)) r 0).1.val/\zQ (QA S.now x (S.send (qE r.kind (qT r.kind r.token r.cust r.units r.order)) r 0).2 (S.send (qE r.kind (qT r.kind r.token r.cust r.units r.order)) r 0).2.os.length) w w' own:=by
 have hKK:=Zk hJ hR
 have K:=yQ S.now x S S.os.length
 have hw:=K.lt h
 obtain ⟨_,_,_,c8,c5,c6,_,_⟩:=dG h
 have hnum:=Uk hb
 obtain ⟨V0,hm0,hr0,ha0,han0⟩:=id h
 rw [han0] at ha0
 have hsend:S.send (qE r.kind (qT r.kind r.token r.cust r.units r.order)) r 0=match S.used r.token with
  | some a=>if a.frame=strOfNums (qE r.kind (qT r.kind r.token r.cust r.units r.order)) then (a.rep,S) else (⟨10,0,0,0⟩,S)
  | none =>
    if (S.answers:Int)=S.C.tokens then (⟨11,0,0,0⟩,S)
    else ((S.doS r).1,{ (S.doS r).2 with ansL:=(S.doS r).2.ansL++[⟨strOfNums (qE r.kind (qT r.kind r.token r.cust r.units r.order)),r.token,(S.doS r).1,S.now⟩] }):=by
  unfold Sal.send
  rw [uP (fun c=>c rfl),uP hk]
  cases S.used r.token<;>rfl
 rcases Fh ha0.ls r.token with ⟨j,a,hj,hat,hg⟩|⟨hn,hg⟩
 ·obtain ⟨j',q1,q2,q3⟩:=ha0.al a (List.mem_of_getElem? hj)
  obtain ⟨a',m1,m2,m3,m4,m5⟩:=ha0.reqs j' q1 q2
  have eaa:a'=a:=by
   obtain ⟨i',hi'⟩:=List.mem_iff_getElem?.1 m1
   have:=mW ha0.ls.once hi' hj (m2.trans q3.symm)
   rw [this,hj] at hi'
   simpa using hi'.symm
  subst eaa
  have hu:S.used r.token=some (S.ansL.getD j' zU):=by
   have:=Tv ha0 q1 q2
   rwa [← q3,hat] at this
  rw [hu] at hsend
  have HG:∀ W,Below w.heap.size w W->Ca 67 #[pt x 23,iv r.token] W fun e w'=>e=.returned (.tuple #[a'.val,.bool true])/\Below W.heap.size W w':=fun W hW=>Hk (lS hm0 hW) ha0.ls.srt hg hj
  by_cases he:a'.k=r.kind/\a'.t=r.token/\a'.c=r.cust/\a'.u=r.units/\a'.o=r.order
  ·obtain ⟨e1,e2,e3,e4,e5⟩:=he
   have hfr:(S.ansL.getD j' zU).frame=strOfNums (qE r.kind (qT r.kind r.token r.cust r.units r.order)):=by rw [m4,e1,e2,e3,e4,e5]
   have hse:S.send (qE r.kind (qT r.kind r.token r.cust r.units r.order)) r 0=(⟨a'.rk,a'.ro,a'.rc,a'.ru⟩,S):=by
    rw [hsend]
    simp only
    rw [uQ hfr,m5]
   rw [hse]
   have hv:a'.val=.agg #[iv r.kind,iv r.token,iv r.cust,iv r.units,iv r.order,iv a'.rk,iv a'.ro,iv a'.rc,iv a'.ru]:=by unfold PAns.val;rw [e1,e2,e3,e4,e5]
   rw [hv] at HG
   refine (Ir x r.kind r.token r.cust r.units r.order a'.rk a'.ro a'.rc a'.ru w HG).mono ?_
   rintro e w' ⟨rfl,hb'⟩
   exact ⟨rfl,yY K h hb'⟩
  ·have hfr:¬ (S.ansL.getD j' zU).frame=strOfNums (qE r.kind (qT r.kind r.token r.cust r.units r.order)):=by
    rw [m4]
    intro c
    have:=Py (jZ m3) (jZ hb) c
    obtain ⟨i1,i2,i3,i4,i5⟩:=Qu m3 hb this
    exact he ⟨i1,i2,i3,i4,i5⟩
   have hse:S.send (qE r.kind (qT r.kind r.token r.cust r.units r.order)) r 0=(⟨10,0,0,0⟩,S):=by
    rw [hsend]
    simp only
    rw [uP hfr]
   rw [hse]
   refine (Fs x r.kind r.token r.cust r.units r.order a'.k a'.t a'.c a'.u a'.o a'.rk a'.ro a'.rc a'.ru w he HG).mono ?_
   rintro e w' ⟨rfl,hb'⟩
   exact ⟨rfl,yY K h hb'⟩
 ·have hu:=Fc ha0 hn
  rw [hu] at hsend
  have HG:∀ W,Below w.heap.size w W->Ca 67 #[pt x 23,iv r.token] W fun e w'=>e=.returned (.tuple #[pans0.val,.bool false])/\Below W.heap.size W w':=fun W hW=>Nu (lS hm0 hW) ha0.ls.srt hg
  have HZ:∀ W,Below w.heap.size w W->Ca 40 #[pt x 23] W fun e w'=>e=.returned (iv S.answers)/\Below W.heap.size W w':=fun W hW=>Tu (yV h hW)
  have hal:=hR.alen
  by_cases hf:(S.answers:Int)=S.C.tokens
  ·have hse:S.send (qE r.kind (qT r.kind r.token r.cust r.units r.order)) r 0=(⟨11,0,0,0⟩,S):=by
    rw [hsend]
    simp only
    rw [uQ hf]
   rw [hse]
   refine (Bk x r.kind r.token r.cust r.units r.order S.answers S.C.tokens w uO HG c6 HZ).mono ?_
   rintro e w' ⟨rfl,hb'⟩
   exact ⟨rfl,yY K h hb'⟩
  ·have hse:S.send (qE r.kind (qT r.kind r.token r.cust r.units r.order)) r 0=((S.doS r).1,{ (S.doS r).2 with ansL:=(S.doS r).2.ansL++[⟨strOfNums (qE r.kind (qT r.kind r.token r.cust r.units r.order)),r.token,(S.doS r).1,S.now⟩] }):=by
    rw [hsend]
    simp only
    rw [uP hf]
   rw [hse]
   obtain ⟨d1,d2,d3⟩:=rP S r
   have hRd:=Bi hR r
   have hund:(S.doS r).2.used r.token=none:=by
    unfold Sal.used Sal.remem
    rw [d3,d2,d1]
    exact hu
   have hnow:=hJ.I.now
   have hkp:=hR.R.keep
   have h1:r.kind=1->r.cust≠0/\1<=r.units/\r.units<=4294967296:=fun e=>by
    rcases hnum with ⟨_,q1,q2,q3⟩|⟨q,_,_⟩|⟨q,_,_⟩
    ·exact ⟨uO,q2,q3⟩
    ·omega
    ·omega
   have h2:r.kind≠1->1<=r.order:=fun e=>by
    rcases hnum with ⟨q,_,_,_⟩|⟨_,q,_⟩|⟨_,q,_⟩
    ·exact absurd q e
    ·exact q
    ·exact q
   have HC:∀ (loc:Nat->Prop) (W:World) (T:Sal) (last:Nat),T.C=S.C->T.now=S.now->qX (QA S.now x T last) w own loc W->W.cell? (aq x 8)=some (iv S.now)/\W.cell? (aq x 5)=some (iv S.C.keep)/\x<W.heap.size:=fun loc W T last e1 e2 hT=>by
    obtain ⟨o1,a1,_⟩:=hT
    obtain ⟨_,_,_,q8,q5,_⟩:=dG a1
    rw [e2] at q8
    rw [e1] at q5
    exact ⟨q8,q5,uC W _ q8⟩
   exact Ef x own (QA S.now x S S.os.length) (QA S.now x (S.doS r).2 (S.doS r).2.os.length) (QA S.now x { (S.doS r).2 with ansL:=(S.doS r).2.ansL++[⟨strOfNums (qE r.kind (qT r.kind r.token r.cust r.units r.order)),r.token,(S.doS r).1,S.now⟩] } (S.doS r).2.os.length) K (yQ _ _ _ _) (yQ _ _ _ _) r.kind r.token r.cust r.units r.order S.answers S.C.tokens S.now S.C.keep (S.doS r).1.kind (S.doS r).1.order (S.doS r).1.cents (S.doS r).1.upto w uO ⟨uO,uO⟩ hw h HG c6 HZ
    (fun loc W hT=>HC loc W _ _ (by exact d1) (by exact d2) hT) (fun loc W hT=>HC loc W _ _ (by exact d1) (by exact d2) hT)
    (fun loc W hW=>qS hw (fun W o hp=>ZS hp hKK hR.qlen r h1 h2) W hW)
    (fun loc W hW=>qS hw (fun W o hp=>by
      have hp':QA (S.doS r).2.now x (S.doS r).2 (S.doS r).2.os.length W o:=by rw [d2];exact hp
      have:=ZJ hp' hRd ⟨r.kind,r.token,r.cust,r.units,r.order,(S.doS r).1.kind,(S.doS r).1.order,(S.doS r).1.cents,(S.doS r).1.upto⟩ hb hund
      rw [← d1,← d2]
      exact this) W hW)
def ZY (w:World) (x:Nat) (own:Nat->Prop) (S:Sal):Prop:=QA S.now x S S.os.length w own/\restP S
theorem Rk {S:Sal} (h:restP S) (bs:List Int) (r:Req) (err:Int):restP (S.send bs r err).2:=by
 unfold Sal.send
 split
 ·exact h
 split
 ·exact h
 split
 ·split<;>exact h
 ·split
  ·exact h
  ·next hf =>
   obtain ⟨d1,d2,d3⟩:=rP S r
   have hd:=Bi h r
   refine ⟨⟨hd.R.fut,hd.R.stable,hd.R.lease,hd.R.wait,hd.R.keep,hd.R.tokens,hd.R.queue⟩,hd.qlen,?_⟩
   have ha:=h.alen
   show ((((S.doS r).2.ansL++[_]).filter (fun a:Ans=>decide ((S.doS r).2.now - a.at'<(S.doS r).2.C.keep))).length:Int)<=(S.doS r).2.C.tokens
   rw [d1,d2,d3,List.filter_append,List.length_append]
   have h1:(S.ansL.filter (fun a:Ans=>decide (S.now - a.at'<S.C.keep))).length=S.answers:=rfl
   rw [h1]
   have h2:=List.length_filter_le (fun a:Ans=>decide (S.now - a.at'<S.C.keep)) [(⟨strOfNums bs,r.token,(S.doS r).1,S.now⟩:Ans)]
   simp only [List.length_singleton] at h2
   omega
theorem Zt:SendOK ZY where
 lt:=fun h=>(yQ _ _ _ _).lt h.1
 keep:=fun h hz hk=>⟨(yQ _ _ _ _).keep h.1 hz hk,h.2⟩
 send:=by
  intro w x own S ba bl bc bs k t c u o err h hJ hs hun
  obtain ⟨hp,hR⟩:=h
  have hKK:=Zk hJ hR
  have K:=yQ S.now x S S.os.length
  have HU:∀ W,Below w.heap.size w W->Ca 42 #[.slice ba bl bc] W fun e w'=>e=.returned (.tuple #[.agg #[iv k,iv t,iv c,iv u,iv o],iv err])/\Below W.heap.size W w':=fun W hW=>by
   refine (sC ba bl bc bs W (qM hs hW)).mono ?_
   rintro e w' ⟨k',t',c',u',o',err',rfl,hun',hb⟩
   obtain ⟨rfl,rfl,rfl,rfl,rfl,rfl⟩:=Tk hun hun'
   exact ⟨rfl,hb⟩
  have stay:∀ {w':World} {S':Sal},S'=S->Below w.heap.size w w'->Xq ZY w w' x own S':=by
   rintro w' _ rfl hb
   obtain ⟨o',a1,a2,a3⟩:=yY K hp hb
   exact ⟨o',⟨a1,hR⟩,a2,a3⟩
  by_cases he:err=0
  ·subst he
   obtain ⟨_,hb,rfl⟩:=hun.resolve_right (fun c=>by have:=c.1;omega)
   by_cases hk:k=4
   ·subst hk
    have hse:S.send (qE 4 (qT 4 t c u o)) ⟨4,t,c,u,o⟩ 0=(S.poll ⟨4,t,c,u,o⟩,S):=by
       unfold Sal.send
       rw [uP (fun c=>c rfl),uQ rfl]
    have ho:1<=o:=by
       rcases Uk hb with ⟨q,_⟩|⟨q,_⟩|⟨_,q,_⟩
       ·omega
       ·omega
       ·exact q
    rw [hse]
    refine (Nm x ba bl bc t c u o _ _ _ _ w HU (fun W hW=>YS (yV hp hW) hKK ⟨4,t,c,u,o⟩ ho)).mono ?_
    rintro e w' ⟨rfl,hb'⟩
    exact ⟨rfl,stay rfl hb'⟩
   ·refine (At x own (QA S.now x S S.os.length) _ K (yQ _ _ _ _) ba bl bc k t c u o _ _ _ _ w (by simpa using hk) (K.lt hp) hp HU (fun loc W hW=>qS (K.lt hp) (fun W o' hp'=>YI hp' hJ hR ⟨k,t,c,u,o⟩ hb hk) W hW)).mono ?_
    rintro e w' ⟨rfl,o',a1,a2,a3⟩
    refine ⟨rfl,o',⟨?_,Rk hR _ _ _⟩,a2,a3⟩
    rw [(eL S _ _ _).2.1]
    exact a1
  ·have hse:S.send bs ⟨k,t,c,u,o⟩ err=(⟨1,0,0,0⟩,S):=by
    unfold Sal.send
    rw [uQ he]
   rw [hse]
   refine (Ce x ba bl bc k t c u o err w (bne_iff_ne.2 he) HU).mono ?_
   rintro e w' ⟨rfl,hb'⟩
   exact ⟨rfl,stay rfl hb'⟩
end
end
