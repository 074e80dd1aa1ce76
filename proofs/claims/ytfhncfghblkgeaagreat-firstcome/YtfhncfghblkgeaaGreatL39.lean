import Derived.Test.YtfhncfghblkgeaaGreatL22
import Derived.Test.YtfhncfghblkgeaaGreatL32
import Derived.Test.YtfhncfghblkgeaaGreatL38
set_option maxRecDepth 100000
set_option maxHeartbeats 2000000
namespace Go.Proofs.YtfhncfghblkgeaaGreat
open Go.RowKit
theorem qbu (x:Nat) (ba:Option Addr) (bl bc:Nat) (k t c u o er:Int) (w:World) (he:(er != 0)=true)
 (HU:Hid (∀ W,Below w.heap.size w W->Calls Tryz.prog 62 #[.slice ba bl bc] W fun e w'=>e=.returned (.tuple #[.agg #[iv k,iv t,iv c,iv u,iv o],iv er])/\Below W.heap.size W w')) :
 Calls Tryz.prog 33 #[pt x 0,.slice ba bl bc] w fun e w'=>e=.returned (.agg #[iv 1,iv 0,iv 0,iv 0])/\Below w.heap.size w w':=by
 go_enter Tryz.func33,Tryz.ntmps33
 have rb0:Hid ((w.alloc (.cells #[iv 0,iv 0,iv 0,iv 0] 42)).heap[w.heap.size]?=some (.cells #[iv 0,iv 0,iv 0,iv 0] 42 (0,0))):=heap_alloc_new w _
 have hbl:Hid (Below w.heap.size w (w.alloc (.cells #[iv 0,iv 0,iv 0,iv 0] 42))):=(Below.refl _ _).alloc (Nat.le_refl _) _
 go_wp2_with fail
 generalize w.alloc (.cells #[iv 0,iv 0,iv 0,iv 0] 42)=W0 at rb0 hbl ⊢
 refine (HU.out _ hbl.out).mono ?_
 rintro e W1 ⟨rfl,b1⟩
 have lr0:w.heap.size<W0.heap.size:=(blt rb0.out)
 have hb1:Hid (Below w.heap.size w W1):=Below.trans hbl.out (b1.mono hbl.out.size)
 have rb1:Hid _:=(b1.block _ lr0).trans rb0.out
 have lr1:w.heap.size<W1.heap.size:=(blt rb1.out)
 clear b1 lr0 rb0 hbl HU
 obtain ⟨s0,s1,s2,s3⟩:=ja9 rb1.out
 have f0:=ja0 rb1.out 0
 have f1:=ja0 rb1.out 1
 have f2:=ja0 rb1.out 2
 have f3:=ja0 rb1.out 3
 go_wp2
 refine bodyPost_ret (v:=.agg #[iv 1,iv 0,iv 0,iv 0]) (by simp [results,Tryz.results33,go_sem,s0,s1,s2,s3,lr1]) rfl ⟨rfl,?_⟩
 exact jhv hb1.out (Nat.le_refl _) (by omega)
theorem jy3 (x:Nat) (ba:Option Addr) (bl bc:Nat) (t c u o a0 a1 a2 a3:Int) (w:World)
 (HU:Hid (∀ W,Below w.heap.size w W->Calls Tryz.prog 62 #[.slice ba bl bc] W fun e w'=>e=.returned (.tuple #[.agg #[iv 4,iv t,iv c,iv u,iv o],iv 0])/\Below W.heap.size W w'))
 (HP:Hid (∀ W,Below w.heap.size w W->Calls Tryz.prog 63 #[pt x 0,.agg #[iv 4,iv t,iv c,iv u,iv o]] W fun e w'=>e=.returned (.agg #[iv a0,iv a1,iv a2,iv a3])/\Below W.heap.size W w')) :
 Calls Tryz.prog 33 #[pt x 0,.slice ba bl bc] w fun e w'=>e=.returned (.agg #[iv a0,iv a1,iv a2,iv a3])/\Below w.heap.size w w':=by
 go_enter Tryz.func33,Tryz.ntmps33
 have rb0:Hid ((w.alloc (.cells #[iv 0,iv 0,iv 0,iv 0] 42)).heap[w.heap.size]?=some (.cells #[iv 0,iv 0,iv 0,iv 0] 42 (0,0))):=heap_alloc_new w _
 have hbl:Hid (Below w.heap.size w (w.alloc (.cells #[iv 0,iv 0,iv 0,iv 0] 42))):=(Below.refl _ _).alloc (Nat.le_refl _) _
 go_wp2_with fail
 generalize w.alloc (.cells #[iv 0,iv 0,iv 0,iv 0] 42)=W0 at rb0 hbl ⊢
 refine (HU.out _ hbl.out).mono ?_
 rintro e W1 ⟨rfl,b1⟩
 have lr0:w.heap.size<W0.heap.size:=(blt rb0.out)
 have hb1:Hid (Below w.heap.size w W1):=Below.trans hbl.out (b1.mono hbl.out.size)
 have rb1:Hid _:=(b1.block _ lr0).trans rb0.out
 have lr1:w.heap.size<W1.heap.size:=(blt rb1.out)
 clear b1 lr0 rb0 hbl HU
 go_wp2_with fail
 refine (HP.out _ (hb1.out.alloc (by omega) _)).mono ?_
 rintro e W2 ⟨rfl,b2⟩
 have hb2:Hid (Below w.heap.size w W2):=Below.trans (hb1.out.alloc (by omega) _) (b2.mono (by simp;omega))
 have rb2:Hid (W2.heap[w.heap.size]?=some (.cells #[iv 0,iv 0,iv 0,iv 0] 42 (0,0))):=(b2.block _ (by simp;omega)).trans ((Below.heap_alloc _ _ _ lr1).trans rb1.out)
 have lr2:w.heap.size<W2.heap.size:=(blt rb2.out)
 clear b2 rb1 hb1 lr1 HP
 obtain ⟨s0,s1,s2,s3⟩:=ja9 rb2.out
 have f0:=ja0 rb2.out 0
 have f1:=ja0 rb2.out 1
 have f2:=ja0 rb2.out 2
 have f3:=ja0 rb2.out 3
 go_wp2
 refine bodyPost_ret (v:=.agg #[iv a0,iv a1,iv a2,iv a3]) (by simp [results,Tryz.results33,go_sem,s0,s1,s2,s3]) rfl ⟨rfl,?_⟩
 exact jcx hb2.out (Nat.le_refl _)
theorem jzs (x:Nat) (own:Nat->Prop) (P0 P1:World->(Nat->Prop)->Prop) (K0:Keeps P0) (K1:Keeps P1) (ba:Option Addr) (bl bc:Nat) (k t c u o a0 a1 a2 a3:Int) (w:World) (hk4:(k==4)=false) (hw:∀ k,own k->k<w.heap.size) (h:P0 w own)
 (HU:Hid (∀ W,Below w.heap.size w W->Calls Tryz.prog 62 #[.slice ba bl bc] W fun e w'=>e=.returned (.tuple #[.agg #[iv k,iv t,iv c,iv u,iv o],iv 0])/\Below W.heap.size W w'))
 (HA:Hid (jc2 w own P0 P1 64 #[pt x 0,.agg #[iv k,iv t,iv c,iv u,iv o]] (.agg #[iv a0,iv a1,iv a2,iv a3]))) :
 Calls Tryz.prog 33 #[pt x 0,.slice ba bl bc] w fun e w'=>e=.returned (.agg #[iv a0,iv a1,iv a2,iv a3])/\jap P1 w w' own:=by
 have HST:Hid (∀ W,Below w.heap.size w W->w.heap.size<W.heap.size->ja7 P0 w own (fun j=>j=w.heap.size) W):=fun W hb hz=>jah K0 h hb (fun j e=>by subst e;omega)
 replace hw:Hid _:=hw
 clear h
 go_enter Tryz.func33,Tryz.ntmps33
 have rb0:Hid ((w.alloc (.cells #[iv 0,iv 0,iv 0,iv 0] 42)).heap[w.heap.size]?=some (.cells #[iv 0,iv 0,iv 0,iv 0] 42 (0,0))):=heap_alloc_new w _
 have hbl:Hid (Below w.heap.size w (w.alloc (.cells #[iv 0,iv 0,iv 0,iv 0] 42))):=(Below.refl _ _).alloc (Nat.le_refl _) _
 go_wp2_with fail
 generalize w.alloc (.cells #[iv 0,iv 0,iv 0,iv 0] 42)=W0 at rb0 hbl ⊢
 refine (HU.out _ hbl.out).mono ?_
 rintro e W1 ⟨rfl,b1⟩
 have lr0:w.heap.size<W0.heap.size:=(blt rb0.out)
 have hb1:Hid (Below w.heap.size w W1):=Below.trans hbl.out (b1.mono hbl.out.size)
 have rb1:Hid _:=(b1.block _ lr0).trans rb0.out
 have lr1:w.heap.size<W1.heap.size:=(blt rb1.out)
 clear b1 lr0 rb0 hbl HU
 go_wp2_with fail
 refine (HA.out _ _ (HST.out _ (hb1.out.alloc (by omega) _) (by simp;omega))).mono ?_
 rintro e W2 ⟨rfl,hT2,hk⟩
 have rb2:Hid (W2.heap[w.heap.size]?=some (.cells #[iv 0,iv 0,iv 0,iv 0] 42 (0,0))):=(hk _ rfl).trans ((Below.heap_alloc _ _ _ lr1).trans rb1.out)
 have lr2:w.heap.size<W2.heap.size:=(blt rb2.out)
 have HE:Hid (∀ v0 v1 v2 v3,jap P1 w ((((W2.setCell (aq w.heap.size 0) v0).setCell (aq w.heap.size 1) v1).setCell (aq w.heap.size 2) v2).setCell (aq w.heap.size 3) v3) own):=fun v0 v1 v2 v3=>jan (jc4 K1 hT2 hw.out rfl v0 v1 v2 v3)
 clear hk hT2 rb1 hb1 lr1 HA
 obtain ⟨s0,s1,s2,s3⟩:=ja9 rb2.out
 have f0:=ja0 rb2.out 0
 have f1:=ja0 rb2.out 1
 have f2:=ja0 rb2.out 2
 have f3:=ja0 rb2.out 3
 go_wp2
 refine bodyPost_ret (v:=.agg #[iv a0,iv a1,iv a2,iv a3]) (by simp [results,Tryz.results33,go_sem,s0,s1,s2,s3]) rfl ⟨rfl,?_⟩
 exact HE.out _ _ _ _
theorem qec (x:Nat) (now:Int) (w:World) (h:w.cell? (aq x 8)=some (iv now)) :
 Calls Tryz.prog 19 #[pt x 0] w fun e w'=>e=.returned (iv now)/\Below w.heap.size w w':=by
 go_enter Tryz.func19,Tryz.ntmps19
 go_wp2
 go_ret
 exact ⟨rfl,Below.refl _ _⟩
theorem juv (x:Nat) (c:Int) (w:World) (hc:jbn c=false) :
 Calls Tryz.prog 31 #[pt x 0,iv c] w fun e w'=>e=.returned (.tuple #[.agg #[iv 0,iv 0,iv 0],iv 3])/\Below w.heap.size w w':=by
 have HE:Hid (∀ O,Below w.heap.size w (w.alloc O)):=fun O=>(Below.refl _ _).alloc (Nat.le_refl _) _
 by_cases h1:c<1
 ·have d1:decide (c<1)=true:=by simpa using h1
  clear hc
  go_enter Tryz.func31,Tryz.ntmps31
  go_wp2
  refine bodyPost_ret (v:=.tuple #[.agg #[iv 0,iv 0,iv 0],iv 3]) (by simp [results,Tryz.results31,go_sem]) rfl ⟨rfl,?_⟩
  exact HE.out _
 ·have h2:4294967296<c:=by
   simp [jbn] at hc
   omega
  have d1:decide (c<1)=false:=by simpa using h1
  have d2:decide (4294967296<c)=true:=by simpa using h2
  clear hc
  go_enter Tryz.func31,Tryz.ntmps31
  go_wp2
  refine bodyPost_ret (v:=.tuple #[.agg #[iv 0,iv 0,iv 0],iv 3]) (by simp [results,Tryz.results31,go_sem]) rfl ⟨rfl,?_⟩
  exact HE.out _
theorem js9 (x:Nat) (c a b d:Int) (w:World) (h1:1<=c) (h2:c<=4294967296)
 (HA:Hid (∀ W,Below w.heap.size w W->Calls Tryz.prog 61 #[pt x 19,iv c] W fun e w'=>e=.returned (.agg #[iv a,iv b,iv d])/\Below W.heap.size W w')) :
 Calls Tryz.prog 31 #[pt x 0,iv c] w fun e w'=>e=.returned (.tuple #[.agg #[iv a,iv b,iv d],iv 0])/\Below w.heap.size w w':=by
 have j1:¬ c<1:=by omega
 have j2:¬ 4294967296<c:=by omega
 have d1:decide (c<1)=false:=by simpa using j1
 have d2:decide (4294967296<c)=false:=by simpa using j2
 go_enter Tryz.func31,Tryz.ntmps31
 have rb0:Hid ((w.alloc (.cells #[iv 0,iv 0,iv 0] 87)).heap[w.heap.size]?=some (.cells #[iv 0,iv 0,iv 0] 87 (0,0))):=heap_alloc_new w _
 have hbl:Hid (Below w.heap.size w (w.alloc (.cells #[iv 0,iv 0,iv 0] 87))):=(Below.refl _ _).alloc (Nat.le_refl _) _
 go_wp2_with fail
 generalize w.alloc (.cells #[iv 0,iv 0,iv 0] 87)=W0 at rb0 hbl ⊢
 refine (HA.out _ hbl.out).mono ?_
 rintro e W1 ⟨rfl,b1⟩
 have lr0:w.heap.size<W0.heap.size:=(blt rb0.out)
 have hb1:Hid (Below w.heap.size w W1):=Below.trans hbl.out (b1.mono hbl.out.size)
 have rb1:Hid (W1.heap[w.heap.size]?=some (.cells #[iv 0,iv 0,iv 0] 87 (0,0))):=(b1.block _ lr0).trans rb0.out
 have lr1:w.heap.size<W1.heap.size:=(blt rb1.out)
 clear b1 lr0 rb0 hbl HA
 obtain ⟨s0,s1,s2⟩:=jb3 rb1.out
 have f0:=ja0 rb1.out 0
 have f1:=ja0 rb1.out 1
 have f2:=ja0 rb1.out 2
 go_wp2
 refine bodyPost_ret (v:=.tuple #[.agg #[iv a,iv b,iv d],iv 0]) (by simp [results,Tryz.results31,go_sem,s0,s1,s2]) rfl ⟨rfl,?_⟩
 exact jop hb1.out (Nat.le_refl _)
section
theorem PMem.acells {W:World} {x:Nat} {own:Nat->Prop} {V:PV} {g:PG} (h:PMem W x own V g) {j:Nat} {a:PAns} (hj:V.al[j]?=some a):∃ b,g.ao=some (aq b 0)/\j<V.al.length/\∀ k,k<9->∀ u,a.vals[k]?=some u->W.cell? (aq b (j * 9+k))=some u:=by
 have hl:=(List.getElem?_eq_some_iff.1 hj).1
 have hd:V.al.getD j pans0=a:=by simp [List.getD,hj]
 have ho:=h.arow
 rcases ho.2 with ⟨_,h0⟩|⟨b,cap,cur,hv,_,hh,_⟩
 ·omega
 ·have hv':=hv
  simp only [Value.slice.injEq] at hv'
  obtain ⟨e1,_,e2⟩:=hv'
  rw [hv] at ho
  refine ⟨b,e1,hl,fun k hk u hu=>?_⟩
  have:=ho.cells (g:=b) rfl _ _ ((jlg hl k hk).trans (by rw [hd];exact hu))
  rwa [Addr.add_lit,Nat.zero_add] at this
section
variable {w:World} {x:Nat} {own:Nat->Prop} {S:Sal} {last:Nat} {an:Int}
theorem jvi {W:World} {V:PV} {tok:Int} {j:Nat} {a:PAns} (h:psm W x own V) (hs:srt V.att) (hg:jb5 (tok,0) V.att=some (j:Int)) (hj:V.al[j]?=some a) :
 Calls Tryz.prog 100 #[pt x 23,iv tok] W fun e w'=>e=.returned (.tuple #[a.val,.bool true])/\Below W.heap.size W w':=by
 obtain ⟨g,h⟩:=h
 obtain ⟨b,hb,hl,c⟩:=h.acells hj
 exact qcm x 23 b V.al.length g.ac j g.att tok a.k a.t a.c a.u a.o a.rk a.ro a.rc a.ru W (h.cell 24 _ rfl) h.att.1 (by rw [h.att.2];exact hs) (by rw [h.att.2];exact hg) (by rw [← hb];exact h.cell 26 _ rfl) hl (c 0 (by omega) _ rfl) (c 1 (by omega) _ rfl) (c 2 (by omega) _ rfl) (c 3 (by omega) _ rfl) (c 4 (by omega) _ rfl) (c 5 (by omega) _ rfl) (c 6 (by omega) _ rfl) (c 7 (by omega) _ rfl) (c 8 (by omega) _ rfl)
theorem jwx {W:World} {V:PV} {tok:Int} (h:psm W x own V) (hs:srt V.att) (hg:jb5 (tok,0) V.att=none) :
 Calls Tryz.prog 100 #[pt x 23,iv tok] W fun e w'=>e=.returned (.tuple #[pans0.val,.bool false])/\Below W.heap.size W w':=by
 obtain ⟨g,h⟩:=h
 exact qeq x 23 g.att tok W (h.cell 24 _ rfl) h.att.1 (by rw [h.att.2];exact hs) (by rw [h.att.2];exact hg)
theorem jj6 (S:Sal) (a:Ans):S.remem a=true↔S.now<a.at'+S.C.keep:=by
 unfold Sal.remem
 rw [decide_eq_true_iff]
 omega
theorem jgj {S:Sal} {atl:List (Int × Int)} {att:List Ent} {al:List PAns} (h:relA S.now atl att al S.C.keep S.ansL):al.length=S.answers:=by
 rw [h.count]
 unfold Sal.answers
 congr 1
 apply List.filter_congr
 intro a _
 have:=jj6 S a
 cases hr:S.remem a
 ·rw [hr] at this
  simp only [Bool.false_eq_true,false_iff] at this
  simpa using this
 ·rw [hr] at this
  simpa using this.1 rfl
theorem jxk {S:Sal} {atl:List (Int × Int)} {att:List Ent} {al:List PAns} (h:relA S.now atl att al S.C.keep S.ansL) {j:Nat} (hj:j<S.ansL.length) (hm:S.now<(S.ansL.getD j jf6).at'+S.C.keep):S.used (S.ansL.getD j jf6).token=some (S.ansL.getD j jf6):=by
 have ej:S.ansL.getD j jf6=S.ansL[j]:=by simp [List.getD,List.getElem?_eq_getElem hj]
 cases hu:S.used (S.ansL.getD j jf6).token with
 | none =>
   unfold Sal.used at hu
   rw [List.find?_eq_none] at hu
   have:=hu (S.ansL.getD j jf6) (by rw [ej];exact List.getElem_mem hj)
   rw [(jj6 S _).2 hm] at this
   simp at this
 | some a =>
   obtain ⟨i,hi,he,h1,h2,_⟩:=jqr hu
   have:=h.uniq i j hi hj (by rw [he];exact (jj6 S a).1 h1) hm (by rw [he];exact h2)
   rw [← he,this]
theorem jw4 {S:Sal} {atl:List (Int × Int)} {att:List Ent} {al:List PAns} (h:relA S.now atl att al S.C.keep S.ansL) {t:Int} (hn:∀ a∈al,a.t≠t):S.used t=none:=by
 cases hu:S.used t with
 | none=>rfl
 | some a =>
   obtain ⟨i,hi,he,h1,h2,_⟩:=jqr hu
   obtain ⟨b,hb,e,_⟩:=h.reqs i hi (by rw [he];exact (jj6 S a).1 h1)
   exact absurd (e.trans (by rw [he];exact h2)) (hn b hb)
theorem jyj (h:psx S.now x S last w own) :
 Calls Tryz.prog 60 #[pt x 23] w fun e w'=>e=.returned (iv S.answers)/\Below w.heap.size w w':=by
 obtain ⟨V,⟨g,hm⟩,hr,ha,han⟩:=h
 have:=jxi x 23 V.att.length w (hm.cell 25 _ rfl)
 rw [han] at ha
 rw [jfw ha.ls,jgj ha] at this
 exact this
theorem qgu (h:psx S.now x S last w own) (hR:restP S) (a:PAns) (hb:isB a.k a.t a.c a.u a.o=true) (hn:S.used a.t=none) :
 Calls Tryz.prog 102 #[pt x 23,a.val,iv (S.now+S.C.keep)] w fun e w'=>e=.returned (.tuple #[])/\jap (psx S.now x { S with ansL:=S.ansL++[⟨strOfNums (jao a.k (jay a.k a.t a.c a.u a.o)),a.t,⟨a.rk,a.ro,a.rc,a.ru⟩,S.now⟩] } last) w w' own:=by
 obtain ⟨V,hm,hr,ha,han⟩:=h
 have ha0:=ha
 rw [han] at ha0
 have hcnt:=jgj ha0
 have hl1:=jfw ha.ls
 have hal:V.al.length<=4294967296:=by have:=hR.alen;have:=hR.R.tokens.2;omega
 have hz2:V.atl.length<=V.al.length:=by
  have:=jb0 (V.atl.map (fun p:Int × Int=>p.2)) (V.al.map PAns.t) (show (V.atl.map (fun p:Int × Int=>p.2)).Nodup from ha.once) (fun y hy=>by
   obtain ⟨p,hp,rfl⟩:=List.mem_map.1 hy
   obtain ⟨j,j1,j2,rfl⟩:=(ha.tl p).1 hp
   obtain ⟨b,hb',e,_⟩:=ha.reqs j j1 j2
   exact List.mem_map.2 ⟨b,hb',e⟩)
  simpa using this
 have hun:∀ j,j<S.ansL.length->V.an<(S.ansL.getD j jf6).at'+S.C.keep->(S.ansL.getD j jf6).token≠a.t:=fun j hj hm' e=>by
  have:=jxk ha0 hj (han▸hm')
  rw [e,hn] at this
  cases this
 have hgn:jb5 (a.t,0) V.att=none:=jhz ha.ls (fun b hb' e=>by
  obtain ⟨j,j1,j2,j3⟩:=ha.al b hb'
  exact hun j j1 j2 (by rw [← j3,e]))
 refine (qg5 a (S.now+S.C.keep) w x own V hm ha.ls.srt hgn hal (by omega) (by omega)).mono ?_
 rintro e w' ⟨rfl,hq⟩
 exact ⟨rfl,jf4 hq ⟨hr.C,hr.now,hr.last,hr.tn,hr.once,hr.tl,hr.kin,hr.live,hr.ls,hr.ol,hr.turns,hr.sizes,hr.held,hr.sold,hr.lu,hr.cust⟩ (ha.add a S.now han hR.R.keep.1 hb hun) han⟩
theorem jpk (hJ:salJ S) (hR:restP S):saleK S:=⟨hJ.I,hJ.len,hR.R.lease,hR.R.wait,hR.R.keep⟩
theorem qgk (h:psx S.now x S S.os.length w own) (hJ:salJ S) (hR:restP S) (r:Req) (hb:isB r.kind r.token r.cust r.units r.order=true) (hk:r.kind≠4) :
 Calls Tryz.prog 64 #[pt x 0,r.val] w fun e w'=>e=.returned (S.send (jao r.kind (jay r.kind r.token r.cust r.units r.order)) r 0).1.val/\jap (psx S.now x (S.send (jao r.kind (jay r.kind r.token r.cust r.units r.order)) r 0).2 (S.send (jao r.kind (jay r.kind r.token r.cust r.units r.order)) r 0).2.os.length) w w' own:=by
 have hKK:=jpk hJ hR
 have K:=jbb S.now x S S.os.length
 have hw:=K.lt h
 obtain ⟨_,_,_,c8,c5,c6,_,_⟩:=jf5 h
 have hnum:=jwy hb
 obtain ⟨V0,hm0,hr0,ha0,han0⟩:=id h
 rw [han0] at ha0
 have hsend:S.send (jao r.kind (jay r.kind r.token r.cust r.units r.order)) r 0=match S.used r.token with
  | some a=>if a.frame=strOfNums (jao r.kind (jay r.kind r.token r.cust r.units r.order)) then (a.rep,S) else (⟨10,0,0,0⟩,S)
  | none =>
    if (S.answers:Int)=S.C.tokens then (⟨11,0,0,0⟩,S)
    else ((S.doS r).1,{ (S.doS r).2 with ansL:=(S.doS r).2.ansL++[⟨strOfNums (jao r.kind (jay r.kind r.token r.cust r.units r.order)),r.token,(S.doS r).1,S.now⟩] }):=by
  unfold Sal.send
  rw [if_neg (fun c=>c rfl),if_neg hk]
  cases S.used r.token<;>rfl
 rcases jw9 ha0.ls r.token with ⟨j,a,hj,hat,hg⟩|⟨hn,hg⟩
 ·obtain ⟨j',q1,q2,q3⟩:=ha0.al a (List.mem_of_getElem? hj)
  obtain ⟨a',m1,m2,m3,m4,m5⟩:=ha0.reqs j' q1 q2
  have eaa:a'=a:=by
   obtain ⟨i',hi'⟩:=List.mem_iff_getElem?.1 m1
   have:=jhl ha0.ls.once hi' hj (m2.trans q3.symm)
   rw [this,hj] at hi'
   simpa using hi'.symm
  subst eaa
  have hu:S.used r.token=some (S.ansL.getD j' jf6):=by
   have:=jxk ha0 q1 q2
   rwa [← q3,hat] at this
  rw [hu] at hsend
  have HG:∀ W,Below w.heap.size w W->Calls Tryz.prog 100 #[pt x 23,iv r.token] W fun e w'=>e=.returned (.tuple #[a'.val,.bool true])/\Below W.heap.size W w':=fun W hW=>jvi (jgn hm0 hW) ha0.ls.srt hg hj
  by_cases he:a'.k=r.kind/\a'.t=r.token/\a'.c=r.cust/\a'.u=r.units/\a'.o=r.order
  ·obtain ⟨e1,e2,e3,e4,e5⟩:=he
   have hfr:(S.ansL.getD j' jf6).frame=strOfNums (jao r.kind (jay r.kind r.token r.cust r.units r.order)):=by rw [m4,e1,e2,e3,e4,e5]
   have hse:S.send (jao r.kind (jay r.kind r.token r.cust r.units r.order)) r 0=(⟨a'.rk,a'.ro,a'.rc,a'.ru⟩,S):=by
    rw [hsend]
    simp only
    rw [if_pos hfr,m5]
   rw [hse]
   have hv:a'.val=.agg #[iv r.kind,iv r.token,iv r.cust,iv r.units,iv r.order,iv a'.rk,iv a'.ro,iv a'.rc,iv a'.ru]:=by unfold PAns.val;rw [e1,e2,e3,e4,e5]
   rw [hv] at HG
   refine (qcu x r.kind r.token r.cust r.units r.order a'.rk a'.ro a'.rc a'.ru w HG).mono ?_
   rintro e w' ⟨rfl,hb'⟩
   exact ⟨rfl,jbi K h hb'⟩
  ·have hfr:¬ (S.ansL.getD j' jf6).frame=strOfNums (jao r.kind (jay r.kind r.token r.cust r.units r.order)):=by
    rw [m4]
    intro c
    have:=jsq (jf0 m3) (jf0 hb) c
    obtain ⟨i1,i2,i3,i4,i5⟩:=jjb m3 hb this
    exact he ⟨i1,i2,i3,i4,i5⟩
   have hse:S.send (jao r.kind (jay r.kind r.token r.cust r.units r.order)) r 0=(⟨10,0,0,0⟩,S):=by
    rw [hsend]
    simp only
    rw [if_neg hfr]
   rw [hse]
   refine (jul x r.kind r.token r.cust r.units r.order a'.k a'.t a'.c a'.u a'.o a'.rk a'.ro a'.rc a'.ru w he HG).mono ?_
   rintro e w' ⟨rfl,hb'⟩
   exact ⟨rfl,jbi K h hb'⟩
 ·have hu:=jw4 ha0 hn
  rw [hu] at hsend
  have HG:∀ W,Below w.heap.size w W->Calls Tryz.prog 100 #[pt x 23,iv r.token] W fun e w'=>e=.returned (.tuple #[pans0.val,.bool false])/\Below W.heap.size W w':=fun W hW=>jwx (jgn hm0 hW) ha0.ls.srt hg
  have HZ:∀ W,Below w.heap.size w W->Calls Tryz.prog 60 #[pt x 23] W fun e w'=>e=.returned (iv S.answers)/\Below W.heap.size W w':=fun W hW=>jyj (jbf h hW)
  have hal:=hR.alen
  by_cases hf:(S.answers:Int)=S.C.tokens
  ·have hse:S.send (jao r.kind (jay r.kind r.token r.cust r.units r.order)) r 0=(⟨11,0,0,0⟩,S):=by
    rw [hsend]
    simp only
    rw [if_pos hf]
   rw [hse]
   refine (jyt x r.kind r.token r.cust r.units r.order S.answers S.C.tokens w (by omega) HG c6 HZ).mono ?_
   rintro e w' ⟨rfl,hb'⟩
   exact ⟨rfl,jbi K h hb'⟩
  ·have hse:S.send (jao r.kind (jay r.kind r.token r.cust r.units r.order)) r 0=((S.doS r).1,{ (S.doS r).2 with ansL:=(S.doS r).2.ansL++[⟨strOfNums (jao r.kind (jay r.kind r.token r.cust r.units r.order)),r.token,(S.doS r).1,S.now⟩] }):=by
    rw [hsend]
    simp only
    rw [if_neg hf]
   rw [hse]
   obtain ⟨d1,d2,d3⟩:=jew S r
   have hRd:=jzz hR r
   have hund:(S.doS r).2.used r.token=none:=by
    unfold Sal.used Sal.remem
    rw [d3,d2,d1]
    exact hu
   have hnow:=hJ.I.now
   have hkp:=hR.R.keep
   have h1:r.kind=1->r.cust≠0/\1<=r.units/\r.units<=4294967296:=fun e=>by
    rcases hnum with ⟨_,q1,q2,q3⟩|⟨q,_,_⟩|⟨q,_,_⟩
    ·exact ⟨by omega,q2,q3⟩
    ·omega
    ·omega
   have h2:r.kind≠1->1<=r.order:=fun e=>by
    rcases hnum with ⟨q,_,_,_⟩|⟨_,q,_⟩|⟨_,q,_⟩
    ·exact absurd q e
    ·exact q
    ·exact q
   have HC:∀ (loc:Nat->Prop) (W:World) (T:Sal) (last:Nat),T.C=S.C->T.now=S.now->ja7 (psx S.now x T last) w own loc W->W.cell? (aq x 8)=some (iv S.now)/\W.cell? (aq x 5)=some (iv S.C.keep)/\x<W.heap.size:=fun loc W T last e1 e2 hT=>by
    obtain ⟨o1,a1,_⟩:=hT
    obtain ⟨_,_,_,q8,q5,_⟩:=jf5 a1
    rw [e2] at q8
    rw [e1] at q5
    exact ⟨q8,q5,World.block_lt_of_cell? W _ q8⟩
   exact qb9 x own (psx S.now x S S.os.length) (psx S.now x (S.doS r).2 (S.doS r).2.os.length) (psx S.now x { (S.doS r).2 with ansL:=(S.doS r).2.ansL++[⟨strOfNums (jao r.kind (jay r.kind r.token r.cust r.units r.order)),r.token,(S.doS r).1,S.now⟩] } (S.doS r).2.os.length) K (jbb _ _ _ _) (jbb _ _ _ _) r.kind r.token r.cust r.units r.order S.answers S.C.tokens S.now S.C.keep (S.doS r).1.kind (S.doS r).1.order (S.doS r).1.cents (S.doS r).1.upto w (by omega) ⟨by omega,by omega⟩ hw h HG c6 HZ
    (fun loc W hT=>HC loc W _ _ (by exact d1) (by exact d2) hT) (fun loc W hT=>HC loc W _ _ (by exact d1) (by exact d2) hT)
    (fun loc W hW=>ja6 hw (fun W o hp=>qgv hp hKK hR.qlen r h1 h2) W hW)
    (fun loc W hW=>ja6 hw (fun W o hp=>by
      have hp':psx (S.doS r).2.now x (S.doS r).2 (S.doS r).2.os.length W o:=by rw [d2];exact hp
      have:=qgu hp' hRd ⟨r.kind,r.token,r.cust,r.units,r.order,(S.doS r).1.kind,(S.doS r).1.order,(S.doS r).1.cents,(S.doS r).1.upto⟩ hb hund
      rw [← d1,← d2]
      exact this) W hW)
def PSW (w:World) (x:Nat) (own:Nat->Prop) (S:Sal):Prop:=psx S.now x S S.os.length w own/\restP S
theorem jzx {S:Sal} (h:restP S) (bs:List Int) (r:Req) (err:Int):restP (S.send bs r err).2:=by
 unfold Sal.send
 split
 ·exact h
 split
 ·exact h
 split
 ·split<;>exact h
 ·split
  ·exact h
  ·next hf =>
   obtain ⟨d1,d2,d3⟩:=jew S r
   have hd:=jzz h r
   refine ⟨⟨hd.R.fut,hd.R.stable,hd.R.lease,hd.R.wait,hd.R.keep,hd.R.tokens,hd.R.queue⟩,hd.qlen,?_⟩
   have ha:=h.alen
   show ((((S.doS r).2.ansL++[_]).filter (fun a:Ans=>decide ((S.doS r).2.now - a.at'<(S.doS r).2.C.keep))).length:Int)<=(S.doS r).2.C.tokens
   rw [d1,d2,d3,List.filter_append,List.length_append]
   have h1:(S.ansL.filter (fun a:Ans=>decide (S.now - a.at'<S.C.keep))).length=S.answers:=rfl
   rw [h1]
   have h2:=List.length_filter_le (fun a:Ans=>decide (S.now - a.at'<S.C.keep)) [(⟨strOfNums bs,r.token,(S.doS r).1,S.now⟩:Ans)]
   simp only [List.length_singleton] at h2
   omega
theorem sendW:SendOK PSW where
 lt:=fun h=>(jbb _ _ _ _).lt h.1
 keep:=fun h hz hk=>⟨(jbb _ _ _ _).keep h.1 hz hk,h.2⟩
 send:=by
  intro w x own S ba bl bc bs k t c u o err h hJ hs hun
  obtain ⟨hp,hR⟩:=h
  have hKK:=jpk hJ hR
  have K:=jbb S.now x S S.os.length
  have HU:∀ W,Below w.heap.size w W->Calls Tryz.prog 62 #[.slice ba bl bc] W fun e w'=>e=.returned (.tuple #[.agg #[iv k,iv t,iv c,iv u,iv o],iv err])/\Below W.heap.size W w':=fun W hW=>by
   refine (jwi ba bl bc bs W (jbm hs hW)).mono ?_
   rintro e w' ⟨k',t',c',u',o',err',rfl,hun',hb⟩
   obtain ⟨rfl,rfl,rfl,rfl,rfl,rfl⟩:=qfx hun hun'
   exact ⟨rfl,hb⟩
  have stay:∀ {w':World} {S':Sal},S'=S->Below w.heap.size w w'->jsj PSW w w' x own S':=by
   rintro w' _ rfl hb
   obtain ⟨o',a1,a2,a3⟩:=jbi K hp hb
   exact ⟨o',⟨a1,hR⟩,a2,a3⟩
  by_cases he:err=0
  ·subst he
   obtain ⟨_,hb,rfl⟩:=hun.resolve_right (fun c=>by have:=c.1;omega)
   by_cases hk:k=4
   ·subst hk
    have hse:S.send (jao 4 (jay 4 t c u o)) ⟨4,t,c,u,o⟩ 0=(S.poll ⟨4,t,c,u,o⟩,S):=by
       unfold Sal.send
       rw [if_neg (fun c=>c rfl),if_pos rfl]
    have ho:1<=o:=by
       rcases jwy hb with ⟨q,_⟩|⟨q,_⟩|⟨_,q,_⟩
       ·omega
       ·omega
       ·exact q
    rw [hse]
    refine (jy3 x ba bl bc t c u o _ _ _ _ w HU (fun W hW=>qfe (jbf hp hW) hKK ⟨4,t,c,u,o⟩ ho)).mono ?_
    rintro e w' ⟨rfl,hb'⟩
    exact ⟨rfl,stay rfl hb'⟩
   ·refine (jzs x own (psx S.now x S S.os.length) _ K (jbb _ _ _ _) ba bl bc k t c u o _ _ _ _ w (by simpa using hk) (K.lt hp) hp HU (fun loc W hW=>ja6 (K.lt hp) (fun W o' hp'=>qgk hp' hJ hR ⟨k,t,c,u,o⟩ hb hk) W hW)).mono ?_
    rintro e w' ⟨rfl,o',a1,a2,a3⟩
    refine ⟨rfl,o',⟨?_,jzx hR _ _ _⟩,a2,a3⟩
    rw [(jlh S _ _ _).2.1]
    exact a1
  ·have hse:S.send bs ⟨k,t,c,u,o⟩ err=(⟨1,0,0,0⟩,S):=by
    unfold Sal.send
    rw [if_pos he]
   rw [hse]
   refine (qbu x ba bl bc k t c u o err w (bne_iff_ne.2 he) HU).mono ?_
   rintro e w' ⟨rfl,hb'⟩
   exact ⟨rfl,stay rfl hb'⟩
end
end
theorem qf1 (x:Nat) (f hd sd n m:Int) (w:World) (c19:w.cell? (aq x 19)=some (iv hd)) (c20:w.cell? (aq x 20)=some (iv sd))
 (HF:Hid (∀ W,Below w.heap.size w W->Calls Tryz.prog 58 #[pt x 0] W fun e w'=>e=.returned (iv f)/\Below W.heap.size W w'))
 (HQ:Hid (∀ W,Below w.heap.size w W->Calls Tryz.prog 59 #[pt x 15] W fun e w'=>e=.returned (iv n)/\Below W.heap.size W w'))
 (HA:Hid (∀ W,Below w.heap.size w W->Calls Tryz.prog 60 #[pt x 23] W fun e w'=>e=.returned (iv m)/\Below W.heap.size W w')) :
 Calls Tryz.prog 29 #[pt x 0] w fun e w'=>e=.returned (.agg #[iv f,iv hd,iv sd,iv n,iv m])/\Below w.heap.size w w':=by
 have hxw:x<w.heap.size:=World.block_lt_of_cell? w _ c19
 replace c19:Hid _:=c19
 replace c20:Hid _:=c20
 go_enter Tryz.func29,Tryz.ntmps29
 have rb0:Hid ((w.alloc (.cells #[iv 0,iv 0,iv 0,iv 0,iv 0] 78)).heap[w.heap.size]?=some (.cells #[iv 0,iv 0,iv 0,iv 0,iv 0] 78 (0,0))):=heap_alloc_new w _
 have hbl:Hid (Below w.heap.size w (w.alloc (.cells #[iv 0,iv 0,iv 0,iv 0,iv 0] 78))):=(Below.refl _ _).alloc (Nat.le_refl _) _
 go_wp2_with fail
 generalize w.alloc (.cells #[iv 0,iv 0,iv 0,iv 0,iv 0] 78)=W0 at rb0 hbl ⊢
 have k19:=(hbl.out.cell (p:=(aq x 19)) hxw).trans c19.out
 have k20:=(hbl.out.cell (p:=(aq x 20)) hxw).trans c20.out
 have hx0:x<W0.heap.size:=Nat.lt_of_lt_of_le hxw hbl.out.size
 have lr0:w.heap.size<W0.heap.size:=(blt rb0.out)
 go_region_held3 (fun w'=>w'.cell? (aq x 19)=some (iv hd)/\w'.cell? (aq x 20)=some (iv sd)) (simp [go_sem, *])
  (first
    | (go_at_call 58;refine (HF.out _ bL).mono ?_;rintro e W1 ⟨rfl,bb⟩
       have hbl1:Hid (Below w.heap.size w W1):=(show Below w.heap.size w _ from bL).trans (bb.mono hbl.out.size)
       have rb1:Hid (W1.heap[w.heap.size]?=some (.cells #[iv 0,iv 0,iv 0,iv 0,iv 0] 78 (0,0))):=(bb.block _ lr0).trans rb0.out
       have m19:=(hbl1.out.cell (p:=(aq x 19)) hxw).trans c19.out
       have m20:=(hbl1.out.cell (p:=(aq x 20)) hxw).trans c20.out
       have hx1:x<W1.heap.size:=Nat.lt_of_lt_of_le hxw hbl1.out.size
       have lr1:w.heap.size<W1.heap.size:=(blt rb1.out)
       clear bb)
    | (go_at_call 59;refine (HQ.out _ bL).mono ?_;rintro e W2 ⟨rfl,bb⟩
       have hbl2:Hid (Below w.heap.size w W2):=(show Below w.heap.size w _ from bL).trans (bb.mono hbl1.out.size)
       have rb2:Hid (W2.heap[w.heap.size]?=some (.cells #[iv 0,iv 0,iv 0,iv 0,iv 0] 78 (0,0))):=(bb.block _ lr1).trans rb1.out
       have o19:=(hbl2.out.cell (p:=(aq x 19)) hxw).trans c19.out
       have o20:=(hbl2.out.cell (p:=(aq x 20)) hxw).trans c20.out
       have hx2:x<W2.heap.size:=Nat.lt_of_lt_of_le hxw hbl2.out.size
       have lr2:w.heap.size<W2.heap.size:=(blt rb2.out)
       clear bb)
    | (go_at_call 60;refine (HA.out _ bL).mono ?_;rintro e W3 ⟨rfl,bb⟩
       have hbl3:Hid (Below w.heap.size w W3):=(show Below w.heap.size w _ from bL).trans (bb.mono hbl2.out.size)
       have rb3:Hid (W3.heap[w.heap.size]?=some (.cells #[iv 0,iv 0,iv 0,iv 0,iv 0] 78 (0,0))):=(bb.block _ lr2).trans rb2.out
       have q19:=(hbl3.out.cell (p:=(aq x 19)) hxw).trans c19.out
       have q20:=(hbl3.out.cell (p:=(aq x 20)) hxw).trans c20.out
       have hx3:x<W3.heap.size:=Nat.lt_of_lt_of_le hxw hbl3.out.size
       have lr3:w.heap.size<W3.heap.size:=(blt rb3.out)
       have f0:=ja0 rb3.out 0
       have f1:=ja0 rb3.out 1
       have f2:=ja0 rb3.out 2
       have f3:=ja0 rb3.out 3
       have f4:=ja0 rb3.out 4
       obtain ⟨s0,s1,s2,s3,s4⟩:=jae rb3.out
       clear bb))
 have HE:Hid (∀ v0 v1 v2 v3 v4,Below w.heap.size w (((((W3.setCell (aq w.heap.size 0) v0).setCell (aq w.heap.size 1) v1).setCell (aq w.heap.size 2) v2).setCell (aq w.heap.size 3) v3).setCell (aq w.heap.size 4) v4)):=fun v0 v1 v2 v3 v4=>jb1 hbl3.out (Nat.le_refl _)
 go_wp2
 refine bodyPost_ret (v:=.agg #[iv f,iv hd,iv sd,iv n,iv m]) (by simp [results,Tryz.results29,go_sem,s0,s1,s2,s3,s4]) rfl ⟨rfl,?_⟩
 first|exact HE.out _ _ _ _ _|exact Below.drew (HE.out _ _ _ _ _)|exact jaf (HE.out _ _ _ _ _)
theorem bookW:BookOK PSW where
 books:=by
  intro w x own S h hJ
  obtain ⟨hp,hR⟩:=h
  have hKK:=jpk hJ hR
  obtain ⟨_,_,_,_,_,_,c19,c20⟩:=jf5 hp
  refine (qf1 x S.free _ _ (ja5 S.os).length S.answers w c19 c20 (fun W hW=>qaa (jbf hp hW) hKK) (fun W hW=>qag (jbf hp hW)) (fun W hW=>jyj (jbf hp hW))).mono ?_
  rintro e w' ⟨rfl,hb⟩
  obtain ⟨o',a1,a2,a3⟩:=jbi (jbb S.now x S S.os.length) hp hb
  exact ⟨rfl,o',⟨a1,hR⟩,a2,a3⟩
 account:=by
  intro w x own S c h hJ
  obtain ⟨hp,hR⟩:=h
  have fin:∀ {w':World},Below w.heap.size w w'->jsj PSW w w' x own S:=fun hb=>by
   obtain ⟨o',a1,a2,a3⟩:=jbi (jbb S.now x S S.os.length) hp hb
   exact ⟨o',⟨a1,hR⟩,a2,a3⟩
  by_cases hc:jbn c=true
  ·have e:S.acc c=(ja4 S.os 13 c,ja4 S.os 14 c,ja4 S.os 12 c,0):=by unfold Sal.acc Sal.account;rw [if_pos hc]
   rw [e]
   have hc':1<=c/\c<=4294967296:=by simpa [jbn] using hc
   refine (js9 x c _ _ _ w hc'.1 hc'.2 (fun W hW=>jq1 (jbf hp hW) c (by omega))).mono ?_
   rintro e w' ⟨rfl,hb⟩
   exact ⟨rfl,fin hb⟩
  ·have e:S.acc c=(0,0,0,3):=by unfold Sal.acc;rw [if_neg hc]
   rw [e]
   refine (juv x c w (by simpa using hc)).mono ?_
   rintro e w' ⟨rfl,hb⟩
   exact ⟨rfl,fin hb⟩
end Go.Proofs.YtfhncfghblkgeaaGreat
