import Derived.Test.YtfhncfghblkgeaaGreatL14
set_option maxRecDepth 100000
set_option maxHeartbeats 2000000
namespace Go.Proofs.YtfhncfghblkgeaaGreat
open Go.RowKit
theorem jec {k t c u o:Int} (h:isB k t c u o=true):∀ x∈jak k (jat k t c u o),0<=x/\x<256:=by
 intro x hx
 obtain ⟨_,_,hp⟩:=jk7 h
 rcases List.mem_cons.1 hx with rfl|hx
 ·unfold cnt at hp
  split at hp
  ·omega
  ·split at hp
   ·omega
   ·split at hp
    ·omega
    ·omega
 ·obtain ⟨n,_,hx⟩:=List.mem_flatMap.1 hx
  exact joi _ x hx
theorem jib {w:World} {B:Nat} {v:Value} {l:List Int} (h:bytesAt w B v l) (hb:∀ x∈l,0<=x/\x<256):∃ g cap,v=.slice (some (aq g 0)) l.length cap/\jah w (some (aq g 0)) l.length cap l:=by
 obtain ⟨g,cap,rfl,_,hg,hn,hm,hc⟩:=h
 exact ⟨g,cap,rfl,rfl,hn,hm,hb,fun _=>⟨g,0,rfl,hg,hc⟩⟩
theorem ji6 {k t c u o k' t' c' u' o':Int} (h:isB k t c u o=true) (h':isB k' t' c' u' o'=true) (e:jak k (jat k t c u o)=jak k' (jat k' t' c' u' o')):k=k'/\t=t'/\c=c'/\u=u'/\o=o':=by
 obtain ⟨ha,hl,hp⟩:=jk7 h
 obtain ⟨ha',hl',_⟩:=jk7 h'
 rw [jcg,jcg] at e
 simp only [List.cons.injEq] at e
 obtain ⟨rfl,e⟩:=e
 obtain ⟨ms,e1,e2⟩:=je3 ((jat k t c u o).map Int.toNat) ((jat k t' c' u' o').map Int.toNat) [] (by rw [List.length_map,List.length_map,hl,hl'];exact Nat.le_refl _) (by rw [List.append_nil];exact e)
 have hms:ms=[]:=List.eq_nil_of_length_eq_zero (by have:=congrArg List.length e1;rw [List.length_append,List.length_map,List.length_map,hl,hl'] at this;omega)
 subst hms
 have en:jat k t c u o=jat k t' c' u' o':=by
  rw [← jgp _ ha,← jgp _ ha']
  rw [e1];simp
 unfold jat at en
 unfold isB at h h'
 split at en
 ·next hk=>simp [hk] at en h h';simp [en,h,h']
 ·next hk1 =>
  split at en
  ·next hk=>simp [hk1,hk] at en h h';simp [en,h,h']
  ·next hk2 =>
   split at en
   ·next hk=>simp [hk] at en h h';simp [en,h,h']
   ·next hk4=>simp [hk1,hk2,hk4] at h
theorem qc2 {k t c u o k' t' c' u' o' err:Int} (h:isB k t c u o=true) (hu:UN (jak k (jat k t c u o)) k' t' c' u' o' err):k'=k/\t'=t/\c'=c/\u'=u/\o'=o/\err=0:=by
 rcases hu with ⟨h0,h1,h2⟩|⟨_,_,_,_,_,_,h2⟩
 ·obtain ⟨e1,e2,e3,e4,e5⟩:=ji6 h h1 h2
  exact ⟨e1.symm,e2.symm,e3.symm,e4.symm,e5.symm,h0⟩
 ·exact absurd rfl (h2 k t c u o h)
structure OpV where
 k:Int
 a:Int
 b:Int
 c:Int
 d:Int
 e:Int
 s:ByteArray
def OpV.val (o:OpV):Value:=.agg #[iv o.k,iv o.a,iv o.b,iv o.c,iv o.d,iv o.e,.string o.s]
def opAt (w:World) (b i:Nat) (o:OpV):Prop :=
 w.cell? (aq b i)=some (iv o.k)/\w.cell? (aq b (i+1))=some (iv o.a)/\w.cell? (aq b (i+2))=some (iv o.b)/\w.cell? (aq b (i+3))=some (iv o.c) ∧
 w.cell? (aq b (i+4))=some (iv o.d)/\w.cell? (aq b (i+5))=some (iv o.e)/\w.cell? (aq b (i+6))=some (.string o.s)
def rowAt (w:World) (b:Nat) (ns:List Int):Prop:=ns.length<=100/\b<w.heap.size/\∀ i,i<ns.length->w.cell? (aq b (0+i))=some (iv (ns.getD i 0))
theorem rowAt.below {w w':World} {b B:Nat} {ns:List Int} (h:rowAt w b ns) (hb:Below B w w') (hB:w.heap.size<=B):rowAt w' b ns :=
 ⟨h.1,Nat.lt_of_lt_of_le h.2.1 hb.size,fun i hi=>(hb.cell (p:=(aq b (0+i))) (Nat.lt_of_lt_of_le h.2.1 hB)).trans (h.2.2 i hi)⟩
theorem opAt.below {w w':World} {b i B:Nat} {o:OpV} (h:opAt w b i o) (hb:Below B w w') (hB:b<B):opAt w' b i o:=by
 obtain ⟨h0,h1,h2,h3,h4,h5,h6⟩:=h
 exact ⟨(hb.cell (p:=(aq b i)) hB).trans h0,(hb.cell (p:=(aq b (i+1))) hB).trans h1,(hb.cell (p:=(aq b (i+2))) hB).trans h2,(hb.cell (p:=(aq b (i+3))) hB).trans h3,(hb.cell (p:=(aq b (i+4))) hB).trans h4,(hb.cell (p:=(aq b (i+5))) hB).trans h5,(hb.cell (p:=(aq b (i+6))) hB).trans h6⟩
theorem jho (a:Option Addr) (len cap:Nat) (ts:List (Int × Int)) (w:World) (h:tiersAt w a len cap ts) :
 Calls Tryz.prog 91 #[.slice a len cap] w fun e w'=>e=.returned (.bool (jbg ts))/\Below w.heap.size w w':=by
 obtain ⟨hl,hlc,hm,hn,hc⟩:=h
 by_cases h1:len<1
 ·have HN:Hid (jbg ts=false):=je9 (by omega)
  have hd1:decide ((len:Int)<1)=true:=by simp;omega
  go_enter Tryz.func91,Tryz.ntmps91
  go_wp2
  go_ret
  exact ⟨by rw [HN.out];rfl,Below.refl _ _⟩
 by_cases h4:4<len
 ·have HN:Hid (jbg ts=false):=je9 (by omega)
  have hd1:decide ((len:Int)<1)=false:=by simp;omega
  have hd4:decide (4<(len:Int))=true:=by simp;omega
  go_enter Tryz.func91,Tryz.ntmps91
  go_wp2
  go_ret
  exact ⟨by rw [HN.out];rfl,Below.refl _ _⟩
 ·obtain ⟨b,off,rfl,_,hcell⟩:=hc (fun e=>by rw [e] at hl;simp at hl;omega)
  exact jlv b off len cap ts w hl (by omega) (by omega) hcell
theorem jg9 (b:Nat) (n0 n1 n2 n3 n4 n5 n6:Int) (w:World) (h0:w.cell? (aq b 0)=some (iv n0)) (h1:w.cell? (aq b 1)=some (iv n1)) (h2:w.cell? (aq b 2)=some (iv n2)) (h3:w.cell? (aq b 3)=some (iv n3)) (h4:w.cell? (aq b 4)=some (iv n4)) (h5:w.cell? (aq b 5)=some (iv n5)) (h6:w.cell? (aq b 6)=some (iv n6)) :
 Calls Tryz.prog 90 #[.slice (some (aq b 0)) 7 7] w fun e w'=>e=.returned (.bool ([n0,n1,n2,n3,n4,n5,n6].all jby))/\w=w' :=
 jf3 b 0 7 [n0,n1,n2,n3,n4,n5,n6] w (by simp) (fun i hi=>by
  match i,hi with
  | 0,_=>simpa using h0
  | 1,_=>simpa using h1
  | 2,_=>simpa using h2
  | 3,_=>simpa using h3
  | 4,_=>simpa using h4
  | 5,_=>simpa using h5
  | 6,_=>simpa using h6)
def jgk (ns:List Int) (ts:List (Int × Int)):Bool:=ns.all jby && jbg ts
def juu (b:Bool):Int:=if b then 0 else 1
theorem jps (n0 n1 n2 n3 n4 n5 n6:Int) (a:Option Addr) (len cap:Nat) (ts:List (Int × Int)) (w:World) (h:tiersAt w a len cap ts) :
 Calls Tryz.prog 54 #[.agg #[iv n0,iv n1,iv n2,iv n3,iv n4,iv n5,iv n6,.slice a len cap]] w fun e w'=>e=.returned (iv (juu (jgk [n0,n1,n2,n3,n4,n5,n6] ts)))/\Below w.heap.size w w':=by
 have HT:Hid (tiersAt w a len cap ts):=h
 clear h
 by_cases hn:[n0,n1,n2,n3,n4,n5,n6].all jby=true
 ·have HN:Hid ([n0,n1,n2,n3,n4,n5,n6].all jby=true):=hn
  clear hn
  by_cases hp:jbg ts=true
  ·have HP:Hid (jbg ts=true):=hp
   have HE:Hid (juu (jgk [n0,n1,n2,n3,n4,n5,n6] ts)=0):=by unfold Hid jgk;rw [HN.out,hp];rfl
   clear hp
   go_enter Tryz.func54,Tryz.ntmps54
   go_wp2_with (first
    | (go_at_call 90;refine (jg9 _ n0 n1 n2 n3 n4 n5 n6 _ (by simp [go_sem]) (by simp [go_sem]) (by simp [go_sem]) (by simp [go_sem]) (by simp [go_sem]) (by simp [go_sem]) (by simp [go_sem])).mono ?_;rintro e w' ⟨rfl,rfl⟩;rw [HN.out])
    | (go_at_call 91;refine (jho a len cap ts _ (HT.out.below (B:=w.heap.size) bL (Nat.le_refl _))).mono ?_;rintro e w2 ⟨rfl,b2⟩;rw [HP.out]))
   go_ret
   exact ⟨by rw [HE.out];rfl,Below.trans bL (b2.mono (by simp<;>omega))⟩
  ·have HP:Hid (jbg ts=false):=by unfold Hid;simpa using hp
   have HE:Hid (juu (jgk [n0,n1,n2,n3,n4,n5,n6] ts)=1):=by unfold Hid jgk;rw [HN.out,HP.out];rfl
   clear hp
   go_enter Tryz.func54,Tryz.ntmps54
   go_wp2_with (first
    | (go_at_call 90;refine (jg9 _ n0 n1 n2 n3 n4 n5 n6 _ (by simp [go_sem]) (by simp [go_sem]) (by simp [go_sem]) (by simp [go_sem]) (by simp [go_sem]) (by simp [go_sem]) (by simp [go_sem])).mono ?_;rintro e w' ⟨rfl,rfl⟩;rw [HN.out])
    | (go_at_call 91;refine (jho a len cap ts _ (HT.out.below (B:=w.heap.size) bL (Nat.le_refl _))).mono ?_;rintro e w2 ⟨rfl,b2⟩;rw [HP.out]))
   go_ret
   exact ⟨by rw [HE.out];rfl,Below.trans bL (b2.mono (by simp<;>omega))⟩
 ·have HN:Hid ([n0,n1,n2,n3,n4,n5,n6].all jby=false):=by unfold Hid;simpa using hn
  have HE:Hid (juu (jgk [n0,n1,n2,n3,n4,n5,n6] ts)=1):=by unfold Hid jgk;rw [HN.out];rfl
  clear hn
  go_enter Tryz.func54,Tryz.ntmps54
  go_wp2_with (go_at_call 90;refine (jg9 _ n0 n1 n2 n3 n4 n5 n6 _ (by simp [go_sem]) (by simp [go_sem]) (by simp [go_sem]) (by simp [go_sem]) (by simp [go_sem]) (by simp [go_sem]) (by simp [go_sem])).mono ?_;rintro e w' ⟨rfl,rfl⟩;rw [HN.out])
  go_ret
  exact ⟨by rw [HE.out];rfl,bL⟩
theorem jq0 (b off len cap k:Nat) (ts:List (Int × Int)) (w:World) (hlt:k<len) (h4:len<=4)
 (hcell:∀ i,i<len->w.cell? (aq b (off+i * 2))=some (iv (ts.getD i (0,0)).1)/\w.cell? (aq b (off+i * 2+1))=some (iv (ts.getD i (0,0)).2)) :
 Calls Tryz.prog 93 #[.slice (some (aq b off)) len cap,iv k] w fun e w'=>e=.returned (.bool (jdt ts k))/\Below w.heap.size w w':=by
 have hcf:=(hcell k hlt).1
 have hcc:=(hcell k hlt).2
 have hbw:b<w.heap.size:=World.block_lt_of_cell? w _ hcf
 generalize hf:(ts.getD k (0,0)).1=f at hcf
 generalize hc:(ts.getD k (0,0)).2=c at hcc
 have HF:Hid ((ts.getD k (0,0)).1=f):=hf
 have HC:Hid ((ts.getD k (0,0)).2=c):=hc
 clear hf hc
 by_cases b1:1<=c
 ·have d1:decide (c<1)=false:=by simp;omega
  by_cases b2:c<=1073741824
  ·have d2:decide (1073741824<c)=false:=by simp;omega
   by_cases b3:f<=4294967296
   ·have d3:decide (4294967296<f)=false:=by simp;omega
    by_cases hk0:k=0
    ·subst hk0
     have HT:Hid (jdt ts 0=(f==0)):=jjf HF.out HC.out b1 b2 b3
     simp only [Nat.zero_mul,Nat.add_zero] at hcf hcc
     have hpos:(0:Int)<(len:Int):=by omega
     clear hcell
     go_enter Tryz.func93,Tryz.ntmps93
     go_wp2
     go_ret
     exact ⟨by rw [HT.out];rfl,bL⟩
    ·obtain ⟨m,rfl⟩:∃ m,k=m+1:=⟨k - 1,by omega⟩
     have hcq:=(hcell m (by omega)).1
     generalize hq:(ts.getD m (0,0)).1=q at hcq
     have HT:Hid (jdt ts (m+1)=decide (q<f)):=jmg hk0 HF.out HC.out hq b1 b2 b3
     have hkp:(((m:Int)+1)==0)=false:=by simp;omega
     clear hq hcell
     go_enter Tryz.func93,Tryz.ntmps93
     go_wp2
     go_quiet (fail)
     go_wp2
     go_ret
     exact ⟨by rw [HT.out];rfl,jae ((Below.refl _ _).alloc (Nat.le_refl _) _)⟩
   ·have d3:decide (4294967296<f)=true:=by simp;omega
    have HT:Hid (jdt ts k=false):=jfk HF.out HC.out (.inr (.inr (by omega)))
    clear hcell
    go_enter Tryz.func93,Tryz.ntmps93
    go_wp2
    go_ret
    exact ⟨by rw [HT.out];rfl,bL⟩
  ·have d2:decide (1073741824<c)=true:=by simp;omega
   have HT:Hid (jdt ts k=false):=jfk HF.out HC.out (.inr (.inl (by omega)))
   clear hcell
   go_enter Tryz.func93,Tryz.ntmps93
   go_wp2
   go_ret
   exact ⟨by rw [HT.out];rfl,bL⟩
 ·have d1:decide (c<1)=true:=by simp;omega
  have HT:Hid (jdt ts k=false):=jfk HF.out HC.out (.inl (by omega))
  clear hcell
  go_enter Tryz.func93,Tryz.ntmps93
  go_wp2
  go_ret
  exact ⟨by rw [HT.out];rfl,bL⟩
section
open Go.ChangeShapes Go.WideShapes Go.ChangeAt Go.RowKit
def wOK {H:Type} (t:TypeId) (d:DataW H):Prop:=∀ x∈DataW.weights Tryz.prog t d,x<=reachBytes
theorem jgz {H:Type} {P:Program} {e:TypeId} {d:DataW H} {n:Nat} (hn:n∈d.weights P e):∀ (el:List (DataW H)),d∈el->n∈DataW.weightsAll P e el
 | [],h=>by simp at h
 | d' :: el,h=>by
   simp only [DataW.weightsAll,List.mem_append]
   rcases List.mem_cons.1 h with rfl|h
   ·exact .inl hn
   ·exact .inr (jgz hn el h)
theorem jx9 {H:Type} {t e:TypeId} {el sp:List (DataW H)} (hu:Tryz.prog.underlying t=some (.slice e)) (h:wOK t (.slice el sp)):(el.length+sp.length) * Tryz.prog.bytesOf e<=reachBytes/\∀ d∈el,wOK e d:=by
 unfold wOK at h
 simp only [DataW.weights,hu] at h
 exact ⟨h _ (by simp),fun d hd x hx=>h x (by simp [jgz hx el hd])⟩
theorem jxc {H:Type} {t:TypeId} {fs:Array Field} {parts:List (DataW H)} (hu:Tryz.prog.underlying t=some (.struct fs)) (h:wOK t (.agg parts)) {i:Nat} {f:Field} {d:DataW H} (hf:fs[i]?=some f) (hd:parts[i]?=some d):wOK f.type d:=by
 unfold wOK at h
 simp only [DataW.weights,hu] at h
 exact fun x hx=>h x (DataW.weights_mem_each (j:=i) (by simp [hf]) hd x hx)
theorem jpj {H:Type} {enc:TypeId × Value->H} {w:World} {held:Bool} {t e:TypeId} {fs:Array Field} {c fuel:Nat} {a:Option Addr} {len cap:Nat} {x:DataW H × List MemPlace}
 (ht:Tryz.prog.underlying t=some (.slice e)) (he:Tryz.prog.underlying e=some (.struct fs)) (hc:Tryz.prog.cellsOf e=c) (h:DataW.trod enc Tryz.prog w 0 (fun _=>true) held fuel t [.slice a len cap]=some x) (hw:wOK t x.1) :
 (a=none/\len=0/\cap=0)\/∃ ad,a=some ad/\len<=cap/\cap * Tryz.prog.bytesOf e<=reachBytes/\∀ i,i<len->∃ (cs:List Value) (xs:List (DataW H × List MemPlace)) (n:Nat),
   cs.length=c/\(∀ j,j<c->w.cell? (ad.add (i * c+j))=cs[j]?)/\xs.length=fs.size ∧
   (∀ (k:Nat) (f:Field),fs[k]?=some f->DataW.trod enc Tryz.prog w 0 (fun _=>true) held n f.type ((cs.drop f.offset).take (Tryz.prog.cellsOf f.type))=xs[k]?)/\(∀ (k:Nat) (f:Field) y,fs[k]?=some f->xs[k]?=some y->wOK f.type y.1):=by
 rcases DataW.trod_slice ht h with ⟨hcs,_⟩|⟨ad,l,cp,elems,rest,n,_,hcs,hx,_,hlc,_,hel,hcell,hsp,_⟩
 ·simp at hcs
  exact .inl hcs
 ·simp at hcs
  obtain ⟨rfl,rfl,rfl⟩:=hcs
  subst hx
  obtain ⟨hb,hwe⟩:=jx9 ht hw
  simp only [List.length_map] at hb
  have hr:=(hsp rfl).1
  rw [hel,hr,show len+(cap - len)=cap by omega] at hb
  refine .inr ⟨ad,rfl,hlc,hb,fun i hi=>?_⟩
  have h1:=hcell i hi
  rw [hc,List.getElem?_eq_getElem (by omega:i<elems.length)] at h1
  obtain ⟨cs,hcs,htr⟩:=Option.bind_eq_some_iff.1 h1
  obtain ⟨_,hcl,hcc⟩:=World.cells?_some hcs
  obtain ⟨xs,m,_,hy,_,hxl,hxf⟩:=DataW.trod_struct he htr
  refine ⟨cs,xs,m,hcl,fun j hj=>?_,hxl,hxf,fun k f y hf hy'=>?_⟩
  ·rw [← Deep.add_add];exact hcc j hj
  ·have hwi:=hwe elems[i].1 (List.mem_map.2 ⟨elems[i],List.getElem_mem _,rfl⟩)
   rw [hy] at hwi
   exact jxc he hwi hf (by simp [hy'])
theorem jz1 {cs:List Value} {k:Nat} (h:k<cs.length):(cs.drop k).take 1=[cs[k]]:=by
 rw [List.drop_eq_getElem_cons h];rfl
theorem jbx {H:Type} {enc:TypeId × Value->H} {w:World} {held:Bool} {n:Nat} {cs:List Value} {k:Nat} {y:Option (DataW H × List MemPlace)} (hk:k<cs.length)
 (h:DataW.trod enc Tryz.prog w 0 (fun _=>true) held n 3 ((cs.drop k).take (Tryz.prog.cellsOf 3))=y) (hy:y.isSome=true):∃ m:Int,cs[k]?=some (iv m)/\(-9223372036854775808<=m/\m<=9223372036854775807):=by
 obtain ⟨z,rfl⟩:=Option.isSome_iff_exists.1 hy
 rw [Tryz.cellsInt,jz1 hk] at h
 obtain ⟨m,e,_,hm⟩:=DataW.trod_int Tryz.underlying3 h
 simp at e
 have hb:=bounds_i64 hm
 exact ⟨m,by rw [List.getElem?_eq_getElem hk,e],hb.1,hb.2⟩
theorem jbz {α:Type} {xs:List α} {i n:Nat} (h:xs.length=n) (hi:i<n):(xs[i]?).isSome=true:=by
 rw [List.getElem?_eq_getElem (by omega)];rfl
theorem jn2 {w:World} {ad:Addr} {v:Value} (h:w.cell? (ad.add 0)=some v):∃ b off,ad=(aq b off):=by
 obtain ⟨b,off,spot⟩:=ad
 have hs:=World.cell?_spot h
 cases spot with
 | none=>exact ⟨b,off,rfl⟩
 | some s=>simp [Addr.add] at hs
theorem jsm {α:Type} (f:Nat->α) (d:α) {i len:Nat} (h:i<len):((List.range len).map f).getD i d=f i:=by simp [List.getD,h]
end
section
open Go.ChangeShapes Go.WideShapes Go.ChangeAt Go.RowKit
theorem Tryz.cellsCfg:Tryz.prog.cellsOf 29=8:=by kernel_rfl
theorem Tryz.cellsTier:Tryz.prog.cellsOf 137=2:=by kernel_rfl
theorem Tryz.cellsTiers:Tryz.prog.cellsOf 27=1:=by kernel_rfl
theorem Tryz.bytesTier:Tryz.prog.bytesOf 137=16:=by kernel_rfl
theorem jtg {H:Type} {enc:TypeId × Value->H} {w:World} {held:Bool} {fuel:Nat} {a:Option Addr} {len cap:Nat} {x:DataW H × List MemPlace}
 (h:DataW.trod enc Tryz.prog w 0 (fun _=>true) held fuel 27 [.slice a len cap]=some x) (hw:wOK 27 x.1):∃ ts,tiersAt w a len cap ts/\len * 16<=140737488351232:=by
 rcases jpj Tryz.underlying27 Tryz.underlying137 Tryz.cellsTier h hw with ⟨rfl,rfl,rfl⟩|⟨ad,rfl,hlc,hb,hrow⟩
 ·exact ⟨[],⟨rfl,Nat.le_refl _,by omega,fun _=>⟨rfl,rfl⟩,fun h=>absurd rfl h⟩,by omega⟩
 ·rw [Tryz.bytesTier] at hb
  simp only [reachBytes] at hb
  by_cases h0:len=0
  ·subst h0
   exact ⟨[],⟨rfl,hlc,by omega,fun h=>by simp at h,fun h=>absurd rfl h⟩,by omega⟩
  obtain ⟨b,off,rfl⟩:∃ b off,ad=(aq b off):=by
   obtain ⟨cs,xs,n,hcl,hcc,_⟩:=hrow 0 (by omega)
   have:=hcc 0 (by omega)
   rw [List.getElem?_eq_getElem (by omega)] at this
   exact jn2 (by simpa using this)
  have hall:∀ i,i<len->∃ q:Int × Int,w.cell? (aq b (off+i * 2))=some (iv q.1)/\w.cell? (aq b (off+i * 2+1))=some (iv q.2):=by
   intro i hi
   obtain ⟨cs,xs,n,hcl,hcc,hxl,hf,_⟩:=hrow i hi
   have hxl':xs.length=2:=hxl
   obtain ⟨f',e0,_⟩:=jbx (k:=0) (by omega) (hf 0 _ rfl) (jbz hxl' (by omega))
   obtain ⟨c',e1,_⟩:=jbx (k:=1) (by omega) (hf 1 _ rfl) (jbz hxl' (by omega))
   have hc:∀ j,j<2->w.cell? (aq b (off+i * 2+j))=cs[j]?:=fun j hj=>by rw [← hcc j hj,Addr.add_lit,Nat.add_assoc]
   exact ⟨(f',c'),(hc 0 (by omega)).trans e0,(hc 1 (by omega)).trans e1⟩
  obtain ⟨f,hff⟩:=@Deep.choose_lt (Int × Int) ⟨(0,0)⟩ _ _ hall
  refine ⟨(List.range len).map f,⟨by simp,hlc,by omega,fun h=>by simp at h,fun _=>⟨b,off,rfl,World.block_lt_of_cell? w _ (hff 0 (by omega)).1,fun i hi=>?_⟩⟩,by omega⟩
  rw [jsm f (0,0) hi];exact hff i hi
end
end Go.Proofs.YtfhncfghblkgeaaGreat
