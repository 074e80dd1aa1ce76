import Derived.Test.YtfhncfghblkgeabGreatL09
import Derived.Test.YtfhncfghblkgeabGreatL13
set_option maxRecDepth 100000
set_option maxHeartbeats 2000000
namespace Go.Proofs.YtfhncfghblkgeabGreat
open Go.RowKit
theorem Lo {PW:World->Nat->(Nat->Prop)->Int->List (Int × Int)->Prop} {w W0 w':World} {P B R x:Nat} {own:Nat->Prop} {c0 c1 c2 c3 vd v:Value} {Ld:List Value} {now:Int} {L:List (Int × Int)} (hb:Bl w W0) (h:fI PW W0 w' P B R x own c0 c1 c2 c3 vd v Ld now L):fI PW w w' P B R x own c0 c1 c2 c3 vd v Ld now L:=by
 obtain ⟨m,vd',v',own',h1,h2,h3,h4,h5,h6,h7,h8,h9,h10,h11,h12⟩:=h
 have z:=hb.size
 exact ⟨m,vd',v',own',h1,h2,h3,h4,h5,Same.trans (Same.of_below (own:=fun _=>False) hb) h6 (fun k _ e=>e.elim False.elim id),fun k hk=>(h7 k hk).imp id uO,fun k hk=>(h8 k hk).imp id uO,fun k hk=>(h9 k hk).imp id uO,fun k hk=>⟨by have:=(h10 k hk).1;omega,(h10 k hk).2⟩,h11,h12⟩
theorem wZ {PW:World->Nat->(Nat->Prop)->Int->List (Int × Int)->Prop} (T:TimersAll PW) (P B R x rt n cap:Nat) (c0 c1 c3 vd:Value) (Ld:List Value) (own:Nat->Prop) (v:Value) (now:Int) (L:List (Int × Int)) (o:OpV) (w:World) (hk:o.k=9) (ho:-9223372036854775808<=o.a/\o.a<=9223372036854775807)
 (hw:w.heap[P]?=some (.cells #[c0,c1,.slice (some (aq rt 0)) n cap,c3,vd] 81)) (hd:w.ownsRow (P+1) 121 1 vd Ld.length Ld) (n1:¬ own P) (n2:∀ k,vd.ownBlock=some k->¬ own k) (hld:Ld.length * 64<=140737488351232) (hn:0<n) (hn':n<4611686018427387904) (hx:w.cell? (aq rt (zZ o.a n * 2))=some (pt x 0)) (hR:w.cell? (aq rt (zZ o.a n * 2+1))=some (pt R 0))
 (hp:PW w x own now L) (hr:fC w B R now v L) (ha:apart R v own) (hB:B<=w.heap.size) (hl:L.length * 16+16<=140737488351232) :
 Ca 50 #[pt P 0,o.val] w fun e w'=>e=.returned (.bool true)/\fI PW w w' P B R x own c0 c1 (.slice (some (aq rt 0)) n cap) c3 vd v Ld (aT now o.b) (mU now o.b L):=by
 obtain ⟨_,_,h2,_,_⟩:=yD hw
 obtain ⟨k,oa,ob,oc,od,oe,os⟩:=o
 simp only at hk ho hx hR
 subst hk
 unfold OpV.val
 simp only
 have hpw:P<w.heap.size:=uC w _ h2
 have hrw:rt<w.heap.size:=uC w _ hx
 have HIN:Hid (PW w x own now L/\fC w B R now v L/\apart R v own):=⟨hp,hr,ha⟩
 have hlen:((n:Int)==0)=false:=by simp;omega
 have hr':zZ oa n<n:=vX oa hn
 have HPK:Hid (∀ w':World,Ca 51 #[iv oa,iv n] w' fun e w2=>e=.returned (iv (zZ oa n))/\w'=w2):=fun w'=>dS oa n w' ho hn hn'
 generalize zZ oa n=r at hr' HPK hx hR
 have HCALL:Hid (∀ W0,Below w.heap.size w W0->Ca 85 #[pt P 0,.agg #[pt x 0,pt R 0],iv ob] W0 fun e w1=>e=.returned (.bool true)/\fI PW w w1 P B R x own c0 c1 (.slice (some (aq rt 0)) n cap) c3 vd v Ld (aT now ob) (mU now ob L)):=by
  intro W0 hb
  have hs0:Same (fun _=>False) w W0:=Same.of_below hb
  refine (Kc T.toTimers P B R x own c0 c1 _ c3 vd v Ld now ob L W0 ((hb.block P hpw).trans hw) (qH hd hb (uA _)) (T.keep hp hb.size (fun k hk=>hb.block k (T.lt hp k hk))) (rY hr hs0 ⟨id,fun _ _=>id⟩) (uX hB hb.size) hl hld n1 n2 ha.1 ha.2).mono ?_
  rintro e w1 ⟨rfl,h1⟩
  exact ⟨rfl,Lo hb h1⟩
 clear hp hr ha hw hd n1 n2 HIN
 go_enter Tryz.func50,Tryz.ntmps50
 go_wp2_with fail
 have hrn:(r:Int)<(n:Int):=uO
 go_region_held3 (fun w'=>w'.cell? (aq P 2)=some (.slice (some (aq rt 0)) n cap)/\w'.cell? (aq w.heap.size 1)=some (iv oa)/\w'.cell? (aq rt (r * 2))=some (pt x 0)/\w'.cell? (aq rt (r * 2+1))=some (pt R 0)) (simp [go_sem, *])
  (first
    | (go_at_call 51;refine (HPK.out _).mono ?_;rintro e w' ⟨rfl,rfl⟩))
 all_goals
  go_wp2_with fail
  refine (HCALL.out _ bL).mono ?_
  rintro e w1 ⟨rfl,h1⟩
  have H1:Hid (fI PW w w1 P B R x own c0 c1 (.slice (some (aq rt 0)) n cap) c3 vd v Ld (aT now ob) (mU now ob L)):=h1
  clear h1
  go_wp2
  go_ret
  exact ⟨rfl,H1.out⟩
section
open Go.ChangeShapes Go.WideShapes Go.ChangeAt Go.RowKit
theorem own:ownKnob Tryz.prog.godebug=none:=by kernel_rfl
theorem To:laidOutB Tryz.prog=true:=by kernel_rfl
theorem Tryz.cellsInt:Tryz.prog.cellsOf 3=1:=by kernel_rfl
end
section
open Go.ChangeShapes Go.WideShapes Go.ChangeAt Go.RowKit
def QI {H:Type} (t:TypeId) (d:DataW H):Prop:=∀ x∈DataW.weights Tryz.prog t d,x<=reachBytes
theorem mY {H:Type} {P:Program} {e:TypeId} {d:DataW H} {n:Nat} (hn:n∈d.weights P e):∀ (el:List (DataW H)),d∈el->n∈DataW.weightsAll P e el
 | [],h=>by simp at h
 | d' :: el,h=>by
   simp only [DataW.weightsAll,List.mem_append]
   rcases List.mem_cons.1 h with rfl|h
   ·exact .inl hn
   ·exact .inr (mY hn el h)
theorem My {H:Type} {t e:TypeId} {el sp:List (DataW H)} (hu:Tryz.prog.underlying t=some (.slice e)) (h:QI t (.slice el sp)):(el.length+sp.length) * Tryz.prog.bytesOf e<=reachBytes/\∀ d∈el,QI e d:=by
 unfold QI at h
 simp only [DataW.weights,hu] at h
 exact ⟨h _ vS,fun d hd x hx=>h x (by simp [mY hx el hd])⟩
theorem Ss {H:Type} {t:TypeId} {fs:Array Field} {parts:List (DataW H)} (hu:Tryz.prog.underlying t=some (.struct fs)) (h:QI t (.agg parts)) {i:Nat} {f:Field} {d:DataW H} (hf:fs[i]?=some f) (hd:parts[i]?=some d):QI f.type d:=by
 unfold QI at h
 simp only [DataW.weights,hu] at h
 exact fun x hx=>h x (DataW.weights_mem_each (j:=i) (by simp [hf]) hd x hx)
theorem eT {H:Type} {enc:TypeId × Value->H} {w:World} {held:Bool} {t e:TypeId} {fs:Array Field} {c fuel:Nat} {a:Option Addr} {len cap:Nat} {x:DataW H × List MemPlace}
 (ht:Tryz.prog.underlying t=some (.slice e)) (he:Tryz.prog.underlying e=some (.struct fs)) (hc:Tryz.prog.cellsOf e=c) (h:DataW.trod enc Tryz.prog w 0 (fun _=>true) held fuel t [.slice a len cap]=some x) (hw:QI t x.1) :
 (a=none/\len=0/\cap=0)\/∃ ad,a=some ad/\len<=cap/\cap * Tryz.prog.bytesOf e<=reachBytes/\∀ i,i<len->∃ (cs:List Value) (xs:List (DataW H × List MemPlace)) (n:Nat),
   cs.length=c/\(∀ j,j<c->w.cell? (ad.add (i * c+j))=cs[j]?)/\xs.length=fs.size ∧
   (∀ (k:Nat) (f:Field),fs[k]?=some f->DataW.trod enc Tryz.prog w 0 (fun _=>true) held n f.type ((cs.drop f.offset).take (Tryz.prog.cellsOf f.type))=xs[k]?)/\(∀ (k:Nat) (f:Field) y,fs[k]?=some f->xs[k]?=some y->QI f.type y.1):=by
 rcases DataW.trod_slice ht h with ⟨hcs,_⟩|⟨ad,l,cp,elems,rest,n,_,hcs,hx,_,hlc,_,hel,hcell,hsp,_⟩
 ·simp at hcs
  exact .inl hcs
 ·simp at hcs
  obtain ⟨rfl,rfl,rfl⟩:=hcs
  subst hx
  obtain ⟨hb,hwe⟩:=My ht hw
  simp only [List.length_map] at hb
  have hr:=(hsp rfl).1
  rw [hel,hr,show len+(cap - len)=cap by omega] at hb
  refine .inr ⟨ad,rfl,hlc,hb,fun i hi=>?_⟩
  have h1:=hcell i hi
  rw [hc,uD (by omega:i<elems.length)] at h1
  obtain ⟨cs,hcs,htr⟩:=Option.bind_eq_some_iff.1 h1
  obtain ⟨_,hcl,hcc⟩:=World.cells?_some hcs
  obtain ⟨xs,m,_,hy,_,hxl,hxf⟩:=DataW.trod_struct he htr
  refine ⟨cs,xs,m,hcl,fun j hj=>?_,hxl,hxf,fun k f y hf hy'=>?_⟩
  ·rw [← Deep.add_add];exact hcc j hj
  ·have hwi:=hwe elems[i].1 (List.mem_map.2 ⟨elems[i],List.getElem_mem _,rfl⟩)
   rw [hy] at hwi
   exact Ss he hwi hf (by simp [hy'])
theorem Zv {cs:List Value} {k:Nat} (h:k<cs.length):(cs.drop k).take 1=[cs[k]]:=by
 rw [List.drop_eq_getElem_cons h];rfl
theorem zY {H:Type} {enc:TypeId × Value->H} {w:World} {held:Bool} {n:Nat} {cs:List Value} {k:Nat} {y:Option (DataW H × List MemPlace)} (hk:k<cs.length)
 (h:DataW.trod enc Tryz.prog w 0 (fun _=>true) held n 3 ((cs.drop k).take (Tryz.prog.cellsOf 3))=y) (hy:y.isSome=true):∃ m:Int,cs[k]?=some (iv m)/\(-9223372036854775808<=m/\m<=9223372036854775807):=by
 obtain ⟨z,rfl⟩:=Option.isSome_iff_exists.1 hy
 rw [Tryz.cellsInt,Zv hk] at h
 obtain ⟨m,e,_,hm⟩:=DataW.trod_int Tryz.underlying3 h
 simp at e
 have hb:=bounds_i64 hm
 exact ⟨m,by rw [uD hk,e],hb.1,hb.2⟩
theorem xD {α:Type} {xs:List α} {i n:Nat} (h:xs.length=n) (hi:i<n):(xs[i]?).isSome=true:=by
 rw [uD uO];rfl
theorem bB {w:World} {ad:Addr} {v:Value} (h:w.cell? (ad.add 0)=some v):∃ b off,ad=(aq b off):=by
 obtain ⟨b,off,spot⟩:=ad
 have hs:=World.cell?_spot h
 cases spot with
 | none=>exact ⟨b,off,rfl⟩
 | some s=>simp [Addr.add] at hs
theorem Uz {α:Type} (f:Nat->α) (d:α) {i len:Nat} (h:i<len):((List.range len).map f).getD i d=f i:=by simp [List.getD,h]
end
section
open Go.ChangeShapes Go.WideShapes Go.ChangeAt Go.RowKit
theorem Tryz.cellsOp:Tryz.prog.cellsOf 83=7:=by kernel_rfl
theorem Tryz.cellsCfg:Tryz.prog.cellsOf 24=8:=by kernel_rfl
theorem Tryz.cellsTier:Tryz.prog.cellsOf 107=2:=by kernel_rfl
theorem Tryz.cellsStr:Tryz.prog.cellsOf 9=1:=by kernel_rfl
theorem Tryz.cellsTiers:Tryz.prog.cellsOf 22=1:=by kernel_rfl
theorem Tryz.bytesOp:Tryz.prog.bytesOf 83=64:=by kernel_rfl
theorem Tryz.bytesCfg:Tryz.prog.bytesOf 24=80:=by kernel_rfl
theorem Tryz.bytesTier:Tryz.prog.bytesOf 107=16:=by kernel_rfl
def Bo (o:OpV):Prop:=(-9223372036854775808<=o.k/\o.k<=9223372036854775807)/\(-9223372036854775808<=o.a/\o.a<=9223372036854775807)/\(-9223372036854775808<=o.b/\o.b<=9223372036854775807)/\(-9223372036854775808<=o.c/\o.c<=9223372036854775807)/\(-9223372036854775808<=o.d/\o.d<=9223372036854775807)/\(-9223372036854775808<=o.e/\o.e<=9223372036854775807)/\o.s.size<=140737488351232
theorem Nh {H:Type} {enc:TypeId × Value->H} {w:World} {held:Bool} {n:Nat} {cs:List Value} {k:Nat} {y:Option (DataW H × List MemPlace)} (hk:k<cs.length)
 (h:DataW.trod enc Tryz.prog w 0 (fun _=>true) held n 9 ((cs.drop k).take (Tryz.prog.cellsOf 9))=y) (hy:y.isSome=true) (hw:∀ z,y=some z->QI 9 z.1):∃ s:ByteArray,cs[k]?=some (.string s)/\s.size<=140737488351232:=by
 obtain ⟨z,rfl⟩:=Option.isSome_iff_exists.1 hy
 rw [Tryz.cellsStr,Zv hk] at h
 obtain ⟨s,e,hz,_⟩:=DataW.trod_string Tryz.underlying9 h
 simp at e
 have hs:=hw z rfl
 rw [hz] at hs
 have:=hs s.data.toList.length (by simp [DataW.weights])
 exact ⟨s,by rw [uD hk,e],by simpa [reachBytes] using this⟩
theorem Vn {H:Type} {enc:TypeId × Value->H} {w:World} {held:Bool} {r:Reach} {b0:Nat} {v:Value} {d:DataW H} {p:List MemPlace}
 (hv:Value.okWide Tryz.prog w r b0 52 v) (h:DataW.Trod enc Tryz.prog w 0 (fun _=>true) held 52 v d p) (hw:QI 52 d) :
 ∃ (a:Option Addr) (len cap:Nat) (ops:List OpV),v=.slice a len cap/\scriptAt w a len ops/\(∀ o∈ops,Bo o)/\len * 64<=140737488351232:=by
 obtain ⟨a,len,cap,rfl⟩:=okWide_slice Tryz.underlying52 hv
 obtain ⟨fuel,hf⟩:=h
 rcases eT Tryz.underlying52 Tryz.underlying83 Tryz.cellsOp hf hw with ⟨rfl,rfl,rfl⟩|⟨ad,rfl,hlc,hb,hrow⟩
 ·exact ⟨none,0,0,[],rfl,⟨rfl,fun h=>absurd rfl h⟩,fun o ho=>by simp at ho,uO⟩
 ·rw [Tryz.bytesOp] at hb
  have hb':len * 64<=140737488351232:=by simp only [reachBytes] at hb;omega
  by_cases h0:len=0
  ·subst h0
   exact ⟨some ad,0,cap,[],rfl,⟨rfl,fun h=>absurd rfl h⟩,fun o ho=>by simp at ho,hb'⟩
  obtain ⟨b,off,rfl⟩:∃ b off,ad=(aq b off):=by
   obtain ⟨cs,xs,n,hcl,hcc,_⟩:=hrow 0 uO
   have:=hcc 0 uO
   rw [uD uO] at this
   exact bB (by simpa using this)
  have hall:∀ i,i<len->∃ o,opAt w b (off+i * 7) o/\Bo o:=by
   intro i hi
   obtain ⟨cs,xs,n,hcl,hcc,hxl,hf,hwt⟩:=hrow i hi
   have hxl':xs.length=7:=hxl
   obtain ⟨k',e0,b0⟩:=zY (k:=0) uO (hf 0 _ rfl) (xD hxl' uO)
   obtain ⟨a',e1,b1⟩:=zY (k:=1) uO (hf 1 _ rfl) (xD hxl' uO)
   obtain ⟨b',e2,b2⟩:=zY (k:=2) uO (hf 2 _ rfl) (xD hxl' uO)
   obtain ⟨c',e3,b3⟩:=zY (k:=3) uO (hf 3 _ rfl) (xD hxl' uO)
   obtain ⟨d',e4,b4⟩:=zY (k:=4) uO (hf 4 _ rfl) (xD hxl' uO)
   obtain ⟨e',e5,b5⟩:=zY (k:=5) uO (hf 5 _ rfl) (xD hxl' uO)
   obtain ⟨s',e6,b6⟩:=Nh (k:=6) uO (hf 6 _ rfl) (xD hxl' uO) (fun z hz=>hwt 6 _ z rfl hz)
   have hc:∀ j,j<7->w.cell? (aq b (off+i * 7+j))=cs[j]?:=fun j hj=>by rw [← hcc j hj,Addr.add_lit,Nat.add_assoc]
   exact ⟨⟨k',a',b',c',d',e',s'⟩,⟨(hc 0 uO).trans e0,(hc 1 uO).trans e1,(hc 2 uO).trans e2,(hc 3 uO).trans e3,(hc 4 uO).trans e4,(hc 5 uO).trans e5,(hc 6 uO).trans e6⟩,b0,b1,b2,b3,b4,b5,b6⟩
  obtain ⟨f,hff⟩:=@Deep.choose_lt OpV ⟨QC⟩ _ _ hall
  refine ⟨some (aq b off),len,cap,(List.range len).map f,rfl,⟨by simp,fun _=>⟨b,off,rfl,?_,fun i hi=>?_⟩⟩,fun o ho=>?_,hb'⟩
  ·exact uC w _ (hff 0 uO).1.1
  ·rw [Uz f QC hi];exact (hff i hi).1
  ·obtain ⟨i,hi,rfl⟩:=List.mem_map.1 ho
   exact (hff i (List.mem_range.1 hi)).2
theorem Gl {H:Type} {enc:TypeId × Value->H} {w:World} {held:Bool} {fuel:Nat} {a:Option Addr} {len cap:Nat} {x:DataW H × List MemPlace}
 (h:DataW.trod enc Tryz.prog w 0 (fun _=>true) held fuel 22 [.slice a len cap]=some x) (hw:QI 22 x.1):∃ ts,tiersAt w a len cap ts/\len * 16<=140737488351232:=by
 rcases eT Tryz.underlying22 Tryz.underlying107 Tryz.cellsTier h hw with ⟨rfl,rfl,rfl⟩|⟨ad,rfl,hlc,hb,hrow⟩
 ·exact ⟨[],⟨rfl,uA _,uO,fun _=>⟨rfl,rfl⟩,fun h=>absurd rfl h⟩,uO⟩
 ·rw [Tryz.bytesTier] at hb
  simp only [reachBytes] at hb
  by_cases h0:len=0
  ·subst h0
   exact ⟨[],⟨rfl,hlc,uO,fun h=>by simp at h,fun h=>absurd rfl h⟩,uO⟩
  obtain ⟨b,off,rfl⟩:∃ b off,ad=(aq b off):=by
   obtain ⟨cs,xs,n,hcl,hcc,_⟩:=hrow 0 uO
   have:=hcc 0 uO
   rw [uD uO] at this
   exact bB (by simpa using this)
  have hall:∀ i,i<len->∃ q:Int × Int,w.cell? (aq b (off+i * 2))=some (iv q.1)/\w.cell? (aq b (off+i * 2+1))=some (iv q.2):=by
   intro i hi
   obtain ⟨cs,xs,n,hcl,hcc,hxl,hf,_⟩:=hrow i hi
   have hxl':xs.length=2:=hxl
   obtain ⟨f',e0,_⟩:=zY (k:=0) uO (hf 0 _ rfl) (xD hxl' uO)
   obtain ⟨c',e1,_⟩:=zY (k:=1) uO (hf 1 _ rfl) (xD hxl' uO)
   have hc:∀ j,j<2->w.cell? (aq b (off+i * 2+j))=cs[j]?:=fun j hj=>by rw [← hcc j hj,Addr.add_lit,Nat.add_assoc]
   exact ⟨(f',c'),(hc 0 uO).trans e0,(hc 1 uO).trans e1⟩
  obtain ⟨f,hff⟩:=@Deep.choose_lt (Int × Int) ⟨(0,0)⟩ _ _ hall
  refine ⟨(List.range len).map f,⟨by simp,hlc,uO,fun h=>by simp at h,fun _=>⟨b,off,rfl,uC w _ (hff 0 uO).1,fun i hi=>?_⟩⟩,uO⟩
  rw [Uz f (0,0) hi];exact hff i hi
theorem Tp {H:Type} {enc:TypeId × Value->H} {w:World} {held:Bool} {r:Reach} {b0:Nat} {v:Value} {d:DataW H} {p:List MemPlace}
 (hv:Value.okWide Tryz.prog w r b0 51 v) (h:DataW.Trod enc Tryz.prog w 0 (fun _=>true) held 51 v d p) (hw:QI 51 d) :
 ∃ (a:Option Addr) (len cap:Nat),v=.slice a len cap/\cfgsAt w a len:=by
 obtain ⟨a,len,cap,rfl⟩:=okWide_slice Tryz.underlying51 hv
 obtain ⟨fuel,hf⟩:=h
 rcases eT Tryz.underlying51 Tryz.underlying24 Tryz.cellsCfg hf hw with ⟨rfl,rfl,rfl⟩|⟨ad,rfl,hlc,hb,hrow⟩
 ·exact ⟨none,0,0,rfl,uO,fun h=>uO⟩
 ·rw [Tryz.bytesCfg] at hb
  have hb':len * 80<=140737488351232:=by simp only [reachBytes] at hb;omega
  by_cases h0:len=0
  ·subst h0
   exact ⟨some ad,0,cap,rfl,uO,fun h=>uO⟩
  obtain ⟨b,off,rfl⟩:∃ b off,ad=(aq b off):=by
   obtain ⟨cs,xs,n,hcl,hcc,_⟩:=hrow 0 uO
   have:=hcc 0 uO
   rw [uD uO] at this
   exact bB (by simpa using this)
  have hall:∀ i,i<len->cfgAt w b (off+i * 8):=by
   intro i hi
   obtain ⟨cs,xs,n,hcl,hcc,hxl,hf,hwt⟩:=hrow i hi
   have hxl':xs.length=8:=hxl
   obtain ⟨n0,e0,_⟩:=zY (k:=0) uO (hf 0 _ rfl) (xD hxl' uO)
   obtain ⟨n1,e1,_⟩:=zY (k:=1) uO (hf 1 _ rfl) (xD hxl' uO)
   obtain ⟨n2,e2,_⟩:=zY (k:=2) uO (hf 2 _ rfl) (xD hxl' uO)
   obtain ⟨n3,e3,_⟩:=zY (k:=3) uO (hf 3 _ rfl) (xD hxl' uO)
   obtain ⟨n4,e4,_⟩:=zY (k:=4) uO (hf 4 _ rfl) (xD hxl' uO)
   obtain ⟨n5,e5,_⟩:=zY (k:=5) uO (hf 5 _ rfl) (xD hxl' uO)
   obtain ⟨n6,e6,_⟩:=zY (k:=6) uO (hf 6 _ rfl) (xD hxl' uO)
   obtain ⟨z,hz⟩:=Option.isSome_iff_exists.1 (xD hxl' (show 7<8 by omega))
   have h7:DataW.trod enc Tryz.prog w 0 (fun _=>true) held n 22 ((cs.drop 7).take (Tryz.prog.cellsOf 22))=xs[7]?:=hf 7 _ rfl
   have hw7:QI 22 z.1:=hwt 7 _ z rfl hz
   rw [hz] at h7
   rw [Tryz.cellsTiers,Zv uO] at h7
   obtain ⟨a',l',c',hs⟩:∃ a l c,[cs[7]]=[Value.slice a l c]:=by
      rcases DataW.trod_slice Tryz.underlying22 h7 with ⟨hcs,_⟩|⟨ad,l,cp,_,_,_,_,hcs,_⟩
      ·exact ⟨_,_,_,hcs⟩
      ·exact ⟨_,_,_,hcs⟩
   rw [hs] at h7
   obtain ⟨ts,hts,hl16⟩:=Gl h7 hw7
   have e7:cs[7]?=some (.slice a' l' c'):=by rw [uD uO];simpa using hs
   have hc:∀ j,j<8->w.cell? (aq b (off+i * 8+j))=cs[j]?:=fun j hj=>by rw [← hcc j hj,Addr.add_lit,Nat.add_assoc]
   exact ⟨n0,n1,n2,n3,n4,n5,n6,a',l',c',ts,(hc 0 uO).trans e0,(hc 1 uO).trans e1,(hc 2 uO).trans e2,(hc 3 uO).trans e3,(hc 4 uO).trans e4,(hc 5 uO).trans e5,(hc 6 uO).trans e6,(hc 7 uO).trans e7,hts,hl16⟩
  obtain ⟨_,_,_,_,_,_,_,_,_,_,_,hc0,_⟩:=hall 0 uO
  exact ⟨some (aq b off),len,cap,rfl,hb',fun _=>⟨b,off,rfl,uC w _ hc0,hall⟩⟩
end
theorem cfgsAt.below {w w':World} {a:Option Addr} {len B:Nat} (h:cfgsAt w a len) (hb:Below B w w') (hB:w.heap.size<=B):cfgsAt w' a len :=
 ⟨h.1,fun h0=>by
   obtain ⟨b,off,ha,hbw,hc⟩:=h.2 h0
   exact ⟨b,off,ha,uB hbw hb.size,fun i hi=>(hc i hi).below hb hB (uB hbw hB)⟩⟩
theorem scriptAt.below {w w':World} {a:Option Addr} {len B:Nat} {ops:List OpV} (h:scriptAt w a len ops) (hb:Below B w w') (hB:w.heap.size<=B):scriptAt w' a len ops :=
 ⟨h.1,fun h0=>by
   obtain ⟨b,off,ha,hbw,hc⟩:=h.2 h0
   exact ⟨b,off,ha,uB hbw hb.size,fun i hi=>(hc i hi).below hb (uB hbw hB)⟩⟩
section
structure TE where
 x:Nat
 R:Nat
 own:Nat->Prop
 v:Value
 now:Int
 L:List (Int × Int)
def TE.fp (e:TE) (b:Nat):Prop:=e.own b\/b=e.R\/e.v.ownBlock=some b
def TE.cells (e:TE):List Value:=[pt e.x 0,pt e.R 0]
def lI (Es:List TE):List Value:=Es.flatMap TE.cells
theorem On:∀ {Es:List TE} {i:Nat} {e:TE},Es[i]?=some e->(lI Es)[i * 2]?=some (pt e.x 0)/\(lI Es)[i * 2+1]?=some (pt e.R 0)
 | [],_,_,h=>by simp at h
 | e0 :: Es,0,e,h=>by
   simp at h
   subst h
   exact ⟨rfl,rfl⟩
 | e0 :: Es,i+1,e,h=>by
   have:=On (Es:=Es) (i:=i) (e:=e) (by simpa using h)
   have e1:(i+1) * 2=i * 2+1+1:=uO
   rw [e1]
   exact ⟨by simpa [lI,TE.cells] using this.1,by simpa [lI,TE.cells] using this.2⟩
theorem Qp:∀ {Es:List TE} {i:Nat} {e e':TE},Es[i]?=some e->e'.x=e.x->e'.R=e.R->lI (Es.set i e')=lI Es
 | [],_,_,_,h,_,_=>by simp at h
 | e0 :: Es,0,e,e',h,hx,hR=>by
   simp at h
   subst h
   simp [lI,TE.cells,hx,hR]
 | e0 :: Es,i+1,e,e',h,hx,hR=>by
   have:=Qp (Es:=Es) (i:=i) (e:=e) (e':=e') (by simpa using h) hx hR
   simp only [List.set_cons_succ,lI,List.flatMap_cons] at this ⊢
   rw [this]
def Mf (w:World) (P j:Nat) (e:TE):Prop:=QJ w e.x e.own e.now e.L/\fC w (P+1) e.R e.now e.v e.L/\apart e.R e.v e.own/\e.L.length<=j
theorem cN {w:World} {P j:Nat} {e:TE} (h:Mf w P j e) {b:Nat} (hb:e.fp b):b<w.heap.size:=by
 rcases hb with hb|rfl|hb
 ·exact dI h.1 b hb
 ·exact (blt h.2.1.1)
 ·exact (uJ h.2.1.2 b hb).2
theorem Yb {w w':World} {P j:Nat} {e:TE} (h:Mf w P j e) (hz:w.heap.size<=w'.heap.size) (hk:∀ b,e.fp b->w'.heap[b]?=w.heap[b]?):Mf w' P (j+1) e :=
 ⟨zR h.1 hz (fun b hb=>hk b (.inl hb)),⟨(hk e.R (.inr (.inl rfl))).trans h.2.1.1,qG h.2.1.2 (fun b hb=>hk b (.inr (.inr hb)))⟩,h.2.2.1,Nat.le_succ_of_le h.2.2.2⟩
structure TS where
 Es:List TE
 vt:Value
 Ld:List Value
 vd:Value
structure invT (W:World) (ac:Option Addr) (lc cc:Nat) (c1 c3:Value) (j:Nat) (σ:TS) (w:World):Prop where
 bel:Bl W w
 world:w.heap[W.heap.size]?=some (.cells #[.slice ac lc cc,c1,σ.vt,c3,σ.vd] 81)
 ts:w.ownsRow (W.heap.size+1) 161 2 σ.vt σ.Es.length (lI σ.Es)
 dues:w.ownsRow (W.heap.size+1) 121 1 σ.vd σ.Ld.length σ.Ld
 lenE:σ.Es.length<=j
 lenD:σ.Ld.length<=j
 marks:∀ i,i<σ.Ld.length->gI w W.heap.size i (σ.Ld.getD i undef)
 ent:∀ (a:Nat) (e:TE),σ.Es[a]?=some e->Mf w W.heap.size j e
 sep:∀ (a a':Nat) (e e':TE),σ.Es[a]?=some e->σ.Es[a']?=some e'->a≠a'->∀ b,e.fp b->¬ e'.fp b
 far:∀ (a:Nat) (e:TE),σ.Es[a]?=some e->∀ b,e.fp b->W.heap.size<b/\σ.vt.ownBlock≠some b/\σ.vd.ownBlock≠some b/\∀ m∈σ.Ld,m.ownBlock≠some b
def ZP (W:World) (σ:TS) (b:Nat):Prop:=b=W.heap.size\/σ.vt.ownBlock=some b\/σ.vd.ownBlock=some b\/∃ (a:Nat) (e:TE),σ.Es[a]?=some e/\e.fp b
def Dx (σ:TS) (b:Nat):Prop:=σ.vt.ownBlock=some b\/σ.vd.ownBlock=some b\/(∃ m∈σ.Ld,m.ownBlock=some b)\/∃ (a:Nat) (e:TE),σ.Es[a]?=some e/\e.fp b
def Fv (W:World) (ac:Option Addr) (lc cc:Nat) (c1 c3:Value) (j:Nat) (σ:TS) (w w':World):Prop:=∃ σ',invT W ac lc cc c1 c3 (j+1) σ' w'/\Same (ZP W σ) w w'/\∀ b,Dx σ' b->Dx σ b\/w.heap.size<=b
theorem oC {w w':World} {P i:Nat} {v:Value} (h:gI w P i v) (hk:∀ k,v.ownBlock=some k->w'.heap[k]?=w.heap[k]?):gI w' P i v:=by
 rcases h with h|⟨g,n,h1,h2,h3,h4⟩
 ·exact .inl h
 ·exact .inr ⟨g,n,h1,h2,h3,(hk g (by rw [h1];rfl)).trans h4⟩
theorem oW {w:World} {P i k:Nat} {v:Value} (h:gI w P i v) (hk:v.ownBlock=some k):P<k/\k<w.heap.size/\∃ C,w.heap[k]?=some (.cells C 123):=by
 rcases h with h|⟨g,n,h1,h2,h3,h4⟩
 ·rw [h] at hk;simp [Value.ownBlock] at hk
 ·rw [h1] at hk
  simp [Value.ownBlock] at hk
  subst hk
  exact ⟨h3,(blt h4),_,h4⟩
theorem Ow {L:List Value} {m:Value} (h:m∈L):∃ i,i<L.length/\L.getD i undef=m:=by
 obtain ⟨i,hi,rfl⟩:=List.mem_iff_getElem.1 h
 exact ⟨i,hi,by simp [List.getD,uD hi]⟩
theorem sV {W:World} {c1 c3:Value} {ac:Option Addr} {lc cc j:Nat} {σ:TS} {w w':World} (h:invT W ac lc cc c1 c3 j σ w) (hb:Bl w w'):invT W ac lc cc c1 c3 j σ w':=by
 have hk:∀ (a:Nat) (e:TE),σ.Es[a]?=some e->∀ b,e.fp b->w'.heap[b]?=w.heap[b]?:=fun a e he b hb'=>hb.block b (cN (h.ent a e he) hb')
 refine ⟨h.bel.trans (hb.mono h.bel.size),(hb.block _ (blt h.world)).trans h.world,qH h.ts hb (uA _),qH h.dues hb (uA _),h.lenE,h.lenD,fun i hi=>oC (h.marks i hi) (fun k hk'=>hb.block k (oW (h.marks i hi) hk').2.1),fun a e he=>?_,h.sep,h.far⟩
 have:=h.ent a e he
 exact ⟨zR this.1 hb.size (fun b hb'=>hk a e he b (.inl hb')),⟨(hk a e he e.R (.inr (.inl rfl))).trans this.2.1.1,qG this.2.1.2 (fun b hb'=>hk a e he b (.inr (.inr hb')))⟩,this.2.2.1,this.2.2.2⟩
theorem Km {W:World} {c1 c3:Value} {ac:Option Addr} {lc cc j:Nat} {σ:TS} {w:World} (h:invT W ac lc cc c1 c3 j σ w):invT W ac lc cc c1 c3 (j+1) σ w :=
 ⟨h.bel,h.world,h.ts,h.dues,Nat.le_succ_of_le h.lenE,Nat.le_succ_of_le h.lenD,h.marks,fun a e he=>⟨(h.ent a e he).1,(h.ent a e he).2.1,(h.ent a e he).2.2.1,Nat.le_succ_of_le (h.ent a e he).2.2.2⟩,h.sep,h.far⟩
theorem Dt (W:World) (ac:Option Addr) (lc cc:Nat):invT W ac lc cc (.slice none 0 0) (.slice none 0 0) 0 ⟨[],.slice none 0 0,[],.slice none 0 0⟩ (W.alloc (.cells #[.slice ac lc cc,.slice none 0 0,.slice none 0 0,.slice none 0 0,.slice none 0 0] 81)) :=
 ⟨(uM _ _).alloc (uA _) _,uF W _,World.ownsRow_nil _ _ _ _,World.ownsRow_nil _ _ _ _,uA _,uA _,fun i hi=>by simp at hi,fun a e he=>by simp at he,fun a a' e e' he=>by simp at he,fun a e he=>by simp at he⟩
theorem Xz {W:World} {c1 c3:Value} {ac:Option Addr} {lc cc j i:Nat} {σ:TS} {w w':World} {e e':TE} {Ld':List Value} {vd':Value} (h:invT W ac lc cc c1 c3 j σ w) (hi:σ.Es[i]?=some e) (hx:e'.x=e.x) (hR:e'.R=e.R)
 (hw:w'.heap[W.heap.size]?=some (.cells #[.slice ac lc cc,c1,σ.vt,c3,vd'] 81)) (hd:w'.ownsRow (W.heap.size+1) 121 1 vd' Ld'.length Ld') (hld:Ld'.length<=j+1)
 (hm:∀ i,i<Ld'.length->gI w' W.heap.size i (Ld'.getD i undef)) (he:Mf w' W.heap.size (j+1) e') (hs:Same (fun b=>e.fp b\/b=W.heap.size\/σ.vd.ownBlock=some b) w w')
 (hf:∀ b,e'.fp b->e.fp b\/w.heap.size<=b) (hvd:∀ k,vd'.ownBlock=some k->σ.vd.ownBlock=some k\/w.heap.size<=k) (hmem:∀ m∈Ld',m∈σ.Ld\/∀ k,m.ownBlock=some k->w.heap.size<=k)
 (hfar:∀ b,e'.fp b->vd'.ownBlock≠some b/\∀ m∈Ld',m.ownBlock≠some b) :
 invT W ac lc cc c1 c3 (j+1) ⟨σ.Es.set i e',σ.vt,Ld',vd'⟩ w':=by
 have hP:W.heap.size<w.heap.size:=(blt h.world)
 have hil:i<σ.Es.length:=(List.getElem?_eq_some_iff.1 hi).1
 have hvt:=uJ h.ts
 have hset:∀ (a:Nat) (e2:TE),(σ.Es.set i e')[a]?=some e2->(a=i/\e2=e')\/(a≠i/\σ.Es[a]?=some e2):=by
  intro a e2 ha
  rw [List.getElem?_set] at ha
  by_cases hai:i=a
  ·rw [uQ hai,uQ hil] at ha
   exact .inl ⟨hai.symm,(Option.some.inj ha).symm⟩
  ·rw [uP hai] at ha
   exact .inr ⟨fun e=>hai e.symm,ha⟩
 have hkeep:∀ (a:Nat) (e2:TE),a≠i->σ.Es[a]?=some e2->∀ b,e2.fp b->w'.heap[b]?=w.heap[b]?:=by
  intro a e2 hai ha b hb
  have hfa:=h.far a e2 ha b hb
  exact hs.block b (cN (h.ent a e2 ha) hb) (fun c=>c.elim (fun c=>h.sep a i e2 e ha hi hai b hb c) (fun c=>c.elim (fun c=>uO) hfa.2.2.1))
 refine ⟨?_,hw,?_,hd,by simpa using Nat.le_succ_of_le h.lenE,hld,hm,?_,?_,?_⟩
 ·refine ⟨hs.os.trans h.bel.os,hs.tape.trans h.bel.tape,hs.output.trans h.bel.output,uX h.bel.size hs.size,fun b hb=>?_⟩
  rw [hs.block b uO (fun c=>c.elim (fun c=>by have:=(h.far i e hi b c).1;omega) (fun c=>c.elim (fun c=>uO) (fun c=>by have:=(uJ h.dues b c).1;omega)))]
  exact h.bel.block b hb
 ·show w'.ownsRow _ _ 2 σ.vt (σ.Es.set i e').length (lI (σ.Es.set i e'))
  rw [Qp hi hx hR,List.length_set]
  refine qG h.ts (fun k hk=>hs.block k (hvt k hk).2 (fun c=>c.elim (fun c=>(h.far i e hi k c).2.1 hk) (fun c=>c.elim (fun c=>by have:=(hvt k hk).1;omega) (fun c=>?_))))
  rcases h.dues.2 with ⟨hh,_⟩|⟨g,cp,cur,hh,_,hg,_⟩
  ·rw [hh] at c;simp [Value.ownBlock] at c
  ·rw [hh] at c
   simp [Value.ownBlock] at c
   subst c
   exact qP h.ts hg vO hk
 ·intro a e2 ha
  rcases hset a e2 ha with ⟨_,rfl⟩|⟨hai,ha⟩
  ·exact he
  ·exact Yb (h.ent a e2 ha) hs.size (hkeep a e2 hai ha)
 ·intro a a' e2 e3 ha ha' hne b hb hb'
  rcases hset a e2 ha with ⟨ea,rfl⟩|⟨hai,h2⟩<;>rcases hset a' e3 ha' with ⟨ea',rfl⟩|⟨hai',h3⟩
  ·exact hne (ea.trans ea'.symm)
  ·rcases hf b hb with c|c
   ·exact h.sep _ _ _ _ hi h3 (fun e=>hne (ea.trans e)) b c hb'
   ·have:=cN (h.ent _ _ h3) hb';omega
  ·rcases hf b hb' with c|c
   ·exact h.sep _ _ _ _ h2 hi (fun e=>hne (e.trans ea'.symm)) b hb c
   ·have:=cN (h.ent _ _ h2) hb;omega
  ·exact h.sep _ _ _ _ h2 h3 hne b hb hb'
 ·intro a e2 ha b hb
  rcases hset a e2 ha with ⟨rfl,rfl⟩|⟨hai,ha⟩
  ·refine ⟨?_,?_,(hfar b hb).1,(hfar b hb).2⟩
   ·rcases hf b hb with c|c
    ·exact (h.far _ _ hi b c).1
    ·omega
   ·rcases hf b hb with c|c
    ·exact (h.far _ _ hi b c).2.1
    ·exact fun c'=>by have:=(hvt b c').2;omega
  ·have hfa:=h.far a e2 ha b hb
   have hbl:=cN (h.ent a e2 ha) hb
   refine ⟨hfa.1,hfa.2.1,fun c=>?_,fun m hm' c=>?_⟩
   ·rcases hvd b c with c|c
    ·exact hfa.2.2.1 c
    ·omega
   ·rcases hmem m hm' with c'|c'
    ·exact hfa.2.2.2 m c' c
    ·have:=c' b c;omega
theorem Df {i:Nat} {σ:TS} {e e':TE} {Ld':List Value} {vd':Value} {n:Nat} (hi:σ.Es[i]?=some e) (hf:∀ b,e'.fp b->e.fp b\/n<=b) (hvd:∀ k,vd'.ownBlock=some k->σ.vd.ownBlock=some k\/n<=k) (hmem:∀ m∈Ld',m∈σ.Ld\/∀ k,m.ownBlock=some k->n<=k) {b:Nat} (hb:Dx ⟨σ.Es.set i e',σ.vt,Ld',vd'⟩ b):Dx σ b\/n<=b:=by
 have hil:i<σ.Es.length:=(List.getElem?_eq_some_iff.1 hi).1
 rcases hb with c|c|⟨m,hm,c⟩|⟨a,e2,ha,hb⟩
 ·exact .inl (.inl c)
 ·exact (hvd b c).imp (fun c=>.inr (.inl c)) id
 ·rcases hmem m hm with d|d
  ·exact .inl (.inr (.inr (.inl ⟨m,d,c⟩)))
  ·exact .inr (d b c)
 ·have ha':(σ.Es.set i e')[a]?=some e2:=ha
  rw [List.getElem?_set] at ha'
  by_cases hai:i=a
  ·rw [uQ hai,uQ hil] at ha'
   rw [← Option.some.inj ha'] at hb
   exact (hf b hb).imp (fun c=>.inr (.inr (.inr ⟨i,e,hi,c⟩))) id
  ·rw [uP hai] at ha'
   exact .inl (.inr (.inr (.inr ⟨a,e2,ha',hb⟩)))
theorem wF {W:World} {c1 c3 c1' c3':Value} {ac:Option Addr} {lc cc j:Nat} {σ:TS} {w w':World} (h:invT W ac lc cc c1 c3 j σ w) (hw:w'.heap[W.heap.size]?=some (.cells #[.slice ac lc cc,c1',σ.vt,c3',σ.vd] 81)) (hb:Bl W w') (hz:w.heap.size<=w'.heap.size) (hk:∀ b,Dx σ b->w'.heap[b]?=w.heap[b]?):invT W ac lc cc c1' c3' (j+1) σ w':=by
 refine ⟨hb,hw,qG h.ts (fun k e=>hk k (.inl e)),qG h.dues (fun k e=>hk k (.inr (.inl e))),Nat.le_succ_of_le h.lenE,Nat.le_succ_of_le h.lenD,fun q hq=>oC (h.marks q hq) (fun k e=>hk k (.inr (.inr (.inl ⟨_,?_,e⟩)))),fun a e he=>Yb (h.ent a e he) hz (fun b hb=>hk b (.inr (.inr (.inr ⟨a,e,he,hb⟩)))),h.sep,h.far⟩
 simp only [List.getD,uD hq,Option.getD_some]
 exact List.getElem_mem hq
theorem Mc {w:World} {B B' n n' size size':Nat} {T U:TypeId} {v v':Value} {xs xs':List Value} {k:Nat} (h:w.ownsRow B T size v n xs) (h':w.ownsRow B' U size' v' n' xs') (hT:T≠U) (hk:v.ownBlock=some k):v'.ownBlock≠some k:=by
 intro c
 rcases h'.2 with ⟨hh,_⟩|⟨g,cp,cur,hh,_,hg,_⟩
 ·rw [hh] at c;simp [Value.ownBlock] at c
 ·rw [hh] at c
  simp [Value.ownBlock] at c
  subst c
  exact qP h hg hT hk
theorem Yo {w:World} {B n size k:Nat} {T U:TypeId} {v:Value} {xs:List Value} {C:Array Value} (h:w.ownsRow B T size v n xs) (hR:w.heap[k]?=some (.cells C U)) (hT:T≠U) (hk:v.ownBlock=some k):False:=qP h hR hT hk
section
variable {W:World} {c1 c3:Value} {ac:Option Addr} {lc cc j i:Nat} {σ:TS} {w w':World} {e:TE}
theorem Zo (h:invT W ac lc cc c1 c3 j σ w) {m:Value} {k:Nat} (hm:m∈σ.Ld) (hk:m.ownBlock=some k):W.heap.size<k/\k<w.heap.size/\∃ C,w.heap[k]?=some (.cells C 123):=by
 obtain ⟨q,hq,rfl⟩:=Ow hm
 exact oW (h.marks q hq) hk
theorem tQ (h:invT W ac lc cc c1 c3 j σ w) (hi:σ.Es[i]?=some e) {L':List (Int × Int)} (hL:L'.length<=j+1) (hA:xS QJ w w' (W.heap.size+1) e.R e.x e.own e.v e.now L') :
 Fv W ac lc cc c1 c3 j σ w w':=by
 obtain ⟨own',v',hp,hr,hs,hf,hv,hd⟩:=hA
 have he:=h.ent i e hi
 have hRw:e.R<w.heap.size:=cN he (.inr (.inl rfl))
 have hP:W.heap.size<w.heap.size:=(blt h.world)
 have hfar:=h.far i e hi
 have hs':Same (fun b=>e.fp b\/b=W.heap.size\/σ.vd.ownBlock=some b) w w':=⟨hs.os,hs.tape,hs.output,hs.size,fun k hk hn=>hs.block k hk (fun c=>hn (.inl c))⟩
 have hfr:∀ b,TE.fp ⟨e.x,e.R,own',v',e.now,L'⟩ b->e.fp b\/w.heap.size<=b:=by
  rintro b (c|c|c)
  ·exact (hf b c).imp .inl id
  ·exact .inl (.inr (.inl c))
  ·exact (hv b c).imp (fun c=>.inr (.inr c)) id
 refine ⟨⟨σ.Es.set i ⟨e.x,e.R,own',v',e.now,L'⟩,σ.vt,σ.Ld,σ.vd⟩,Xz h hi rfl rfl ?_ ?_ (Nat.le_succ_of_le h.lenD) ?_ ⟨hp,hr,⟨?_,hd⟩,hL⟩ hs' hfr (fun k hk=>.inl hk) (fun m hm=>.inl hm) ?_,⟨hs.os,hs.tape,hs.output,hs.size,fun k hk hn=>hs.block k hk (fun c=>hn (.inr (.inr (.inr ⟨i,e,hi,c⟩))))⟩,fun b hb=>Df hi hfr (fun k hk=>.inl hk) (fun m hm=>.inl hm) hb⟩
 ·exact (hs.block _ hP (fun c=>by have:=(hfar _ c).1;omega)).trans h.world
 ·exact qG h.dues (fun k hk=>hs.block k (uJ h.dues k hk).2 (fun c=>(hfar k c).2.2.1 hk))
 ·intro q hq
  refine oC (h.marks q hq) (fun k hk=>hs.block k (oW (h.marks q hq) hk).2.1 (fun c=>(hfar k c).2.2.2 _ ?_ hk))
  simp only [List.getD,uD hq,Option.getD_some]
  exact List.getElem_mem hq
 ·exact fun c=>(hf e.R c).elim he.2.2.1.1 (fun c=>vB _ (uB hRw c))
 ·intro b hb
  rcases hfr b hb with c|c
  ·exact ⟨(hfar b c).2.2.1,(hfar b c).2.2.2⟩
  ·exact ⟨fun c'=>by have:=(uJ h.dues b c').2;omega,fun m hm c'=>by have:=(Zo h hm c').2.1;omega⟩
theorem Ia (h:invT W ac lc cc c1 c3 j σ w) (hi:σ.Es[i]?=some e) {now':Int} {L':List (Int × Int)} (hL:L'.length<=j+1) (hA:fI QJ w w' W.heap.size (W.heap.size+1) e.R e.x e.own (.slice ac lc cc) c1 σ.vt c3 σ.vd e.v σ.Ld now' L') :
 Fv W ac lc cc c1 c3 j σ w w':=by
 obtain ⟨m,vd',v',own',h1,h2,h3,h4,h5,h6,h7,h8,h9,h10,h11,h12⟩:=hA
 have he:=h.ent i e hi
 have hRw:e.R<w.heap.size:=cN he (.inr (.inl rfl))
 have hfar:=h.far i e hi
 have hs':Same (fun b=>e.fp b\/b=W.heap.size\/σ.vd.ownBlock=some b) w w':=⟨h6.os,h6.tape,h6.output,h6.size,fun k hk hn=>h6.block k hk (fun c=>hn (c.elim (fun c=>.inl (.inl c)) (fun c=>c.elim (fun c=>.inl (.inr (.inl c))) .inr)))⟩
 have hfr:∀ b,TE.fp ⟨e.x,e.R,own',v',now',L'⟩ b->e.fp b\/w.heap.size<=b:=by
  rintro b (c|c|c)
  ·exact (h7 b c).imp .inl id
  ·exact .inl (.inr (.inl c))
  ·exact (h8 b c).imp (fun c=>.inr (.inr c)) id
 have hin:∀ m'∈σ.Ld++[m],m'∈σ.Ld\/m'=m:=fun m' hm'=>by simpa using hm'
 refine ⟨⟨σ.Es.set i ⟨e.x,e.R,own',v',now',L'⟩,σ.vt,σ.Ld++[m],vd'⟩,Xz h hi rfl rfl h1 h2 (by simp;exact h.lenD) ?_ ⟨h4,h5,⟨?_,h11⟩,hL⟩ hs' hfr h9 (fun m' hm'=>(hin m' hm').imp id (fun (c:m'=m) k hk=>(h10 k (by rw [← c];exact hk)).1)) ?_,⟨h6.os,h6.tape,h6.output,h6.size,fun k hk hn=>h6.block k hk (fun c=>hn ?_)⟩,fun b hb=>Df hi hfr h9 (fun m' hm'=>(hin m' hm').imp id (fun (c:m'=m) k hk=>(h10 k (by rw [← c];exact hk)).1)) hb⟩
 ·intro q hq
  by_cases hql:q<σ.Ld.length
  ·have e1:(σ.Ld++[m]).getD q undef=σ.Ld.getD q undef:=by simp [List.getD,List.getElem?_append_left hql]
   have hmem:σ.Ld.getD q undef∈σ.Ld:=by
    simp only [List.getD,uD hql,Option.getD_some]
    exact List.getElem_mem hql
   rw [e1]
   refine oC (h.marks q hql) (fun k hk=>hs'.block k (oW (h.marks q hql) hk).2.1 ?_)
   obtain ⟨hk1,_,C,hC⟩:=oW (h.marks q hql) hk
   rintro (c|c|c)
   ·exact (hfar k c).2.2.2 _ hmem hk
   ·omega
   ·exact Yo h.dues hC vO c
  ·have e2:q=σ.Ld.length:=by simp at hq;omega
   subst e2
   have e1:(σ.Ld++[m]).getD σ.Ld.length undef=m:=by simp [List.getD]
   rw [e1]
   exact h3
 ·exact fun c=>(h7 e.R c).elim he.2.2.1.1 (fun c=>vB _ (uB hRw c))
 ·intro b hb
  constructor
  ·rcases hb with c|c|c
   ·exact fun c'=>h12 b c' c
   ·have c0:b=e.R:=c
    rw [c0]
    exact fun c'=>Yo h2 h5.1 vO c'
   ·exact Mc h5.2 h2 vO c
  ·intro m' hm' hk
   rcases hin m' hm' with c'|rfl
   ·have hl:=Zo h c' hk
    rcases hfr b hb with c|c
    ·exact (hfar b c).2.2.2 m' c' hk
    ·omega
   ·rcases hb with c|c|c
    ·exact (h10 b hk).2.1 c
    ·have:=(h10 b hk).1
     have c':b=e.R:=c
     omega
    ·exact (h10 b hk).2.2 c
 ·rcases c with c|c|c|c
  ·exact .inr (.inr (.inr ⟨i,e,hi,.inl c⟩))
  ·exact .inr (.inr (.inr ⟨i,e,hi,.inr (.inl c)⟩))
  ·exact .inl c
  ·exact .inr (.inr (.inl c))
theorem Gc (Es:List TE) (e:TE):lI (Es++[e])=lI Es++e.cells:=by simp [lI]
theorem Bs (h:invT W ac lc cc c1 c3 j σ w) {now:Int} (hA:sN QJ w w' W.heap.size (.slice ac lc cc) c1 σ.vt c3 σ.vd σ.Es.length (lI σ.Es) now) :
 Fv W ac lc cc c1 c3 j σ w w':=by
 obtain ⟨x,own,R,vt',h1,h2,h3,h4,h5,h6,h7,h8,h9,h10⟩:=hA
 have hP:W.heap.size<w.heap.size:=(blt h.world)
 have hvt:=uJ h.ts
 have hvd:=uJ h.dues
 have hget:∀ (a:Nat) (e2:TE),(σ.Es++[⟨x,R,own,.slice none 0 0,now,[]⟩])[a]?=some e2->(a=σ.Es.length/\e2=⟨x,R,own,.slice none 0 0,now,[]⟩)\/(a<σ.Es.length/\σ.Es[a]?=some e2):=by
  intro a e2 ha
  by_cases hal:a<σ.Es.length
  ·rw [List.getElem?_append_left hal] at ha
   exact .inr ⟨hal,ha⟩
  ·have hl:=(List.getElem?_eq_some_iff.1 ha).1
   have:a=σ.Es.length:=by simp at hl;omega
   subst this
   simp at ha
   exact .inl ⟨rfl,ha.symm⟩
 have hkeep:∀ (a:Nat) (e2:TE),σ.Es[a]?=some e2->∀ b,e2.fp b->w'.heap[b]?=w.heap[b]?:=fun a e2 ha b hb=>h5.block b (cN (h.ent a e2 ha) hb) (fun c=>c.elim (fun c=>by have:=(h.far a e2 ha b hb).1;omega) (h.far a e2 ha b hb).2.1)
 have hnew:∀ b,TE.fp ⟨x,R,own,.slice none 0 0,now,[]⟩ b->w.heap.size<=b:=by
  rintro b (c|c|c)
  ·exact h6 b c
  ·have c':b=R:=c
   omega
  ·simp [Value.ownBlock] at c
 refine ⟨⟨σ.Es++[⟨x,R,own,.slice none 0 0,now,[]⟩],vt',σ.Ld,σ.vd⟩,⟨?_,h1,?_,?_,by simp;exact h.lenE,Nat.le_succ_of_le h.lenD,?_,?_,?_,?_⟩,⟨h5.os,h5.tape,h5.output,h5.size,fun k hk hn=>h5.block k hk (fun c=>hn (c.imp id .inl))⟩,?_⟩
 ·refine ⟨h5.os.trans h.bel.os,h5.tape.trans h.bel.tape,h5.output.trans h.bel.output,uX h.bel.size h5.size,fun b hb=>?_⟩
  rw [h5.block b uO (fun c=>c.elim (fun c=>uO) (fun c=>by have:=(hvt b c).1;omega))]
  exact h.bel.block b hb
 ·show w'.ownsRow _ _ 2 vt' (σ.Es++[_]).length (lI (σ.Es++[_]))
  rw [Gc,List.length_append,List.length_singleton]
  exact h2
 ·exact qG h.dues (fun k hk=>h5.block k (hvd k hk).2 (fun c=>c.elim (fun c=>by have:=(hvd k hk).1;omega) (Mc h.dues h.ts vO hk)))
 ·intro q hq
  refine oC (h.marks q hq) (fun k hk=>?_)
  obtain ⟨hk1,hk2,C,hC⟩:=oW (h.marks q hq) hk
  exact h5.block k hk2 (fun c=>c.elim (fun c=>uO) (fun c=>Yo h.ts hC vO c))
 ·intro a e2 ha
  rcases hget a e2 ha with ⟨_,rfl⟩|⟨_,ha⟩
  ·exact ⟨h3,⟨h4.1,World.ownsRow_nil _ _ _ _⟩,⟨h8,fun k hk=>by simp [Value.ownBlock] at hk⟩,Nat.zero_le _⟩
  ·exact Yb (h.ent a e2 ha) h5.size (hkeep a e2 ha)
 ·intro a a' e2 e3 ha ha' hne b hb hb'
  rcases hget a e2 ha with ⟨ea,rfl⟩|⟨_,h2'⟩<;>rcases hget a' e3 ha' with ⟨ea',rfl⟩|⟨_,h3'⟩
  ·exact hne (ea.trans ea'.symm)
  ·have:=hnew b hb;have:=cN (h.ent _ _ h3') hb';omega
  ·have:=hnew b hb';have:=cN (h.ent _ _ h2') hb;omega
  ·exact h.sep _ _ _ _ h2' h3' hne b hb hb'
 ·intro a e2 ha b hb
  rcases hget a e2 ha with ⟨_,rfl⟩|⟨_,ha⟩
  ·have hb2:=hnew b hb
   refine ⟨uO,?_,fun c=>by have:=(hvd b c).2;omega,fun m hm c=>by have:=(Zo h hm c).2.1;omega⟩
   rcases hb with c|c|c
   ·exact fun c'=>h10 b c' c
   ·have c0:b=R:=c
    subst c0
    exact fun c'=>Yo h2 h4.1 vO c'
   ·simp [Value.ownBlock] at c
  ·have hfa:=h.far a e2 ha b hb
   refine ⟨hfa.1,fun c=>?_,hfa.2.2⟩
   rcases h9 b c with c|c
   ·exact hfa.2.1 c
   ·have:=cN (h.ent _ _ ha) hb;omega
 ·rintro b (c|c|c|⟨a,e2,ha,hb⟩)
  ·exact (h9 b c).imp .inl id
  ·exact .inl (.inr (.inl c))
  ·exact .inl (.inr (.inr (.inl c)))
  ·rcases hget a e2 ha with ⟨_,rfl⟩|⟨_,ha⟩
   ·exact .inr (hnew b hb)
   ·exact .inl (.inr (.inr (.inr ⟨a,e2,ha,hb⟩)))
theorem Rz (h:invT W ac lc cc c1 c3 j σ w) (hb:Bl w w'):Fv W ac lc cc c1 c3 j σ w w':=⟨σ,Km (sV h hb),Same.of_below hb,fun _ hb=>.inl hb⟩
end
theorem Fw (P:Nat) (o:OpV) (w:World) (hk:4<=o.k/\o.k<=9) (Q:World->Prop)
 (HT:Hid (∀ W,Below w.heap.size w W->Ca 50 #[pt P 0,o.val] W fun e w'=>e=.returned (.bool true)/\Q w')) :
 Ca 32 #[pt P 0,o.val] w fun e w'=>e=.returned (.bool true)/\Q w':=by
 obtain ⟨k,oa,ob,oc,od,oe,os⟩:=o
 simp only at hk
 unfold OpV.val at HT ⊢
 simp only at HT ⊢
 have h2:(k==2)=false:=by simp;omega
 have h3:(k==3)=false:=by simp;omega
 have h4:decide (4<=k)=true:=by simpa using hk.1
 have h9:decide (k<=9)=true:=by simpa using hk.2
 obtain ⟨hk4,hk9⟩:=hk
 go_enter Tryz.func32,Tryz.ntmps32
 go_wp2_with (go_at_call 50;refine (HT.out _ bL).mono ?_;rintro e w1 ⟨rfl,hq⟩)
 go_ret
 exact ⟨rfl,hq⟩
theorem Sg {w:World} {B g n cap:Nat} {Es:List TE} (h:w.ownsRow B 161 2 (.slice (some (aq g 0)) n cap) n (lI Es)) {i:Nat} {e:TE} (hi:Es[i]?=some e) :
 w.cell? (aq g (i * 2))=some (pt e.x 0)/\w.cell? (aq g (i * 2+1))=some (pt e.R 0):=by
 have hf:=On hi
 have c0:=h.cells (g:=g) rfl _ _ hf.1
 have c1:=h.cells (g:=g) rfl _ _ hf.2
 rw [Addr.add_lit,Nat.zero_add] at c0 c1
 exact ⟨c0,c1⟩
theorem Ty {W:World} {c1 c3:Value} {ac:Option Addr} {lc cc j:Nat} {σ:TS} {w:World} (h:invT W ac lc cc c1 c3 j σ w) (o:OpV) (hk:4<=o.k/\o.k<=9) (ho:Bo o) (hj:j * 64+64<=140737488351232) :
 Ca 50 #[pt W.heap.size 0,o.val] w fun e w'=>e=.returned (.bool true)/\Fv W ac lc cc c1 c3 j σ w w':=by
 have hlE:=h.lenE
 have hlD:=h.lenD
 have hP:W.heap.size<w.heap.size:=(blt h.world)
 by_cases hk4:o.k=4
 ·exact (Nt timersW W.heap.size σ.Es.length _ _ σ.vt _ σ.vd (lI σ.Es) o w hk4 h.world h.ts uO).mono (by rintro e w' ⟨rfl,A⟩;exact ⟨rfl,Bs h A⟩)
 ·have h2:w.cell? (aq W.heap.size 2)=some σ.vt:=cB h.world
  by_cases hne:σ.Es.length=0
  ·obtain ⟨a,c,hv⟩:=yE h.ts
   rw [hne] at hv
   exact (Gq W.heap.size o w a c uO (by rw [h2,hv])).mono (by rintro e w' ⟨rfl,b⟩;exact ⟨rfl,Rz h b⟩)
  ·have hpos:0<σ.Es.length:=uO
   have hpick:=vX o.a hpos
   obtain ⟨rt,cap,hvt⟩:∃ rt cap,σ.vt=.slice (some (aq rt 0)) σ.Es.length cap:=by
    rcases h.ts.2 with ⟨_,h0⟩|⟨g,c,cur,hv,_⟩
    ·omega
    ·exact ⟨g,c,hv⟩
   have hi:σ.Es[zZ o.a σ.Es.length]?=some σ.Es[zZ o.a σ.Es.length]:=uD hpick
   generalize σ.Es[zZ o.a σ.Es.length]=e at hi
   have he:=h.ent _ e hi
   have hts:=h.ts
   rw [hvt] at hts h2
   obtain ⟨c0,c1⟩:=Sg hts hi
   have hL:=he.2.2.2
   have hfar:=h.far _ e hi
   by_cases h5:o.k=5
   ·exact (Mj timersW W.heap.size (W.heap.size+1) e.R e.x rt σ.Es.length cap e.own e.v e.now e.L o w h5 ho.2.1 h2 hpos uO c0 c1 he.1 he.2.1 he.2.2.1 hP uO).mono (by rintro _ w' ⟨rfl,A⟩;exact ⟨rfl,tQ h hi (by have:=Eu e.now e.L o.b o.c;omega) A⟩)
   by_cases h6:o.k=6
   ·exact (Ko timersW W.heap.size (W.heap.size+1) e.R e.x rt σ.Es.length cap e.own e.v e.now e.L o w h6 ho.2.1 h2 hpos uO c0 c1 he.1 he.2.1 he.2.2.1 hP uO).mono (by rintro _ w' ⟨rfl,A⟩;exact ⟨rfl,tQ h hi (by have:=aD e.L o.b;omega) A⟩)
   by_cases h7:o.k=7
   ·exact (Kw timersW W.heap.size (W.heap.size+1) e.R e.x rt σ.Es.length cap e.own e.v e.now e.L o w h7 ho.2.1 h2 hpos uO c0 c1 he.1 he.2.1 he.2.2.1 hP uO).mono (by rintro _ w' ⟨rfl,A⟩;exact ⟨rfl,tQ h hi uO A⟩)
   by_cases h8:o.k=8
   ·exact (Fz timersW W.heap.size (W.heap.size+1) e.R e.x rt σ.Es.length cap e.own e.v e.now e.L o w h8 ho.2.1 h2 hpos uO c0 c1 he.1 he.2.1 he.2.2.1 hP uO).mono (by rintro _ w' ⟨rfl,A⟩;exact ⟨rfl,tQ h hi uO A⟩)
   ·have h9:o.k=9:=uO
    have hw:=h.world
    rw [hvt] at hw
    refine (wZ timersW W.heap.size (W.heap.size+1) e.R e.x rt σ.Es.length cap _ _ _ σ.vd σ.Ld e.own e.v e.now e.L o w h9 ho.2.1 hw h.dues (fun c=>by have:=(hfar _ (.inl c)).1;omega) (fun k hk c=>(hfar k (.inl c)).2.2.1 hk) uO hpos uO c0 c1 he.1 he.2.1 he.2.2.1 hP uO).mono ?_
    rintro _ w' ⟨rfl,A⟩
    rw [← hvt] at A
    exact ⟨rfl,Ia h hi (by have:=It e.now o.b e.L;omega) A⟩
end
def gU:List Int->Nat
 | []=>0
 | x :: r=>(x % 128).toNat+128 * gU r
theorem lN:∀ (g:List Int) (x:Int),gU (g++[x])=gU g+(x % 128).toNat * 128 ^ g.length
 | [],x=>by simp [gU]
 | y :: g,x=>by
   have h:=lN g x
   simp only [List.cons_append,gU,List.length_cons,Nat.pow_succ]
   rw [h]
   have:(x % 128).toNat * (128 ^ g.length * 128)=128 * ((x % 128).toNat * 128 ^ g.length):=by
    rw [Nat.mul_comm (128 ^ g.length) 128,Nat.mul_left_comm]
   omega
theorem Zm:∀ (g:List Int),gU g<128 ^ g.length
 | []=>by simp [gU]
 | y :: g=>by
   have h:=Zm g
   simp only [gU,List.length_cons,Nat.pow_succ]
   omega
def Fl (g:List Int):Prop:=∀ y∈g,128<=y/\y<256
theorem Cu {g:List Int} {x:Int} (h0:0<x) (h1:x<128):1<=gU (g++[x]):=by
 rw [lN]
 have:1<=(x % 128).toNat:=uO
 have hp:1<=128 ^ g.length:=Nat.one_le_pow _ _ uO
 have:=Nat.mul_le_mul this hp
 omega
theorem Jd:∀ (g:List Int) (x:Int),Fl g->0<=x->x<128->(g=[]\/x≠0)->jJ (gU (g++[x]))=g++[x]
 | [],x,_,h0,h1,_=>by
   have e:(x % 128).toNat=x.toNat:=uO
   simp only [List.nil_append,gU,Nat.mul_zero,Nat.add_zero,e]
   rw [jC uO]
   simp;omega
 | y :: g,x,hg,h0,h1,hx=>by
   have hx0:x≠0:=by simpa using hx
   have hv:=Cu (g:=g) (x:=x) uO h1
   have hy:=hg y vS
   have ih:=Jd g x (fun z hz=>hg z (by simp [hz])) h0 h1 (.inr hx0)
   have e:gU (y :: g++[x])=(y % 128).toNat+128 * gU (g++[x]):=rfl
   rw [e,kK uO]
   have e1:((y % 128).toNat+128 * gU (g++[x])) % 128=(y % 128).toNat:=uO
   have e2:((y % 128).toNat+128 * gU (g++[x])) / 128=gU (g++[x]):=uO
   rw [e1,e2,ih]
   have e3:(((y % 128).toNat+128:Nat):Int)=y:=uO
   rw [e3];rfl
theorem vH:∀ (n k:Nat),n<=k->∃ (g:List Int) (x:Int),jJ n=g++[x]/\Fl g/\0<=x/\x<128/\(g=[]\/x≠0)/\(n=0\/x≠0)
 | n,0,h=>⟨[],(n:Int),by rw [jC uO];rfl,fun _ h=>by simp at h,uO,uO,.inl rfl,.inl uO⟩
 | n,k+1,h=>by
   by_cases hn:n<128
   ·refine ⟨[],(n:Int),by rw [jC hn];rfl,fun _ h=>by simp at h,uO,uO,.inl rfl,?_⟩
    by_cases h0:n=0
    ·exact .inl h0
    ·exact .inr uO
   ·obtain ⟨g,x,e,hg,h0,h1,hx,hz⟩:=vH (n / 128) k uO
    have hx0:x≠0:=by rcases hz with hz|hz;· omega
                     ·exact hz
    refine ⟨((n % 128+128:Nat):Int) :: g,x,by rw [kK uO,e];rfl,?_,h0,h1,.inr hx0,.inr hx0⟩
    intro y hy
    rcases List.mem_cons.1 hy with rfl|hy
    ·omega
    ·exact hg y hy
theorem rR:∀ (g1 g2:List Int) (x1 x2:Int) (r1 r2:List Int),Fl g1->Fl g2->x1<128->x2<128->g1++x1 :: r1=g2++x2 :: r2->g1=g2/\x1=x2/\r1=r2
 | [],[],_,_,_,_,_,_,_,_,h=>by simpa using h
 | [],y :: g2,x1,_,_,_,_,h2,hx,_,h=>by
   simp at h
   have:=h2 y vS
   omega
 | y :: g1,[],_,x2,_,_,h1,_,_,hx,h=>by
   simp at h
   have:=h1 y vS
   omega
 | y :: g1,z :: g2,x1,x2,r1,r2,h1,h2,hx1,hx2,h=>by
   simp at h
   obtain ⟨rfl,h⟩:=h
   obtain ⟨rfl,rfl,rfl⟩:=rR g1 g2 x1 x2 r1 r2 (fun a ha=>h1 a (by simp [ha])) (fun a ha=>h2 a (by simp [ha])) hx1 hx2 h
   exact ⟨rfl,rfl,rfl⟩
theorem eR (n:Nat):gU (jJ n)=n:=by
 suffices H:∀ (k n:Nat),n<=k->gU (jJ n)=n from H n n (uA _)
 intro k
 induction k with
 | zero=>intro n h;rw [jC uO];simp [gU];omega
 | succ k ih =>
   intro n h
   by_cases hn:n<128
   ·rw [jC hn];simp [gU];omega
   ·rw [kK uO]
    simp only [gU]
    rw [ih (n / 128) uO]
    omega
theorem Cj {m n:Nat} {r s:List Int} (h:jJ m++r=jJ n++s):m=n/\r=s:=by
 obtain ⟨g1,x1,e1,h1,_,l1,_⟩:=vH m m (uA _)
 obtain ⟨g2,x2,e2,h2,_,l2,_⟩:=vH n n (uA _)
 have h':=h
 rw [e1,e2] at h'
 simp only [List.append_assoc,List.singleton_append] at h'
 obtain ⟨rfl,rfl,rfl⟩:=rR g1 g2 x1 x2 r s h1 h2 l1 l2 h'
 refine ⟨?_,rfl⟩
 rw [← eR m,← eR n,e1,e2]
def RN (l:List Int) (n len:Nat):Prop :=
 (len=0/\n=0/\∀ (m:Nat) (r:List Int),m<34359738368->l≠jJ m++r)\/(∃ r,n<34359738368/\len=(jJ n).length/\l=jJ n++r)
theorem iG {n:Nat} (h:n<34359738368):(jJ n).length<=5:=nL 4 n (uB h vO)
theorem Vg {l:List Int} {k:Nat} (hg:Fl (l.take k)) (hk:k=l.length\/k=5):RN l 0 0:=by
 refine .inl ⟨rfl,rfl,fun m r hm e=>?_⟩
 have h5:=iG hm
 obtain ⟨g,x,ec,hgo,h0,h1,_⟩:=vH m m (uA _)
 rw [ec] at e h5
 simp at h5
 have hlen:g.length<l.length:=by rw [e];simp
 have hx:l[g.length]?=some x:=by rw [e];simp
 have hmem:x∈l.take k:=by
  apply List.mem_of_getElem? (i:=g.length)
  rw [List.getElem?_take,uQ uO]
  exact hx
 have:=hg x hmem
 omega
theorem Sr {l:List Int} {k:Nat} (hg:Fl (l.take k)) (hk:k<l.length) (h0:0<k) (hz:l.getD k 0=0):RN l 0 0:=by
 refine .inl ⟨rfl,rfl,fun m r _ e=>?_⟩
 obtain ⟨g,x,ec,hgo,_,h1,hx,_⟩:=vH m m (uA _)
 rw [ec] at e
 simp only [List.append_assoc,List.singleton_append] at e
 have el:l=l.take k++0 :: l.drop (k+1):=by
  conv=>lhs;rw [← List.take_append_drop k l]
  congr 1
  rw [List.drop_eq_getElem_cons hk]
  simp [List.getD,uD hk] at hz
  rw [hz]
 rw [el] at e
 obtain ⟨e1,e2,_⟩:=rR _ _ _ _ _ _ hg hgo uO h1 e
 rcases hx with hx|hx
 ·rw [hx] at e1
  have:=congrArg List.length e1
  simp only [List.length_take,List.length_nil] at this
  omega
 ·exact hx e2.symm
theorem YH {l:List Int} {k:Nat} {x:Int} (hg:Fl (l.take k)) (hk:k<l.length) (h5:k<5) (hx:l.getD k 0=x) (h0:0<=x) (h1:x<128) (hz:k=0\/x≠0) :
 RN l (gU (l.take k)+(x % 128).toNat * 128 ^ k) (k+1):=by
 have hl:(l.take k).length=k:=by simp;omega
 have ev:gU (l.take k)+(x % 128).toNat * 128 ^ k=gU (l.take k++[x]):=by rw [lN,hl]
 have ec:jJ (gU (l.take k++[x]))=l.take k++[x]:=Jd _ _ hg h0 h1 (by
  rcases hz with rfl|hz
  ·exact .inl vS
  ·exact .inr hz)
 rw [ev]
 refine .inr ⟨l.drop (k+1),?_,by rw [ec];simp;omega,?_⟩
 ·refine uB (Zm _) ?_
  simp only [List.length_append,hl,List.length_singleton]
  exact uX (Nat.pow_le_pow_right uO (show k+1<=5 by omega)) vO
 ·rw [ec]
  conv=>lhs;rw [← List.take_append_drop k l]
  rw [List.append_assoc]
  congr 1
  rw [List.drop_eq_getElem_cons hk]
  simp [List.getD,uD hk] at hx
  simp [hx]
theorem Tb {l:List Int} {k:Nat} {x:Int} (hg:Fl (l.take k)) (hk:k<l.length) (hx:l.getD k 0=x) (h0:128<=x) (h1:x<256):Fl (l.take (k+1)):=by
 intro y hy
 rw [List.take_succ_eq_append_getElem hk] at hy
 simp [List.getD,uD hk] at hx
 rcases List.mem_append.1 hy with hy|hy
 ·exact hg y hy
 ·simp [hx] at hy
  omega
theorem Ak {l:List Int} {k:Nat} {x:Int} (hk:k<l.length) (hx:l.getD k 0=x):gU (l.take (k+1))=gU (l.take k)+(x % 128).toNat * 128 ^ k:=by
 rw [List.take_succ_eq_append_getElem hk,lN]
 simp [List.getD,uD hk] at hx
 rw [hx]
 simp [Nat.min_eq_left (uY hk)]
theorem Tj {l:List Int} {k v W X:Nat} (hv:v=gU (l.take k)) (hW:W=128 ^ k) (hg:Fl (l.take k)) (hk:k<l.length) (h5:k<5) (hx:l.getD k 0=(X:Int)) (h1:X<128) (hz:k=0\/X≠0):RN l (v+X % 128 * W) (k+1):=by
 have:=YH hg hk h5 hx uO uO (by rcases hz with h|h;· exact .inl h
                                ·exact .inr uO)
 have e:((X:Int) % 128).toNat=X % 128:=uO
 rw [e,← hv,← hW] at this
 exact this
theorem sI {l:List Int} {k v W X:Nat} (hv:v=gU (l.take k)) (hW:W=128 ^ k) (hk:k<l.length) (hx:l.getD k 0=(X:Int)):v+X % 128 * W=gU (l.take (k+1))/\W * 128=128 ^ (k+1):=by
 have e:((X:Int) % 128).toNat=X % 128:=uO
 rw [Ak hk hx,e,← hv,← hW,Nat.pow_succ,← hW]
 exact ⟨rfl,rfl⟩
