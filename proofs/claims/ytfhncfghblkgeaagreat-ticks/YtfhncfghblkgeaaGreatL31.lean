import Derived.Test.YtfhncfghblkgeaaGreatL30
set_option maxRecDepth 100000
set_option maxHeartbeats 2000000
namespace Go.Proofs.YtfhncfghblkgeaaGreat
open Go.RowKit
section
structure salJ (S:Sal):Prop where
 I:salI S
 cap:S.C.cap<=4294967296
 queue:1<=S.C.queue
 len:S.os.length<=4294967296
 ats:∀ a∈S.ansL,0<=a.at'/\a.at'<=4611686018427387904
def js6 (PS:World->Nat->(Nat->Prop)->Sal->Prop) (w w':World) (x:Nat) (own:Nat->Prop) (S':Sal):Prop :=
 ∃ own',PS w' x own' S'/\Same own w w'/\∀ k,own' k->own k\/w.heap.size<=k
structure SendOK (PS:World->Nat->(Nat->Prop)->Sal->Prop):Prop where
 lt:∀ {w x own S},PS w x own S->∀ k,own k->k<w.heap.size
 keep:∀ {w w' x own S},PS w x own S->w.heap.size<=w'.heap.size->(∀ k,own k->w'.heap[k]?=w.heap[k]?)->PS w' x own S
 send:∀ {w x own S ba bl bc bs k t c u o err},PS w x own S->salJ S->ja6 w ba bl bc bs->UN bs k t c u o err->Calls Tryz.prog 33 #[pt x 0,.slice ba bl bc] w fun e w'=>e=.returned (S.send bs ⟨k,t,c,u,o⟩ err).1.val/\js6 PS w w' x own (S.send bs ⟨k,t,c,u,o⟩ err).2
theorem qe5 (S:Sal) (r:Req) (h:S.os.length<=4294967296):(S.ask r).2.os.length<=4294967296:=by
 unfold Sal.ask
 split
 ·exact h
 split
 ·exact h
 split
 ·exact h
 ·next g3 =>
  split
  ·show ((S.more ⟨r.cust,r.units,0,0,0,0⟩).holds S.os.length).os.length<=_
   rw [(jhb S r.cust r.units).1]
   simp [Sal.more];omega
  split
  ·exact h
  ·simp [Sal.more];omega
theorem jjz:∀ (qs:List Nat) (S:Sal),(jay S qs).os.length=S.os.length
 | [],_=>rfl
 | q :: qs,S=>by
   have e:jay S (q :: qs)=jay (if S.left<(S.os.getD q ja3).units then S.ends q 18 else S) qs:=rfl
   rw [e,jjz]
   split
   ·exact jch S q 18
   ·rfl
theorem qf0 (S:Sal) (r:Req) (h:S.os.length<=4294967296):(S.doS r).2.os.length<=4294967296:=by
 unfold Sal.doS
 split
 ·exact qe5 S r h
 split
 ·unfold Sal.confirm
  split
  ·exact h
  ·split
   ·exact h
   ·show (Sal.promote _).os.length<=_
    rw [jc4,jjz,jch]
    exact h
 ·unfold Sal.cancel
  split
  ·exact h
  ·split
   ·exact h
   ·show (Sal.promote _).os.length<=_
    rw [jc4,jch]
    exact h
theorem jm6 (S:Sal) (bs:List Int) (r:Req) (err:Int):(S.send bs r err).2.C=S.C/\(S.send bs r err).2.now=S.now/\(S.send bs r err).2.ansL.length<=S.ansL.length+1:=by
 unfold Sal.send
 split
 ·exact ⟨rfl,rfl,by simp⟩
 split
 ·exact ⟨rfl,rfl,by simp⟩
 split
 ·split<;>exact ⟨rfl,rfl,by simp⟩
 ·split
  ·exact ⟨rfl,rfl,by simp⟩
  ·obtain ⟨a,b,c⟩:=jja S r
   exact ⟨a,b,by simp [c]⟩
theorem jxt {S:Sal} (h:salJ S) (bs:List Int) (r:Req) (err:Int) (hI:salI (S.send bs r err).2):salJ (S.send bs r err).2:=by
 obtain ⟨a,b,c⟩:=jm6 S bs r err
 refine ⟨hI,by rw [a];exact h.cap,by rw [a];exact h.queue,?_,?_⟩
 ·unfold Sal.send
  split
  ·exact h.len
  split
  ·exact h.len
  split
  ·split<;>exact h.len
  ·split
   ·exact h.len
   ·exact qf0 S r h.len
 ·unfold Sal.send
  split
  ·exact h.ats
  split
  ·exact h.ats
  split
  ·split<;>exact h.ats
  ·split
   ·exact h.ats
   ·intro x hx
    have hx':x∈(S.doS r).2.ansL++[⟨strOfNums bs,r.token,(S.doS r).1,S.now⟩]:=hx
    rw [(jja S r).2.2] at hx'
    rcases List.mem_append.1 hx' with hx'|hx'
    ·exact h.ats x hx'
    ·simp at hx';subst hx';exact h.I.now
structure SE where
 x:Nat
 R:Nat
 own:Nat->Prop
 ap:Option Addr
 lp:Nat
 cp:Nat
 vo:Value
 va:Value
 S:Sal
def SE.fp (e:SE) (b:Nat):Prop:=e.own b\/b=e.R\/e.vo.ownBlock=some b\/e.va.ownBlock=some b
structure entS (PS:World->Nat->(Nat->Prop)->Sal->Prop) (w:World) (B j:Nat) (e:SE):Prop where
 ps:PS w e.x e.own e.S
 ref:saleAt w B e.R e.S e.ap e.lp e.cp e.vo e.va
 J:salJ e.S
 hBR:B<=e.R
 apart:¬ e.own e.R/\(∀ k,e.vo.ownBlock=some k->¬ e.own k)/\∀ k,e.va.ownBlock=some k->¬ e.own k
 low:∀ k,e.own k->B<=k
 ans:e.S.ansL.length<=j
def SE.then (e e2:SE) (w:World):Prop:=e2.x=e.x/\e2.R=e.R/\∀ k,e2.fp k->e.fp k\/w.heap.size<=k
theorem jpj {S:Sal} (h:salJ S):S.os.length * 48+48<=140737488351232:=by have:=h.len;omega
section
variable {PS:World->Nat->(Nat->Prop)->Sal->Prop} {w w':World} {B j:Nat} {e:SE}
theorem jfb (T:SendOK PS) (h:entS PS w B j e) {k:Nat} (hk:e.fp k):k<w.heap.size:=by
 rcases hk with hk|rfl|hk|hk
 ·exact T.lt h.ps k hk
 ·exact (blt h.ref.blk)
 ·exact (World.ownsRow.lt h.ref.os k hk).2
 ·exact (World.ownsRow.lt h.ref.ansL k hk).2
theorem juc (T:SendOK PS) {own:Nat->Prop} (h:entS PS w B j e) (hs:Same own w w') (hn:∀ k,e.fp k->¬ own k) (hlow:∀ k,own k->B<=k):entS PS w' B (j+1) e :=
 ⟨T.keep h.ps hs.size (fun k hk=>hs.block k (T.lt h.ps k hk) (hn k (.inl hk))),jcq h.ref hs (hn _ (.inr (.inl rfl))) (fun k hk=>hn k (.inr (.inr (.inl hk)))) (fun k hk=>hn k (.inr (.inr (.inr hk)))) (fun _ b off eq ho=>by have:=hlow b ho;have:=h.ref.low b off eq;omega),h.J,h.hBR,h.apart,h.low,Nat.le_succ_of_le h.ans⟩
end
end
section
theorem qdm (l:List Int):∃ k t c u o err,UN l k t c u o err:=by
 by_cases hx:∃ k t c u o:Int,isB k t c u o=true/\l=ja8 k (jaj k t c u o)
 ·obtain ⟨k,t,c,u,o,h1,h2⟩:=hx
  exact ⟨k,t,c,u,o,0,.inl ⟨rfl,h1,h2⟩⟩
 ·exact ⟨0,0,0,0,0,2,.inr ⟨rfl,rfl,rfl,rfl,rfl,rfl,fun k t c u o h1 h2=>hx ⟨k,t,c,u,o,h1,h2⟩⟩⟩
structure sentQ (PS:World->Nat->(Nat->Prop)->Sal->Prop) (w Wc W:World) (B:Nat) (e:SE) (S2:Sal) (own':Nat->Prop) (vo' va':Value):Prop where
 ps:PS W e.x own' S2
 ref:saleAt W B e.R S2 e.ap e.lp e.cp vo' va'
 I:salI S2
 same:Same e.fp w W
 o:∀ k,own' k->e.own k\/Wc.heap.size<=k
 vo:∀ k,vo'.ownBlock=some k->e.vo.ownBlock=some k\/Wc.heap.size<=k
 va:∀ k,va'.ownBlock=some k->e.va.ownBlock=some k\/Wc.heap.size<=k
 apart:(∀ k,vo'.ownBlock=some k->¬ own' k)/\∀ k,va'.ownBlock=some k->¬ own' k
 size:Wc.heap.size<=W.heap.size
section
variable {PS:World->Nat->(Nat->Prop)->Sal->Prop} {w:World} {B j:Nat} {e:SE}
theorem jwq (T:SendOK PS) (h:entS PS w B j e) {Wc W W':World} {S2:Sal} {own':Nat->Prop} {vo' va':Value} {b:Nat} (hb:w.heap.size<=b) (hb2:b<Wc.heap.size) (hq:sentQ PS w Wc W B e S2 own' vo' va') (hs:Same (fun x=>x=b) W W'):sentQ PS w Wc W' B e S2 own' vo' va':=by
 have lt:=fun k hk=>jfb T h (k:=k) hk
 have hRw:=lt e.R (.inr (.inl rfl))
 have hBR:=h.hBR
 refine ⟨T.keep hq.ps hs.size (fun k hk=>hs.block k (T.lt hq.ps k hk) (fun eq=>?_)),jcq hq.ref hs (show e.R≠b by omega) (fun k hk=>?_) (fun k hk=>?_) (fun _ x off eq=>?_),hq.I,Same.trans hq.same hs (fun k hk eq=>eq.elim id (fun eq=>by omega)),hq.o,hq.vo,hq.va,hq.apart,Nat.le_trans hq.size hs.size⟩
 ·rcases hq.o k hk with x|x
  ·have:=lt k (.inl x);omega
  ·omega
 ·show k≠b
  rcases hq.vo k hk with x|x
  ·have:=lt k (.inr (.inr (.inl x)));omega
  ·omega
 ·show k≠b
  rcases hq.va k hk with x|x
  ·have:=lt k (.inr (.inr (.inr x)));omega
  ·omega
 ·show x≠b
  have:=h.ref.low x off eq
  omega
theorem qc0 (T:SendOK PS) (h:entS PS w B j e) (s:ByteArray) (hs:s.size<=140737488351232) (hj:(j+1) * 64<=140737488355328) :
 Calls Tryz.prog 85 #[.agg #[pt e.x 0,pt e.R 0],.string s] w fun r w'=>r=.returned (.bool true)/\∃ e2,entS PS w' B (j+1) e2/\e.then e2 w/\Same e.fp w w':=by
 obtain ⟨k,t,c,u,o,err,hU⟩:=qdm (jcm s)
 have lt:=fun k hk=>jfb T h (k:=k) hk
 have hRw:=lt e.R (.inr (.inl rfl))
 have hBR:=h.hBR
 generalize hS2:(e.S.send (jcm s) ⟨k,t,c,u,o⟩ err).2=S2
 generalize hP:(e.S.send (jcm s) ⟨k,t,c,u,o⟩ err).1=P
 have hans:=(jm6 e.S (jcm s) ⟨k,t,c,u,o⟩ err).2.2
 have hJ2:=jxt h.J (jcm s) ⟨k,t,c,u,o⟩ err
 rw [hS2] at hans hJ2
 refine (jys e.x e.R s w hs P.kind P.order P.cents P.upto e.own (fun b=>b=e.R\/e.vo.ownBlock=some b\/e.va.ownBlock=some b) (fun b hb=>lt b (.inl hb)) (fun b hb=>lt b (.inr hb))
  (fun Wc W=>∃ own',PS W e.x own' S2/\saleAt W B e.R e.S e.ap e.lp e.cp e.vo e.va/\Same e.own w W/\(∀ k,own' k->e.own k\/Wc.heap.size<=k)/\Wc.heap.size<=W.heap.size)
  (fun Wc W=>∃ own' vo' va',sentQ PS w Wc W B e S2 own' vo' va') (fun W g hW hg hrow=>?_) (fun Wc W W' hq hb=>?_) (fun Wc W b cap hc hq hb hsl=>?_) (fun Wc W W' hq hb=>?_) (fun Wc W W' b hc hb hb2 hq hg=>?_)).mono ?_
 ·have hps:PS W e.x e.own e.S:=T.keep h.ps hW.size (fun k hk=>hW.block k (lt k (.inl hk)))
  refine (T.send hps h.J (jvj hrow hs) hU).mono ?_
  rintro r w' ⟨rfl,own',a1,a2,a3⟩
  rw [hS2] at a1
  rw [hP]
  refine ⟨rfl,⟨own',a1,jcq (ja9 h.ref hW) a2 h.apart.1 h.apart.2.1 h.apart.2.2 (fun _ b off eq ho=>?_),Same.trans (Same.of_below (own:=fun _=>False) hW) a2 (fun k _ eq=>eq.elim False.elim id),a3,a2.size⟩,a2⟩
  have:=h.low b ho
  have:=h.ref.low b off eq
  omega
 ·obtain ⟨own',a1,a2,a3,a4,a5⟩:=hq
  exact ⟨own',T.keep a1 hb.size (fun k hk=>hb.block k (T.lt a1 k hk)),ja9 a2 hb,Same.trans a3 (Same.of_below (own:=fun _=>False) hb) (fun k _ eq=>eq.elim id False.elim),a4,Nat.le_trans a5 hb.size⟩
 ·obtain ⟨own',a1,a2,a3,a4,a5⟩:=hq
  have hcw:=hc.size
  refine (jvr a2 h.J.I h.hBR h.J.cap h.J.queue (jpj h.J) h.J.ats (by have:=h.ans;omega) hsl (fun _ b' off eq=>?_) hU).mono ?_
  ·simp at eq
   obtain ⟨rfl,rfl⟩:=eq
   refine ⟨by omega,fun eq=>?_,fun eq=>?_⟩
   ·have:=lt _ (.inr (.inr (.inl eq)));omega
   ·have:=lt _ (.inr (.inr (.inr eq)));omega
  rintro r w' ⟨rfl,vo',va',b1,b2,b3,b4,b5⟩
  rw [hS2] at b1 b2
  rw [hP]
  have hno:∀ k,own' k->¬ (k=e.R\/e.vo.ownBlock=some k\/e.va.ownBlock=some k):=fun k hk=>by
   rcases a4 k hk with x|x
   ·rintro (eq|eq|eq)
    ·exact h.apart.1 (eq▸x)
    ·exact h.apart.2.1 k eq x
    ·exact h.apart.2.2 k eq x
   ·rintro (eq|eq|eq)
    ·omega
    ·have:=lt k (.inr (.inr (.inl eq)));omega
    ·have:=lt k (.inr (.inr (.inr eq)));omega
  refine ⟨rfl,⟨own',vo',va',T.keep a1 b3.size (fun k hk=>b3.block k (T.lt a1 k hk) (hno k hk)),b1,b2,Same.trans a3 b3 (fun k _ eq=>eq.elim .inl .inr),a4,fun k hk=>(b4 k hk).imp id (fun eq=>by omega),fun k hk=>(b5 k hk).imp id (fun eq=>by omega),⟨fun k hk ho=>?_,fun k hk ho=>?_⟩,Nat.le_trans a5 b3.size⟩,b3⟩
  ·rcases b4 k hk with x|x
   ·exact hno k ho (.inr (.inl x))
   ·have:=T.lt a1 k ho;omega
  ·rcases b5 k hk with x|x
   ·exact hno k ho (.inr (.inr x))
   ·have:=T.lt a1 k ho;omega
 ·obtain ⟨own',vo',va',hq⟩:=hq
  exact ⟨own',vo',va',T.keep hq.ps hb.size (fun k hk=>hb.block k (T.lt hq.ps k hk)),ja9 hq.ref hb,hq.I,Same.trans hq.same (Same.of_below (own:=fun _=>False) hb) (fun k _ eq=>eq.elim id False.elim),hq.o,hq.vo,hq.va,hq.apart,Nat.le_trans hq.size hb.size⟩
 ·obtain ⟨own',vo',va',hq⟩:=hq
  exact ⟨own',vo',va',jwq T h hb hb2 hq ⟨hg.os,hg.tape,hg.output,hg.size,fun k hk hn=>hg.block k hk (fun eq=>hn (by simpa using eq))⟩⟩
 ·rintro r w' ⟨rfl,Wc,hc,own',vo',va',hq⟩
  have hcw:=hc.size
  refine ⟨rfl,⟨e.x,e.R,own',e.ap,e.lp,e.cp,vo',va',S2⟩,⟨hq.ps,hq.ref,hJ2 hq.I,h.hBR,⟨fun ho=>?_,hq.apart.1,hq.apart.2⟩,fun k hk=>?_,Nat.le_trans hans (Nat.succ_le_succ h.ans)⟩,⟨rfl,rfl,fun k hk=>?_⟩,hq.same⟩
  ·rcases hq.o _ ho with x|x
   ·exact h.apart.1 x
   ·have:Wc.heap.size<=e.R:=x
    omega
  ·rcases hq.o k hk with x|x
   ·exact h.low k x
   ·show B<=k;omega
  ·rcases hk with hk|hk|hk|hk
   ·exact (hq.o k hk).imp .inl (fun x=>by omega)
   ·exact .inl (.inr (.inl hk))
   ·exact (hq.vo k hk).imp (fun x=>.inr (.inr (.inl x))) (fun x=>by omega)
   ·exact (hq.va k hk).imp (fun x=>.inr (.inr (.inr x))) (fun x=>by omega)
end
end
section
open Go.ChangeShapes Go.WideShapes Go.ChangeAt Go.RowKit
theorem own:ownKnob Tryz.prog.godebug=none:=by kernel_rfl
theorem jzi:laidOutB Tryz.prog=true:=by kernel_rfl
theorem Tryz.cellsInt:Tryz.prog.cellsOf 3=1:=by kernel_rfl
end
section
open Go.ChangeShapes Go.WideShapes Go.ChangeAt Go.RowKit
def wOK {H:Type} (t:TypeId) (d:DataW H):Prop:=∀ x∈DataW.weights Tryz.prog t d,x<=reachBytes
theorem jhq {H:Type} {P:Program} {e:TypeId} {d:DataW H} {n:Nat} (hn:n∈d.weights P e):∀ (el:List (DataW H)),d∈el->n∈DataW.weightsAll P e el
 | [],h=>by simp at h
 | d' :: el,h=>by
   simp only [DataW.weightsAll,List.mem_append]
   rcases List.mem_cons.1 h with rfl|h
   ·exact .inl hn
   ·exact .inr (jhq hn el h)
theorem jzb {H:Type} {t e:TypeId} {el sp:List (DataW H)} (hu:Tryz.prog.underlying t=some (.slice e)) (h:wOK t (.slice el sp)):(el.length+sp.length) * Tryz.prog.bytesOf e<=reachBytes/\∀ d∈el,wOK e d:=by
 unfold wOK at h
 simp only [DataW.weights,hu] at h
 exact ⟨h _ (by simp),fun d hd x hx=>h x (by simp [jhq hx el hd])⟩
theorem qea {H:Type} {t:TypeId} {fs:Array Field} {parts:List (DataW H)} (hu:Tryz.prog.underlying t=some (.struct fs)) (h:wOK t (.agg parts)) {i:Nat} {f:Field} {d:DataW H} (hf:fs[i]?=some f) (hd:parts[i]?=some d):wOK f.type d:=by
 unfold wOK at h
 simp only [DataW.weights,hu] at h
 exact fun x hx=>h x (DataW.weights_mem_each (j:=i) (by simp [hf]) hd x hx)
theorem jmr {H:Type} {enc:TypeId × Value->H} {w:World} {held:Bool} {t e:TypeId} {fs:Array Field} {c fuel:Nat} {a:Option Addr} {len cap:Nat} {x:DataW H × List MemPlace}
 (ht:Tryz.prog.underlying t=some (.slice e)) (he:Tryz.prog.underlying e=some (.struct fs)) (hc:Tryz.prog.cellsOf e=c) (h:DataW.trod enc Tryz.prog w 0 (fun _=>true) held fuel t [.slice a len cap]=some x) (hw:wOK t x.1) :
 (a=none/\len=0/\cap=0)\/∃ ad,a=some ad/\len<=cap/\cap * Tryz.prog.bytesOf e<=reachBytes/\∀ i,i<len->∃ (cs:List Value) (xs:List (DataW H × List MemPlace)) (n:Nat),
   cs.length=c/\(∀ j,j<c->w.cell? (ad.add (i * c+j))=cs[j]?)/\xs.length=fs.size ∧
   (∀ (k:Nat) (f:Field),fs[k]?=some f->DataW.trod enc Tryz.prog w 0 (fun _=>true) held n f.type ((cs.drop f.offset).take (Tryz.prog.cellsOf f.type))=xs[k]?)/\(∀ (k:Nat) (f:Field) y,fs[k]?=some f->xs[k]?=some y->wOK f.type y.1):=by
 rcases DataW.trod_slice ht h with ⟨hcs,_⟩|⟨ad,l,cp,elems,rest,n,_,hcs,hx,_,hlc,_,hel,hcell,hsp,_⟩
 ·simp at hcs
  exact .inl hcs
 ·simp at hcs
  obtain ⟨rfl,rfl,rfl⟩:=hcs
  subst hx
  obtain ⟨hb,hwe⟩:=jzb ht hw
  simp only [List.length_map] at hb
  have hr:=(hsp rfl).1
  rw [hel,hr,show len+(cap - len)=cap by omega] at hb
  refine .inr ⟨ad,rfl,hlc,hb,fun i hi=>?_⟩
  have h1:=hcell i hi
  rw [hc,List.getElem?_eq_getElem (by omega:i<elems.length)] at h1
  obtain ⟨cs,hcs,htr⟩:=Option.bind_eq_some_iff.1 h1
  obtain ⟨_,hcl,hcc⟩:=World.cells?_some hcs
  obtain ⟨xs,m,_,hy,_,hxl,hxf⟩:=DataW.trod_struct he htr
  refine ⟨cs,xs,m,hcl,fun j hj=>?_,hxl,hxf,fun k f y hf hy'=>?_⟩
  ·rw [← Deep.add_add];exact hcc j hj
  ·have hwi:=hwe elems[i].1 (List.mem_map.2 ⟨elems[i],List.getElem_mem _,rfl⟩)
   rw [hy] at hwi
   exact qea he hwi hf (by simp [hy'])
theorem jpw {cs:List Value} {k:Nat} (h:k<cs.length):(cs.drop k).take 1=[cs[k]]:=by
 rw [List.drop_eq_getElem_cons h];rfl
theorem jbv {H:Type} {enc:TypeId × Value->H} {w:World} {held:Bool} {n:Nat} {cs:List Value} {k:Nat} {y:Option (DataW H × List MemPlace)} (hk:k<cs.length)
 (h:DataW.trod enc Tryz.prog w 0 (fun _=>true) held n 3 ((cs.drop k).take (Tryz.prog.cellsOf 3))=y) (hy:y.isSome=true):∃ m:Int,cs[k]?=some (iv m)/\(-9223372036854775808<=m/\m<=9223372036854775807):=by
 obtain ⟨z,rfl⟩:=Option.isSome_iff_exists.1 hy
 rw [Tryz.cellsInt,jpw hk] at h
 obtain ⟨m,e,_,hm⟩:=DataW.trod_int Tryz.underlying3 h
 simp at e
 have hb:=bounds_i64 hm
 exact ⟨m,by rw [List.getElem?_eq_getElem hk,e],hb.1,hb.2⟩
theorem jcs {α:Type} {xs:List α} {i n:Nat} (h:xs.length=n) (hi:i<n):(xs[i]?).isSome=true:=by
 rw [List.getElem?_eq_getElem (by omega)];rfl
theorem jk1 {w:World} {ad:Addr} {v:Value} (h:w.cell? (ad.add 0)=some v):∃ b off,ad=(aq b off):=by
 obtain ⟨b,off,spot⟩:=ad
 have hs:=World.cell?_spot h
 cases spot with
 | none=>exact ⟨b,off,rfl⟩
 | some s=>simp [Addr.add] at hs
theorem jty {α:Type} (f:Nat->α) (d:α) {i len:Nat} (h:i<len):((List.range len).map f).getD i d=f i:=by simp [List.getD,h]
end
section
open Go.ChangeShapes Go.WideShapes Go.ChangeAt Go.RowKit
theorem Tryz.cellsOp:Tryz.prog.cellsOf 69=7:=by kernel_rfl
theorem Tryz.cellsCfg:Tryz.prog.cellsOf 29=8:=by kernel_rfl
theorem Tryz.cellsTier:Tryz.prog.cellsOf 137=2:=by kernel_rfl
theorem Tryz.cellsStr:Tryz.prog.cellsOf 9=1:=by kernel_rfl
theorem Tryz.cellsTiers:Tryz.prog.cellsOf 27=1:=by kernel_rfl
theorem Tryz.bytesOp:Tryz.prog.bytesOf 69=64:=by kernel_rfl
theorem Tryz.bytesCfg:Tryz.prog.bytesOf 29=80:=by kernel_rfl
theorem Tryz.bytesTier:Tryz.prog.bytesOf 137=16:=by kernel_rfl
def qcu (o:OpV):Prop:=(-9223372036854775808<=o.k/\o.k<=9223372036854775807)/\(-9223372036854775808<=o.a/\o.a<=9223372036854775807)/\(-9223372036854775808<=o.b/\o.b<=9223372036854775807)/\(-9223372036854775808<=o.c/\o.c<=9223372036854775807)/\(-9223372036854775808<=o.d/\o.d<=9223372036854775807)/\(-9223372036854775808<=o.e/\o.e<=9223372036854775807)/\o.s.size<=140737488351232
theorem jyr {H:Type} {enc:TypeId × Value->H} {w:World} {held:Bool} {n:Nat} {cs:List Value} {k:Nat} {y:Option (DataW H × List MemPlace)} (hk:k<cs.length)
 (h:DataW.trod enc Tryz.prog w 0 (fun _=>true) held n 9 ((cs.drop k).take (Tryz.prog.cellsOf 9))=y) (hy:y.isSome=true) (hw:∀ z,y=some z->wOK 9 z.1):∃ s:ByteArray,cs[k]?=some (.string s)/\s.size<=140737488351232:=by
 obtain ⟨z,rfl⟩:=Option.isSome_iff_exists.1 hy
 rw [Tryz.cellsStr,jpw hk] at h
 obtain ⟨s,e,hz,_⟩:=DataW.trod_string Tryz.underlying9 h
 simp at e
 have hs:=hw z rfl
 rw [hz] at hs
 have:=hs s.data.toList.length (by simp [DataW.weights])
 exact ⟨s,by rw [List.getElem?_eq_getElem hk,e],by simpa [reachBytes] using this⟩
theorem jtn {H:Type} {enc:TypeId × Value->H} {w:World} {held:Bool} {r:Reach} {b0:Nat} {v:Value} {d:DataW H} {p:List MemPlace}
 (hv:Value.okWide Tryz.prog w r b0 23 v) (h:DataW.Trod enc Tryz.prog w 0 (fun _=>true) held 23 v d p) (hw:wOK 23 d) :
 ∃ (a:Option Addr) (len cap:Nat) (ops:List OpV),v=.slice a len cap/\scriptAt w a len ops/\(∀ o∈ops,qcu o)/\len * 64<=140737488351232:=by
 obtain ⟨a,len,cap,rfl⟩:=okWide_slice Tryz.underlying23 hv
 obtain ⟨fuel,hf⟩:=h
 rcases jmr Tryz.underlying23 Tryz.underlying69 Tryz.cellsOp hf hw with ⟨rfl,rfl,rfl⟩|⟨ad,rfl,hlc,hb,hrow⟩
 ·exact ⟨none,0,0,[],rfl,⟨rfl,fun h=>absurd rfl h⟩,fun o ho=>by simp at ho,by omega⟩
 ·rw [Tryz.bytesOp] at hb
  have hb':len * 64<=140737488351232:=by simp only [reachBytes] at hb;omega
  by_cases h0:len=0
  ·subst h0
   exact ⟨some ad,0,cap,[],rfl,⟨rfl,fun h=>absurd rfl h⟩,fun o ho=>by simp at ho,hb'⟩
  obtain ⟨b,off,rfl⟩:∃ b off,ad=(aq b off):=by
   obtain ⟨cs,xs,n,hcl,hcc,_⟩:=hrow 0 (by omega)
   have:=hcc 0 (by omega)
   rw [List.getElem?_eq_getElem (by omega)] at this
   exact jk1 (by simpa using this)
  have hall:∀ i,i<len->∃ o,opAt w b (off+i * 7) o/\qcu o:=by
   intro i hi
   obtain ⟨cs,xs,n,hcl,hcc,hxl,hf,hwt⟩:=hrow i hi
   have hxl':xs.length=7:=hxl
   obtain ⟨k',e0,b0⟩:=jbv (k:=0) (by omega) (hf 0 _ rfl) (jcs hxl' (by omega))
   obtain ⟨a',e1,b1⟩:=jbv (k:=1) (by omega) (hf 1 _ rfl) (jcs hxl' (by omega))
   obtain ⟨b',e2,b2⟩:=jbv (k:=2) (by omega) (hf 2 _ rfl) (jcs hxl' (by omega))
   obtain ⟨c',e3,b3⟩:=jbv (k:=3) (by omega) (hf 3 _ rfl) (jcs hxl' (by omega))
   obtain ⟨d',e4,b4⟩:=jbv (k:=4) (by omega) (hf 4 _ rfl) (jcs hxl' (by omega))
   obtain ⟨e',e5,b5⟩:=jbv (k:=5) (by omega) (hf 5 _ rfl) (jcs hxl' (by omega))
   obtain ⟨s',e6,b6⟩:=jyr (k:=6) (by omega) (hf 6 _ rfl) (jcs hxl' (by omega)) (fun z hz=>hwt 6 _ z rfl hz)
   have hc:∀ j,j<7->w.cell? (aq b (off+i * 7+j))=cs[j]?:=fun j hj=>by rw [← hcc j hj,Addr.add_lit,Nat.add_assoc]
   exact ⟨⟨k',a',b',c',d',e',s'⟩,⟨(hc 0 (by omega)).trans e0,(hc 1 (by omega)).trans e1,(hc 2 (by omega)).trans e2,(hc 3 (by omega)).trans e3,(hc 4 (by omega)).trans e4,(hc 5 (by omega)).trans e5,(hc 6 (by omega)).trans e6⟩,b0,b1,b2,b3,b4,b5,b6⟩
  obtain ⟨f,hff⟩:=@Deep.choose_lt OpV ⟨op0⟩ _ _ hall
  refine ⟨some (aq b off),len,cap,(List.range len).map f,rfl,⟨by simp,fun _=>⟨b,off,rfl,?_,fun i hi=>?_⟩⟩,fun o ho=>?_,hb'⟩
  ·exact World.block_lt_of_cell? w _ (hff 0 (by omega)).1.1
  ·rw [jty f op0 hi];exact (hff i hi).1
  ·obtain ⟨i,hi,rfl⟩:=List.mem_map.1 ho
   exact (hff i (List.mem_range.1 hi)).2
theorem jwb {H:Type} {enc:TypeId × Value->H} {w:World} {held:Bool} {fuel:Nat} {a:Option Addr} {len cap:Nat} {x:DataW H × List MemPlace}
 (h:DataW.trod enc Tryz.prog w 0 (fun _=>true) held fuel 27 [.slice a len cap]=some x) (hw:wOK 27 x.1):∃ ts,tiersAt w a len cap ts/\len * 16<=140737488351232:=by
 rcases jmr Tryz.underlying27 Tryz.underlying137 Tryz.cellsTier h hw with ⟨rfl,rfl,rfl⟩|⟨ad,rfl,hlc,hb,hrow⟩
 ·exact ⟨[],⟨rfl,Nat.le_refl _,by omega,fun _=>⟨rfl,rfl⟩,fun h=>absurd rfl h⟩,by omega⟩
 ·rw [Tryz.bytesTier] at hb
  simp only [reachBytes] at hb
  by_cases h0:len=0
  ·subst h0
   exact ⟨[],⟨rfl,hlc,by omega,fun h=>by simp at h,fun h=>absurd rfl h⟩,by omega⟩
  obtain ⟨b,off,rfl⟩:∃ b off,ad=(aq b off):=by
   obtain ⟨cs,xs,n,hcl,hcc,_⟩:=hrow 0 (by omega)
   have:=hcc 0 (by omega)
   rw [List.getElem?_eq_getElem (by omega)] at this
   exact jk1 (by simpa using this)
  have hall:∀ i,i<len->∃ q:Int × Int,w.cell? (aq b (off+i * 2))=some (iv q.1)/\w.cell? (aq b (off+i * 2+1))=some (iv q.2):=by
   intro i hi
   obtain ⟨cs,xs,n,hcl,hcc,hxl,hf,_⟩:=hrow i hi
   have hxl':xs.length=2:=hxl
   obtain ⟨f',e0,_⟩:=jbv (k:=0) (by omega) (hf 0 _ rfl) (jcs hxl' (by omega))
   obtain ⟨c',e1,_⟩:=jbv (k:=1) (by omega) (hf 1 _ rfl) (jcs hxl' (by omega))
   have hc:∀ j,j<2->w.cell? (aq b (off+i * 2+j))=cs[j]?:=fun j hj=>by rw [← hcc j hj,Addr.add_lit,Nat.add_assoc]
   exact ⟨(f',c'),(hc 0 (by omega)).trans e0,(hc 1 (by omega)).trans e1⟩
  obtain ⟨f,hff⟩:=@Deep.choose_lt (Int × Int) ⟨(0,0)⟩ _ _ hall
  refine ⟨(List.range len).map f,⟨by simp,hlc,by omega,fun h=>by simp at h,fun _=>⟨b,off,rfl,World.block_lt_of_cell? w _ (hff 0 (by omega)).1,fun i hi=>?_⟩⟩,by omega⟩
  rw [jty f (0,0) hi];exact hff i hi
theorem qak {H:Type} {enc:TypeId × Value->H} {w:World} {held:Bool} {r:Reach} {b0:Nat} {v:Value} {d:DataW H} {p:List MemPlace}
 (hv:Value.okWide Tryz.prog w r b0 22 v) (h:DataW.Trod enc Tryz.prog w 0 (fun _=>true) held 22 v d p) (hw:wOK 22 d) :
 ∃ (a:Option Addr) (len cap:Nat),v=.slice a len cap/\cfgsAt w a len:=by
 obtain ⟨a,len,cap,rfl⟩:=okWide_slice Tryz.underlying22 hv
 obtain ⟨fuel,hf⟩:=h
 rcases jmr Tryz.underlying22 Tryz.underlying29 Tryz.cellsCfg hf hw with ⟨rfl,rfl,rfl⟩|⟨ad,rfl,hlc,hb,hrow⟩
 ·exact ⟨none,0,0,rfl,by omega,fun h=>by omega⟩
 ·rw [Tryz.bytesCfg] at hb
  have hb':len * 80<=140737488351232:=by simp only [reachBytes] at hb;omega
  by_cases h0:len=0
  ·subst h0
   exact ⟨some ad,0,cap,rfl,by omega,fun h=>by omega⟩
  obtain ⟨b,off,rfl⟩:∃ b off,ad=(aq b off):=by
   obtain ⟨cs,xs,n,hcl,hcc,_⟩:=hrow 0 (by omega)
   have:=hcc 0 (by omega)
   rw [List.getElem?_eq_getElem (by omega)] at this
   exact jk1 (by simpa using this)
  have hall:∀ i,i<len->cfgAt w b (off+i * 8):=by
   intro i hi
   obtain ⟨cs,xs,n,hcl,hcc,hxl,hf,hwt⟩:=hrow i hi
   have hxl':xs.length=8:=hxl
   obtain ⟨n0,e0,_⟩:=jbv (k:=0) (by omega) (hf 0 _ rfl) (jcs hxl' (by omega))
   obtain ⟨n1,e1,_⟩:=jbv (k:=1) (by omega) (hf 1 _ rfl) (jcs hxl' (by omega))
   obtain ⟨n2,e2,_⟩:=jbv (k:=2) (by omega) (hf 2 _ rfl) (jcs hxl' (by omega))
   obtain ⟨n3,e3,_⟩:=jbv (k:=3) (by omega) (hf 3 _ rfl) (jcs hxl' (by omega))
   obtain ⟨n4,e4,_⟩:=jbv (k:=4) (by omega) (hf 4 _ rfl) (jcs hxl' (by omega))
   obtain ⟨n5,e5,_⟩:=jbv (k:=5) (by omega) (hf 5 _ rfl) (jcs hxl' (by omega))
   obtain ⟨n6,e6,_⟩:=jbv (k:=6) (by omega) (hf 6 _ rfl) (jcs hxl' (by omega))
   obtain ⟨z,hz⟩:=Option.isSome_iff_exists.1 (jcs hxl' (show 7<8 by omega))
   have h7:DataW.trod enc Tryz.prog w 0 (fun _=>true) held n 27 ((cs.drop 7).take (Tryz.prog.cellsOf 27))=xs[7]?:=hf 7 _ rfl
   have hw7:wOK 27 z.1:=hwt 7 _ z rfl hz
   rw [hz] at h7
   rw [Tryz.cellsTiers,jpw (by omega)] at h7
   obtain ⟨a',l',c',hs⟩:∃ a l c,[cs[7]]=[Value.slice a l c]:=by
      rcases DataW.trod_slice Tryz.underlying27 h7 with ⟨hcs,_⟩|⟨ad,l,cp,_,_,_,_,hcs,_⟩
      ·exact ⟨_,_,_,hcs⟩
      ·exact ⟨_,_,_,hcs⟩
   rw [hs] at h7
   obtain ⟨ts,hts,hl16⟩:=jwb h7 hw7
   have e7:cs[7]?=some (.slice a' l' c'):=by rw [List.getElem?_eq_getElem (by omega)];simpa using hs
   have hc:∀ j,j<8->w.cell? (aq b (off+i * 8+j))=cs[j]?:=fun j hj=>by rw [← hcc j hj,Addr.add_lit,Nat.add_assoc]
   exact ⟨n0,n1,n2,n3,n4,n5,n6,a',l',c',ts,(hc 0 (by omega)).trans e0,(hc 1 (by omega)).trans e1,(hc 2 (by omega)).trans e2,(hc 3 (by omega)).trans e3,(hc 4 (by omega)).trans e4,(hc 5 (by omega)).trans e5,(hc 6 (by omega)).trans e6,(hc 7 (by omega)).trans e7,hts,hl16⟩
  obtain ⟨_,_,_,_,_,_,_,_,_,_,_,hc0,_⟩:=hall 0 (by omega)
  exact ⟨some (aq b off),len,cap,rfl,hb',fun _=>⟨b,off,rfl,World.block_lt_of_cell? w _ hc0,hall⟩⟩
end
theorem joa (k kb:Int) (hkb:IntKind.u8.wrap k=kb) (ns:List Int) (b off cap:Nat) (w:World) (hl:ns.length<=3) (hbw:b<w.heap.size) (hnum:∀ j,j<ns.length->∃ n:Nat,ns.getD j 0=n/\n<9223372036854775808/\w.cell? (aq b (off+j))=some (iv n)) :
 Calls Tryz.prog 108 #[iv k,.slice (some (aq b off)) ns.length cap] w fun e w'=>∃ v,e=.returned v/\w'.ownsRow w.heap.size 5 1 v (ja8 kb ns).length ((ja8 kb ns).map (Value.int .u8))/\Below w.heap.size w w':=by
 have HNUM:Hid (∀ j,j<ns.length->∃ n:Nat,ns.getD j 0=n/\n<9223372036854775808/\w.cell? (aq b (off+j))=some (iv n)):=hnum
 clear hnum
 obtain ⟨i0,hi,hz0,hz1,hz2⟩:=info_parts Tryz.infoU8
 generalize hB:w.heap.size=B at *
 have HB:Hid (w.heap.size=B):=hB
 go_enter Tryz.func108,Tryz.ntmps108
 go_wp2_with fail
 clear hB
 go_loopw [5,6] (fun fr i wr=>∃ j:Nat,j<=ns.length/\i=iv j/\wr.ownsRow B 5 1 fr (ja8 kb (ns.take j)).length ((ja8 kb (ns.take j)).map (Value.int .u8))/\Below B w wr) (fun _ i _=>ns.length - (intOf i).toNat)
 case atStart=>exact ⟨0,Nat.zero_le _,rfl,by simpa [ja8] using jg9 HB.out (.int .u8 kb),(Below.refl _ _).alloc (Nat.le_of_eq HB.out.symm) _⟩
 case round =>
  obtain ⟨j,hj,rfl,hown,hbel⟩:=hrel
  have hBr:B<=wr.heap.size:=by have:=hbel.size;rw [HB.out] at this;exact this
  by_cases hlt:j<ns.length
  ·obtain ⟨m,hm,hml,hmc⟩:=HNUM.out j hlt
   have hcx:wr.cell? (aq b (off+j))=some (iv m):=(hbel.cell (p:=(aq b (off+j))) hbw).trans hmc
   have hfl:(ja8 kb (ns.take j)).length<=100:=by
    have:=jfn kb ns (fun j hj=>let ⟨n,h1,h2,_⟩:=HNUM.out j hj;⟨n,h1,h2⟩) j (by omega)
    omega
   have hcl:=jje hml
   have HF:Hid (ja8 kb (ns.take (j+1))=ja8 kb (ns.take j)++jds m):=ji7 kb ns j m hlt hm
   clear hm hmc
   generalize hX:ja8 kb (ns.take j)=X at *
   clear hX
   generalize hR:wr.heap.size=R at *
   have HR:Hid (wr.heap.size=R):=hR
   clear hR
   go_wp2_with (first
    | (go_at_call 141;refine (jnj m _ hml).mono ?_;rintro e w2 ⟨g,cap,rfl,hgc,hb2⟩)
    | (at_builtin;refine wpList_append_own _ rfl _ _ 92 rfl B 5 i0 (.int .u8 0) 1 1 Tryz.underlying92 hi hz0 hz1 hz2 rfl (by decide) _ _ _ rfl (jam hown hb2 (Nat.le_refl _)) (aq g 0) _ _ ((jds m).map (Value.int .u8)) rfl (by simp) hgc (ints_oneCell _ _) (by unfold maxLen;omega) (by omega) (by have:=hb2.size;rw [HR.out] at this;omega) ?_))
   intro v' w3 hown3 hgrow _
   have HP:Hid (w3.ownsRow B 5 1 v' (X++jds m).length ((X++jds m).map (Value.int .u8))/\Below B w w3):=jnr rfl hown hbel hb2 (by rw [HR.out];exact hBr) hown3 hgrow
   clear hown3 hgrow hgc hb2 hown hcx
   go_wp2
   go_roundw
   case rel=>exact ⟨j+1,by omega,by go_num,by rw [HF.out];exact HP.out.1,HP.out.2⟩
   case measure=>simp [intOf];omega
  ·have HE:Hid (ns.take j=ns):=List.take_of_length_le (by omega)
   rw [HE.out] at hown
   go_wp2
   go_ret
   exact ⟨_,rfl,hown,hbel⟩
def abv (n:Int):Int:=if n<0 then 0 else n
theorem jz5 (n:Int) (w:World) :
 Calls Tryz.prog 122 #[iv n] w fun e w'=>e=.returned (iv (abv n))/\w=w':=by
 unfold abv
 by_cases h:n<0
 ·rw [if_pos h]
  have hd:decide (n<0)=true:=by simpa using h
  go_enter Tryz.func122,Tryz.ntmps122
  go_wp2
  go_ret
  exact ⟨rfl,rfl⟩
 ·rw [if_neg h]
  have hd:decide (n<0)=false:=by simpa using h
  go_enter Tryz.func122,Tryz.ntmps122
  go_wp2
  go_ret
  exact ⟨rfl,rfl⟩
theorem jyh {w:World} {B n:Nat} {v:Value} {l:List Int} (h:w.ownsRow B 5 1 v n (l.map (Value.int .u8))) (hb:∀ x∈l,0<=x/\x<256) (hn:l.length=n):∃ a cap,v=.slice a n cap/\ja6 w a n cap l:=by
 rcases h.2 with ⟨rfl,h0⟩|⟨g,cap,cur,rfl,hg,hh,h1,h2,h3⟩
 ·have:l=[]:=List.length_eq_zero_iff.1 (hn.trans h0)
  exact ⟨none,0,by rw [h0],by rw [this,h0];rfl,by omega,by unfold maxLen;omega,by rw [this];simp,fun hne=>absurd this hne⟩
 ·refine ⟨_,cap,rfl,hn,h1,h2,hb,fun _=>⟨g,0,rfl,(blt hh),fun i hi=>?_⟩⟩
  have:=h.cells (g:=g) rfl i (.int .u8 (l.getD i 0)) (by simp [List.getElem?_map,List.getD,List.getElem?_eq_getElem (show i<l.length by omega)])
  rwa [Addr.add_lit] at this
theorem jkh {x:Int} (h:x<=9223372036854775807):∃ n:Nat,abv x=n/\n<9223372036854775808:=by
 unfold abv
 split
 ·exact ⟨0,rfl,by decide⟩
 ·exact ⟨x.toNat,by omega,by omega⟩
theorem jy4 (k:Int):0<=IntKind.u8.wrap k/\IntKind.u8.wrap k<256:=by
 have h:IntKind.u8.wrap k=k % 256:=by simp [IntKind.wrap,IntKind.signed,IntKind.bits]
 rw [h]
 omega
theorem jkr {k:Int} (hk:0<=k/\k<256) (ns:List Int):∀ x∈ja8 k ns,0<=x/\x<256:=by
 intro x hx
 unfold ja8 at hx
 rcases List.mem_cons.1 hx with rfl|hx
 ·exact hk
 ·obtain ⟨n,_,hn⟩:=List.mem_flatMap.1 hx
  exact jrb _ x hn
theorem jyt (o:OpV) (w:World) (ho:qcu o) :
 Calls Tryz.prog 86 #[o.val] w fun e w'=>∃ s:ByteArray,e=.returned (.string s)/\s.size<=140737488351232/\Below w.heap.size w w':=by
 have HAB:Hid (∀ n W,Calls Tryz.prog 122 #[iv n] W fun e w'=>e=.returned (iv (abv n))/\W=w'):=jz5
 obtain ⟨ok,oa,ob,oc,od,oe,os⟩:=o
 unfold OpV.val
 simp only
 replace ho:Hid _:=ho
 by_cases hp:ob=4
 ·subst hp
  go_enter Tryz.func86,Tryz.ntmps86
  go_wp2_with fail
  go_region_held3 (fun w'=>w'.cell? (aq w.heap.size 3)=some (iv oc)/\w'.cell? (aq w.heap.size 4)=some (iv od)/\w'.cell? (aq w.heap.size 5)=some (iv oe)) (simp [go_sem, *])
   (first|(go_at_call 122;refine (HAB.out _ _).mono ?_;rintro e w1 ⟨rfl,rfl⟩))
  go_wp2_with fail
  have nb:(((w.alloc (.cells #[iv ok,iv oa,iv 4,iv oc,iv od,iv oe,.string os] 69)).alloc (.cells #[iv (abv oc),iv (abv od),iv (abv oe)] 3)).drew).heap[w.heap.size+1]?=some (.cells #[iv (abv oc),iv (abv od),iv (abv oe)] 3 (0,0)):=by
   have h:=heap_alloc_new (w.alloc (.cells #[iv ok,iv oa,iv 4,iv oc,iv od,iv oe,.string os] 69)) (.cells #[iv (abv oc),iv (abv od),iv (abv oe)] 3)
   rw [show (w.alloc (.cells #[iv ok,iv oa,iv 4,iv oc,iv od,iv oe,.string os] 69)).heap.size=w.heap.size+1 by simp] at h
   exact h
  have hbl:Below w.heap.size w (((w.alloc (.cells #[iv ok,iv oa,iv 4,iv oc,iv od,iv oe,.string os] 69)).alloc (.cells #[iv (abv oc),iv (abv od),iv (abv oe)] 3)).drew):=Below.drew (((Below.refl _ _).alloc (Nat.le_refl _) _).alloc (by simp) _)
  have hbz:w.heap.size+1<(((w.alloc (.cells #[iv ok,iv oa,iv 4,iv oc,iv od,iv oe,.string os] 69)).alloc (.cells #[iv (abv oc),iv (abv od),iv (abv oe)] 3)).drew).heap.size:=(blt nb)
  generalize ((w.alloc (.cells #[iv ok,iv oa,iv 4,iv oc,iv od,iv oe,.string os] 69)).alloc (.cells #[iv (abv oc),iv (abv od),iv (abv oe)] 3)).drew=W at nb hbl hbz ⊢
  obtain ⟨z0,z1,z2⟩:=jf3 nb
  obtain ⟨nc,hc1,hc2⟩:=jkh ho.out.2.2.2.1.2
  obtain ⟨nd,hd1,hd2⟩:=jkh ho.out.2.2.2.2.1.2
  obtain ⟨ne,he1,he2⟩:=jkh ho.out.2.2.2.2.2.1.2
  have hn:∀ j,j<[abv od,abv oe].length->∃ n:Nat,[abv od,abv oe].getD j 0=n/\n<9223372036854775808/\W.cell? (aq (w.heap.size+1) (1+j))=some (iv n):=fun j hj=>by
   match j,hj with
   | 0,_=>exact ⟨nd,hd1,hd2,by rw [← hd1];exact z1⟩
   | 1,_=>exact ⟨ne,he1,he2,by rw [← he1];exact z2⟩
  have hlen:=jfn (IntKind.u8.wrap 4) [abv od,abv oe] (fun j hj=>let ⟨n,h1,h2,_⟩:=hn j hj;⟨n,h1,h2⟩) [abv od,abv oe].length (Nat.le_refl _)
  rw [List.take_length] at hlen
  refine (joa 4 _ rfl [abv od,abv oe] (w.heap.size+1) 1 2 W (by simp) hbz hn).mono ?_
  rintro e w2 ⟨v,rfl,hown,hb2⟩
  obtain ⟨a,cap,rfl,hsl⟩:=jyh hown (jkr (jy4 _) _) rfl
  have hcv:=je0 hsl
  have hb3:Below w.heap.size w w2:=hbl.trans (hb2.mono hbl.size)
  have hsz:(strOfNums (ja8 (IntKind.u8.wrap 4) [abv od,abv oe])).size<=140737488351232:=by
   have e:(strOfNums (ja8 (IntKind.u8.wrap 4) [abv od,abv oe])).size=(ja8 (IntKind.u8.wrap 4) [abv od,abv oe]).length:=by simp [strOfNums,ByteArray.size]
   rw [e]
   simp at hlen
   omega
  replace hsz:Hid _:=hsz
  clear hn hlen hown hsl nb hbl z0 z1 z2
  generalize ja8 (IntKind.u8.wrap 4) [abv od,abv oe]=fb at hcv hsz ⊢
  go_wp2
  go_ret
  exact ⟨_,rfl,hsz.out,hb3⟩
 ·have hq:(ob==4)=false:=by simpa using hp
  go_enter Tryz.func86,Tryz.ntmps86
  go_wp2_with fail
  go_region_held3 (fun w'=>w'.cell? (aq w.heap.size 3)=some (iv oc)/\w'.cell? (aq w.heap.size 4)=some (iv od)/\w'.cell? (aq w.heap.size 5)=some (iv oe)) (simp [go_sem, *])
   (first|(go_at_call 122;refine (HAB.out _ _).mono ?_;rintro e w1 ⟨rfl,rfl⟩))
  go_wp2_with fail
  have nb:(((w.alloc (.cells #[iv ok,iv oa,iv ob,iv oc,iv od,iv oe,.string os] 69)).alloc (.cells #[iv (abv oc),iv (abv od),iv (abv oe)] 3)).drew).heap[w.heap.size+1]?=some (.cells #[iv (abv oc),iv (abv od),iv (abv oe)] 3 (0,0)):=by
   have h:=heap_alloc_new (w.alloc (.cells #[iv ok,iv oa,iv ob,iv oc,iv od,iv oe,.string os] 69)) (.cells #[iv (abv oc),iv (abv od),iv (abv oe)] 3)
   rw [show (w.alloc (.cells #[iv ok,iv oa,iv ob,iv oc,iv od,iv oe,.string os] 69)).heap.size=w.heap.size+1 by simp] at h
   exact h
  have hbl:Below w.heap.size w (((w.alloc (.cells #[iv ok,iv oa,iv ob,iv oc,iv od,iv oe,.string os] 69)).alloc (.cells #[iv (abv oc),iv (abv od),iv (abv oe)] 3)).drew):=Below.drew (((Below.refl _ _).alloc (Nat.le_refl _) _).alloc (by simp) _)
  have hbz:w.heap.size+1<(((w.alloc (.cells #[iv ok,iv oa,iv ob,iv oc,iv od,iv oe,.string os] 69)).alloc (.cells #[iv (abv oc),iv (abv od),iv (abv oe)] 3)).drew).heap.size:=(blt nb)
  generalize ((w.alloc (.cells #[iv ok,iv oa,iv ob,iv oc,iv od,iv oe,.string os] 69)).alloc (.cells #[iv (abv oc),iv (abv od),iv (abv oe)] 3)).drew=W at nb hbl hbz ⊢
  obtain ⟨z0,z1,z2⟩:=jf3 nb
  obtain ⟨nc,hc1,hc2⟩:=jkh ho.out.2.2.2.1.2
  obtain ⟨nd,hd1,hd2⟩:=jkh ho.out.2.2.2.2.1.2
  obtain ⟨ne,he1,he2⟩:=jkh ho.out.2.2.2.2.2.1.2
  have hn:∀ j,j<[abv oc,abv od,abv oe].length->∃ n:Nat,[abv oc,abv od,abv oe].getD j 0=n/\n<9223372036854775808/\W.cell? (aq (w.heap.size+1) (0+j))=some (iv n):=fun j hj=>by
   match j,hj with
   | 0,_=>exact ⟨nc,hc1,hc2,by rw [← hc1];exact z0⟩
   | 1,_=>exact ⟨nd,hd1,hd2,by rw [← hd1];exact z1⟩
   | 2,_=>exact ⟨ne,he1,he2,by rw [← he1];exact z2⟩
  have hlen:=jfn (IntKind.u8.wrap ob) [abv oc,abv od,abv oe] (fun j hj=>let ⟨n,h1,h2,_⟩:=hn j hj;⟨n,h1,h2⟩) [abv oc,abv od,abv oe].length (Nat.le_refl _)
  rw [List.take_length] at hlen
  refine (joa ob _ rfl [abv oc,abv od,abv oe] (w.heap.size+1) 0 3 W (by simp) hbz hn).mono ?_
  rintro e w2 ⟨v,rfl,hown,hb2⟩
  obtain ⟨a,cap,rfl,hsl⟩:=jyh hown (jkr (jy4 _) _) rfl
  have hcv:=je0 hsl
  have hb3:Below w.heap.size w w2:=hbl.trans (hb2.mono hbl.size)
  have hsz:(strOfNums (ja8 (IntKind.u8.wrap ob) [abv oc,abv od,abv oe])).size<=140737488351232:=by
   have e:(strOfNums (ja8 (IntKind.u8.wrap ob) [abv oc,abv od,abv oe])).size=(ja8 (IntKind.u8.wrap ob) [abv oc,abv od,abv oe]).length:=by simp [strOfNums,ByteArray.size]
   rw [e]
   simp at hlen
   omega
  replace hsz:Hid _:=hsz
  clear hn hlen hown hsl nb hbl z0 z1 z2
  generalize ja8 (IntKind.u8.wrap ob) [abv oc,abv od,abv oe]=fb at hcv hsz ⊢
  go_wp2
  go_ret
  exact ⟨_,rfl,hsz.out,hb3⟩
theorem jcr {w:World} {R:Nat} {c0 c1 c2 c3 c4 c5 c6:Value} {T:TypeId} (h:w.heap[R]?=some (.cells #[c0,c1,c2,c3,c4,c5,c6] T (0,0))):w.cell? (aq R 0)=some c0/\w.cell? (aq R 1)=some c1/\w.cell? (aq R 2)=some c2/\w.cell? (aq R 3)=some c3/\w.cell? (aq R 4)=some c4/\w.cell? (aq R 5)=some c5/\w.cell? (aq R 6)=some c6:=by
 refine ⟨?_,?_,?_,?_,?_,?_,?_⟩<;>(rw [Joins.cell_of_block h];rfl)
theorem jvq (x R:Nat) (o:OpV) (w:World) (ho:o.k=12) (Q:World->Prop)
 (HS:Hid (∀ W,Below w.heap.size w W->Calls Tryz.prog 85 #[.agg #[pt x 0,pt R 0],.string o.s] W fun r w'=>r=.returned (.bool true)/\Q w')) :
 Calls Tryz.prog 51 #[.agg #[pt x 0,pt R 0],o.val] w fun r w'=>r=.returned (.bool true)/\Q w':=by
 obtain ⟨ok,oa,ob,oc,od,oe,os⟩:=o
 simp only at ho HS
 subst ho
 unfold OpV.val
 simp only
 go_enter Tryz.func51,Tryz.ntmps51
 go_wp2_with fail
 refine (HS.out _ bL).mono ?_
 rintro e w1 ⟨rfl,hq⟩
 go_wp2
 go_ret
 exact ⟨rfl,hq⟩
theorem qad (x R:Nat) (o:OpV) (w:World) (ho:o.k=11) (hok:qcu o) (Q:World->Prop) (fp:Nat->Prop) (hfp:∀ b,fp b->b<w.heap.size)
 (HS:Hid (∀ s:ByteArray,s.size<=140737488351232->∀ W,Below w.heap.size w W->Calls Tryz.prog 85 #[.agg #[pt x 0,pt R 0],.string s] W fun r w'=>r=.returned (.bool true)/\Q w'/\Same fp W w')) :
 Calls Tryz.prog 51 #[.agg #[pt x 0,pt R 0],o.val] w fun r w'=>r=.returned (.bool true)/\Q w':=by
 have HF:Hid (∀ W,Calls Tryz.prog 86 #[o.val] W fun e w'=>∃ s:ByteArray,e=.returned (.string s)/\s.size<=140737488351232/\Below W.heap.size W w'):=fun W=>jyt o W hok
 clear hok
 obtain ⟨ok,oa,ob,oc,od,oe,os⟩:=o
 simp only at ho
 subst ho
 unfold OpV.val at HF ⊢
 simp only at HF ⊢
 go_enter Tryz.func51,Tryz.ntmps51
 go_wp2_with fail
 have pr:((w.alloc (.cells #[pt x 0,pt R 0] 127)).alloc (.cells #[iv 11,iv oa,iv ob,iv oc,iv od,iv oe,.string os] 69)).heap[w.heap.size]?=some (.cells #[pt x 0,pt R 0] 127 (0,0)):=(Below.heap_alloc _ _ _ (by simp)).trans (heap_alloc_new w _)
 have qr:((w.alloc (.cells #[pt x 0,pt R 0] 127)).alloc (.cells #[iv 11,iv oa,iv ob,iv oc,iv od,iv oe,.string os] 69)).heap[w.heap.size+1]?=some (.cells #[iv 11,iv oa,iv ob,iv oc,iv od,iv oe,.string os] 69 (0,0)):=by
  have h:=heap_alloc_new (w.alloc (.cells #[pt x 0,pt R 0] 127)) (.cells #[iv 11,iv oa,iv ob,iv oc,iv od,iv oe,.string os] 69)
  rwa [show (w.alloc (.cells #[pt x 0,pt R 0] 127)).heap.size=w.heap.size+1 by simp] at h
 have hbl:Below w.heap.size w ((w.alloc (.cells #[pt x 0,pt R 0] 127)).alloc (.cells #[iv 11,iv oa,iv ob,iv oc,iv od,iv oe,.string os] 69)):=((Below.refl _ _).alloc (Nat.le_refl _) _).alloc (by simp) _
 generalize (w.alloc (.cells #[pt x 0,pt R 0] 127)).alloc (.cells #[iv 11,iv oa,iv ob,iv oc,iv od,iv oe,.string os] 69)=W0 at pr qr hbl ⊢
 obtain ⟨u0,u1⟩:=jd1 pr
 obtain ⟨v0,v1,v2,v3,v4,v5,v6⟩:=jcr qr
 have hz1:w.heap.size<W0.heap.size:=(blt pr)
 have hz2:w.heap.size+1<W0.heap.size:=(blt qr)
 replace pr:Hid _:=pr
 replace qr:Hid _:=qr
 replace hbl:Hid _:=hbl
 go_region_held3 (fun w'=>w'.cell? (aq w.heap.size 0)=some (pt x 0)/\w'.cell? (aq w.heap.size 1)=some (pt R 0)/\w'.cell? (aq (w.heap.size+1) 0)=some (iv 11)/\w'.cell? (aq (w.heap.size+1) 1)=some (iv oa)/\w'.cell? (aq (w.heap.size+1) 2)=some (iv ob)/\w'.cell? (aq (w.heap.size+1) 3)=some (iv oc)/\w'.cell? (aq (w.heap.size+1) 4)=some (iv od)/\w'.cell? (aq (w.heap.size+1) 5)=some (iv oe)/\w'.cell? (aq (w.heap.size+1) 6)=some (.string os)) (simp [go_sem, *])
  (first
    | (go_at_call 86;refine (HF.out _).mono ?_;rintro e w1 ⟨s,rfl,hs,b⟩
       have hb1:Below W0.heap.size W0 w1:=by first|exact b|exact Below.trans (show Below W0.heap.size W0 _ from bL) b
       have pr1:Hid _:=(hb1.block _ hz1).trans pr.out
       have qr1:Hid _:=(hb1.block _ hz2).trans qr.out
       have hbl1:Hid (Below w.heap.size w w1):=Below.trans hbl.out (hb1.mono hbl.out.size)
       have zz1:w.heap.size+1<w1.heap.size:=Nat.lt_of_lt_of_le hz2 hb1.size
       obtain ⟨a0,a1⟩:=jd1 pr1.out
       obtain ⟨c0,c1,c2,c3,c4,c5,c6⟩:=jcr qr1.out
       clear b hb1)
    | (go_at_call 85;refine (HS.out s hs _ bL).mono ?_;rintro e w2 ⟨rfl,hq,hs2⟩
       obtain ⟨d0,d1⟩:=jd1 ((hs2.block w.heap.size (by first|omega|(simp;omega)) (fun e=>by have:=hfp _ e;omega)).trans pr1.out)
       obtain ⟨f0,f1,f2,f3,f4,f5,f6⟩:=jcr ((hs2.block (w.heap.size+1) (by first|omega|(simp;omega)) (fun e=>by have:=hfp _ e;omega)).trans qr1.out)
       clear hs2))
 go_wp2
 go_ret
 exact ⟨rfl,hq⟩
end Go.Proofs.YtfhncfghblkgeaaGreat
