import Derived.Test.YtfhncfghblkgeabGreatL30
set_option maxRecDepth 100000
set_option maxHeartbeats 2000000
namespace Go.Proofs.YtfhncfghblkgeabGreat
open Go.RowKit
theorem wN {w:World} {s:ByteArray} (hs:s.size<=140737488351232) :
 qJ (w.drew.alloc (.cells (bytesRow s (grownCap w s.size 0 5)) 5 ((bytesRow s (grownCap w s.size 0 5)).size,(bytesRow s (grownCap w s.size 0 5)).size+1))) (some (aq w.heap.size 0)) s.size (grownCap w s.size 0 5) (jR s):=by
 refine ⟨vM s,grownCap_ge w _ _ _,grownCap_le_maxLen w _ _ _ (by unfold maxLen;omega),nE s,fun _=>⟨w.heap.size,0,rfl,by simp,fun i hi=>?_⟩⟩
 have h1:=World.cell?_alloc_mark w.drew (bytesRow s (grownCap w s.size 0 5)) 5 ((bytesRow s (grownCap w s.size 0 5)).size,(bytesRow s (grownCap w s.size 0 5)).size+1) (0+i)
 refine h1.trans ?_
 have hi':i<s.data.size:=hi
 rw [Nat.zero_add,bytesRow_at s _ i hi']
 simp [jR,List.getD,Array.getElem?_eq_getElem hi']
theorem Jy (s:ByteArray) (w:World) (hs:s.size<=140737488351232) :
 Ca 49 #[.string s] w fun e w'=>e=.returned (.bool true)/\Below w.heap.size w w':=by
 have hcv:=fun w':World=>run_bytes_of_string (P:=Tryz.prog) w' 9 70 5 s Tryz.underlying9 Tryz.underlying70 Tryz.underlying5
 go_enter Tryz.func49,Tryz.ntmps49
 go_wp2_with fail
 refine (rQ s _ hs).mono ?_
 rintro e w1 ⟨g,rfl,hg,hrow,b1⟩
 have HROW:Hid (w1.heap[g]?=some (.cells ((dN s).map (Value.int .u8)).toArray 5 (0,0))):=hrow
 have hg1:g<w1.heap.size:=(blt hrow)
 clear hrow
 go_wp2_with fail
 refine (sC _ _ _ _ _ (sP HROW.out hs)).mono ?_
 rintro e w2 ⟨k,t,c,u,o,err,rfl,hun,b2⟩
 have HUN:Hid (UN (jR s) k t c u o err):=hun
 have HROW2:Hid (w2.heap[g]?=some (.cells ((dN s).map (Value.int .u8)).toArray 5 (0,0))):=(b2.block g hg1).trans HROW.out
 have hg2:g<w2.heap.size:=uB hg1 b2.size
 have w02:Below w.heap.size w w2:=b1.trans (b2.mono b1.size)
 clear hun
 go_wp2_with fail
 have hsl:Hid (qJ ((w2.alloc (.cells #[iv k,iv t,iv c,iv u,iv o] 39)).drew.alloc (.cells (bytesRow s (grownCap (w2.alloc (.cells #[iv k,iv t,iv c,iv u,iv o] 39)) s.size 0 5)) 5 ((bytesRow s (grownCap (w2.alloc (.cells #[iv k,iv t,iv c,iv u,iv o] 39)) s.size 0 5)).size,(bytesRow s (grownCap (w2.alloc (.cells #[iv k,iv t,iv c,iv u,iv o] 39)) s.size 0 5)).size+1))) (some (aq (w2.heap.size+1) 0)) s.size (grownCap (w2.alloc (.cells #[iv k,iv t,iv c,iv u,iv o] 39)) s.size 0 5) (jR s)):=by
  have h:=wN (w:=w2.alloc (.cells #[iv k,iv t,iv c,iv u,iv o] 39)) hs
  rw [show (w2.alloc (.cells #[iv k,iv t,iv c,iv u,iv o] 39)).heap.size=w2.heap.size+1 from by simp] at h
  exact h
 refine (eD _ _ _ _ _ hsl.out).mono ?_
 rintro e w3 ⟨k',t',c',u',o',err',rfl,hun',b3⟩
 obtain ⟨rfl,rfl,rfl,rfl,rfl,rfl⟩:=Tk HUN.out hun'
 have s3:w2.heap.size+1<w3.heap.size:=by have:=b3.size;simp at this;omega
 have hR1:Hid (w3.heap[w2.heap.size]?=some (.cells #[iv k,iv t,iv c,iv u,iv o] 39)):=(b3.block w2.heap.size uT).trans ((uE _ _ _ vS).trans (uF w2 _))
 have HROW3:Hid (w3.heap[g]?=some (.cells ((dN s).map (Value.int .u8)).toArray 5 (0,0))):=(b3.block g uT).trans ((uE _ _ _ uT).trans ((uE _ _ _ hg2).trans HROW2.out))
 have w03:Below w.heap.size w w3:=uL ((w02.alloc w02.size _).drew.alloc (by have:=w02.size;simp;omega) _) (b3.mono (by have:=w02.size;simp;omega))
 clear hun' hsl b3 hcv
 go_wp2_with fail
 refine (mS g s _ hs ((uE _ _ _ uO).trans HROW3.out)).mono ?_
 rintro e w4 ⟨rfl,g4⟩
 obtain ⟨x0,x1,x2,x3,x4⟩:=yD ((g4.block w2.heap.size uT uT).trans ((uE _ _ _ uO).trans hR1.out))
 obtain ⟨y0,y1,y2,y3,y4⟩:=yD ((g4.block w3.heap.size vS uT).trans (uF w3 _))
 have w04:Below w.heap.size w w4:=(w03.alloc w03.size _).grown g4 (by have:=w03.size;simp;omega) (fun j hj=>by simp at hj;omega)
 clear g4
 go_wp2
 go_ret
 exact ⟨rfl,w04⟩
theorem xM {w:World} {R:Nat} {c0 c1:Value} {T:TypeId} (h:w.heap[R]?=some (.cells #[c0,c1] T)):w.cell? (aq R 0)=some c0/\w.cell? (aq R 1)=some c1 :=
 ⟨cB h,cB h⟩
theorem Mg (x R:Nat) (s:ByteArray) (w:World) (hs:s.size<=140737488351232) (p0 p1 p2 p3:Int) (own ownR:Nat->Prop) (hown:∀ b,own b->b<w.heap.size) (hownR:∀ b,ownR b->b<w.heap.size) (Q1 Q2:World->World->Prop)
 (HPS:Hid (∀ W g,Below w.heap.size w W->w.heap.size<=g->W.heap[g]?=some (.cells ((dN s).map (Value.int .u8)).toArray 5 (0,0))->Ca 27 #[pt x 0,.slice (some (aq g 0)) s.size (s.size+8)] W fun e w'=>e=.returned (.agg #[iv p0,iv p1,iv p2,iv p3])/\Q1 W w'/\Same own W w'))
 (HQ1:Hid (∀ Wc W W',Q1 Wc W->Below W.heap.size W W'->Q1 Wc W'))
 (HRS:Hid (∀ Wc W b cap,Below w.heap.size w Wc->Q1 Wc W->Wc.heap.size<=b->qJ W (some (aq b 0)) s.size cap (jR s)->Ca 118 #[pt R 0,.slice (some (aq b 0)) s.size cap] W fun e w'=>e=.returned (.agg #[iv p0,iv p1,iv p2,iv p3])/\Q2 Wc w'/\Same ownR W w'))
 (HQ2:Hid (∀ Wc W W',Q2 Wc W->Below W.heap.size W W'->Q2 Wc W'))
 (HQ3:Hid (∀ Wc W W' b,Below w.heap.size w Wc->w.heap.size<=b->b<Wc.heap.size->Q2 Wc W->W.grownBy W' (some b)->Q2 Wc W')) :
 Ca 88 #[.agg #[pt x 0,pt R 0],.string s] w fun e w'=>e=.returned (.bool true)/\∃ Wc,Below w.heap.size w Wc/\Q2 Wc w':=by
 have hcv:=fun w':World=>run_bytes_of_string (P:=Tryz.prog) w' 9 70 5 s Tryz.underlying9 Tryz.underlying70 Tryz.underlying5
 go_enter Tryz.func88,Tryz.ntmps88
 go_wp2_with fail
 refine (rQ s _ hs).mono ?_
 rintro e w1 ⟨g,rfl,hg,hrow,b1⟩
 have HROW:Hid (w1.heap[g]?=some (.cells ((dN s).map (Value.int .u8)).toArray 5 (0,0))):=hrow
 have hg1:g<w1.heap.size:=(blt hrow)
 have hgw:w.heap.size+1<=g:=by simpa using hg
 have w01:Below w.heap.size w w1:=uL ((uM _ _).alloc (uA _) _) (b1.mono vS)
 have pr:Hid (w1.heap[w.heap.size]?=some (.cells #[pt x 0,pt R 0] 119)):=(b1.block _ vS).trans (uF w _)
 obtain ⟨u0,u1⟩:=xM pr.out
 have hw1:w.heap.size<w1.heap.size:=uO
 clear hrow hg b1
 go_wp2_with fail
 refine (HPS.out w1 g w01 uO HROW.out).mono ?_
 rintro e w2 ⟨rfl,hq1,hs2⟩
 have hz2:=hs2.size
 have pr2:Hid (w2.heap[w.heap.size]?=some (.cells #[pt x 0,pt R 0] 119)):=(hs2.block _ hw1 (fun e=>by have:=hown _ e;omega)).trans pr.out
 have HROW2:Hid (w2.heap[g]?=some (.cells ((dN s).map (Value.int .u8)).toArray 5 (0,0))):=(hs2.block g hg1 (fun e=>by have:=hown _ e;omega)).trans HROW.out
 obtain ⟨v0,v1⟩:=xM pr2.out
 have hw2:w.heap.size<w2.heap.size:=uO
 clear u0 u1 hs2 HROW
 go_wp2_with fail
 have hsl:Hid (qJ (((w2.alloc (.cells #[iv p0,iv p1,iv p2,iv p3] 33)).alloc (.cells (bytesRow s (grownCap (w2.alloc (.cells #[iv p0,iv p1,iv p2,iv p3] 33)) s.size 0 5)) 5 ((bytesRow s (grownCap (w2.alloc (.cells #[iv p0,iv p1,iv p2,iv p3] 33)) s.size 0 5)).size,(bytesRow s (grownCap (w2.alloc (.cells #[iv p0,iv p1,iv p2,iv p3] 33)) s.size 0 5)).size+1))).drew) (some (aq (w2.heap.size+1) 0)) s.size (grownCap (w2.alloc (.cells #[iv p0,iv p1,iv p2,iv p3] 33)) s.size 0 5) (jR s)):=by
  have h:=wN (w:=(w2.alloc (.cells #[iv p0,iv p1,iv p2,iv p3] 33))) hs
  rw [show (w2.alloc (.cells #[iv p0,iv p1,iv p2,iv p3] 33)).heap.size=w2.heap.size+1 from by simp] at h
  exact h
 have hbl:Below w2.heap.size w2 (((w2.alloc (.cells #[iv p0,iv p1,iv p2,iv p3] 33)).alloc (.cells (bytesRow s (grownCap (w2.alloc (.cells #[iv p0,iv p1,iv p2,iv p3] 33)) s.size 0 5)) 5 ((bytesRow s (grownCap (w2.alloc (.cells #[iv p0,iv p1,iv p2,iv p3] 33)) s.size 0 5)).size,(bytesRow s (grownCap (w2.alloc (.cells #[iv p0,iv p1,iv p2,iv p3] 33)) s.size 0 5)).size+1))).drew):=Below.drew (((uM _ _).alloc (uA _) _).alloc vS _)
 have HROW3:Hid ((((w2.alloc (.cells #[iv p0,iv p1,iv p2,iv p3] 33)).alloc (.cells (bytesRow s (grownCap (w2.alloc (.cells #[iv p0,iv p1,iv p2,iv p3] 33)) s.size 0 5)) 5 ((bytesRow s (grownCap (w2.alloc (.cells #[iv p0,iv p1,iv p2,iv p3] 33)) s.size 0 5)).size,(bytesRow s (grownCap (w2.alloc (.cells #[iv p0,iv p1,iv p2,iv p3] 33)) s.size 0 5)).size+1))).drew).heap[g]?=some (.cells ((dN s).map (Value.int .u8)).toArray 5 (0,0))):=(hbl.block g uO).trans HROW2.out
 have rp3:Hid ((((w2.alloc (.cells #[iv p0,iv p1,iv p2,iv p3] 33)).alloc (.cells (bytesRow s (grownCap (w2.alloc (.cells #[iv p0,iv p1,iv p2,iv p3] 33)) s.size 0 5)) 5 ((bytesRow s (grownCap (w2.alloc (.cells #[iv p0,iv p1,iv p2,iv p3] 33)) s.size 0 5)).size,(bytesRow s (grownCap (w2.alloc (.cells #[iv p0,iv p1,iv p2,iv p3] 33)) s.size 0 5)).size+1))).drew).heap[w2.heap.size]?=some (.cells #[iv p0,iv p1,iv p2,iv p3] 33)):=(uE (w2.alloc (.cells #[iv p0,iv p1,iv p2,iv p3] 33)) _ _ vS).trans (uF w2 _)
 have hq1':=HQ1.out w1 w2 _ hq1 hbl
 have hz3:w2.heap.size+2<=(((w2.alloc (.cells #[iv p0,iv p1,iv p2,iv p3] 33)).alloc (.cells (bytesRow s (grownCap (w2.alloc (.cells #[iv p0,iv p1,iv p2,iv p3] 33)) s.size 0 5)) 5 ((bytesRow s (grownCap (w2.alloc (.cells #[iv p0,iv p1,iv p2,iv p3] 33)) s.size 0 5)).size,(bytesRow s (grownCap (w2.alloc (.cells #[iv p0,iv p1,iv p2,iv p3] 33)) s.size 0 5)).size+1))).drew).heap.size:=by show w2.heap.size+2<=((w2.alloc (.cells #[iv p0,iv p1,iv p2,iv p3] 33)).alloc (.cells (bytesRow s (grownCap (w2.alloc (.cells #[iv p0,iv p1,iv p2,iv p3] 33)) s.size 0 5)) 5 ((bytesRow s (grownCap (w2.alloc (.cells #[iv p0,iv p1,iv p2,iv p3] 33)) s.size 0 5)).size,(bytesRow s (grownCap (w2.alloc (.cells #[iv p0,iv p1,iv p2,iv p3] 33)) s.size 0 5)).size+1))).heap.size;simp
 clear hcv hq1 hbl HROW2 v0 v1
 generalize grownCap (w2.alloc (.cells #[iv p0,iv p1,iv p2,iv p3] 33)) s.size 0 5=gc at hsl HROW3 rp3 hq1' hz3 ⊢
 generalize ((w2.alloc (.cells #[iv p0,iv p1,iv p2,iv p3] 33)).alloc (.cells (bytesRow s gc) 5 ((bytesRow s gc).size,(bytesRow s gc).size+1))).drew=W3 at hsl HROW3 rp3 hq1' hz3 ⊢
 refine (HRS.out w1 W3 (w2.heap.size+1) gc w01 hq1' uO hsl.out).mono ?_
 rintro e w3 ⟨rfl,hq2,hs3⟩
 have hz4:=hs3.size
 have rp4:Hid (w3.heap[w2.heap.size]?=some (.cells #[iv p0,iv p1,iv p2,iv p3] 33)):=(hs3.block _ uO (fun e=>by have:=hownR _ e;omega)).trans rp3.out
 have HROW4:Hid (w3.heap[g]?=some (.cells ((dN s).map (Value.int .u8)).toArray 5 (0,0))):=(hs3.block g uO (fun e=>by have:=hownR _ e;omega)).trans HROW3.out
 have hg3:g<w3.heap.size:=uO
 clear hsl HROW3 rp3 hs3 hq1'
 go_wp2_with fail
 refine (mS g s _ hs ((uE _ _ _ hg3).trans HROW4.out)).mono ?_
 rintro e w4 ⟨rfl,g4⟩
 have hqf:=HQ3.out w1 _ w4 g w01 uO hg1 (HQ2.out w1 w3 _ hq2 ((uM _ _).alloc (uA _) _)) g4
 obtain ⟨x0,x1,x2,x3⟩:=qC ((g4.block w2.heap.size uT uT).trans ((uE _ _ _ uO).trans rp4.out))
 obtain ⟨y0,y1,y2,y3⟩:=qC ((g4.block w3.heap.size vS uT).trans (uF w3 _))
 clear g4 hq2
 go_wp2
 go_ret
 exact ⟨rfl,w1,w01,hqf⟩
section
structure salJ (S:Sal):Prop where
 I:salI S
 cap:S.C.cap<=4294967296
 queue:1<=S.C.queue
 len:S.os.length<=4294967296
 ats:∀ a∈S.ansL,0<=a.at'/\a.at'<=4611686018427387904
def Xq (PS:World->Nat->(Nat->Prop)->Sal->Prop) (w w':World) (x:Nat) (own:Nat->Prop) (S':Sal):Prop :=
 ∃ own',PS w' x own' S'/\Same own w w'/\∀ k,own' k->own k\/w.heap.size<=k
structure SendOK (PS:World->Nat->(Nat->Prop)->Sal->Prop):Prop where
 lt:∀ {w x own S},PS w x own S->∀ k,own k->k<w.heap.size
 keep:∀ {w w' x own S},PS w x own S->w.heap.size<=w'.heap.size->(∀ k,own k->w'.heap[k]?=w.heap[k]?)->PS w' x own S
 send:∀ {w x own S ba bl bc bs k t c u o err},PS w x own S->salJ S->qJ w ba bl bc bs->UN bs k t c u o err->Ca 27 #[pt x 0,.slice ba bl bc] w fun e w'=>e=.returned (S.send bs ⟨k,t,c,u,o⟩ err).1.val/\Xq PS w w' x own (S.send bs ⟨k,t,c,u,o⟩ err).2
theorem Sb (S:Sal) (r:Req) (h:S.os.length<=4294967296):(S.ask r).2.os.length<=4294967296:=by
 unfold Sal.ask
 split
 ·exact h
 split
 ·exact h
 split
 ·exact h
 ·next g3 =>
  split
  ·show ((S.more ⟨r.cust,r.units,0,0,0,0⟩).holds S.os.length).os.length<=_
   rw [(lY S r.cust r.units).1]
   simp [Sal.more];omega
  split
  ·exact h
  ·simp [Sal.more];omega
theorem aJ:∀ (qs:List Nat) (S:Sal),(yM S qs).os.length=S.os.length
 | [],_=>rfl
 | q :: qs,S=>by
   have e:yM S (q :: qs)=yM (if S.left<(S.os.getD q qD).units then S.ends q 18 else S) qs:=rfl
   rw [e,aJ]
   split
   ·exact jU S q 18
   ·rfl
theorem Wu (S:Sal) (r:Req) (h:S.os.length<=4294967296):(S.doS r).2.os.length<=4294967296:=by
 unfold Sal.doS
 split
 ·exact Sb S r h
 split
 ·unfold Sal.confirm
  split
  ·exact h
  ·split
   ·exact h
   ·show (Sal.promote _).os.length<=_
    rw [jL,aJ,jU]
    exact h
 ·unfold Sal.cancel
  split
  ·exact h
  ·split
   ·exact h
   ·show (Sal.promote _).os.length<=_
    rw [jL,jU]
    exact h
theorem eL (S:Sal) (bs:List Int) (r:Req) (err:Int):(S.send bs r err).2.C=S.C/\(S.send bs r err).2.now=S.now/\(S.send bs r err).2.ansL.length<=S.ansL.length+1:=by
 unfold Sal.send
 split
 ·exact ⟨rfl,rfl,by simp⟩
 split
 ·exact ⟨rfl,rfl,by simp⟩
 split
 ·split<;>exact ⟨rfl,rfl,by simp⟩
 ·split
  ·exact ⟨rfl,rfl,by simp⟩
  ·obtain ⟨a,b,c⟩:=rP S r
   exact ⟨a,b,by simp [c]⟩
theorem Mb {S:Sal} (h:salJ S) (bs:List Int) (r:Req) (err:Int) (hI:salI (S.send bs r err).2):salJ (S.send bs r err).2:=by
 obtain ⟨a,b,c⟩:=eL S bs r err
 refine ⟨hI,by rw [a];exact h.cap,by rw [a];exact h.queue,?_,?_⟩
 ·unfold Sal.send
  split
  ·exact h.len
  split
  ·exact h.len
  split
  ·split<;>exact h.len
  ·split
   ·exact h.len
   ·exact Wu S r h.len
 ·unfold Sal.send
  split
  ·exact h.ats
  split
  ·exact h.ats
  split
  ·split<;>exact h.ats
  ·split
   ·exact h.ats
   ·intro x hx
    have hx':x∈(S.doS r).2.ansL++[⟨strOfNums bs,r.token,(S.doS r).1,S.now⟩]:=hx
    rw [(rP S r).2.2] at hx'
    rcases List.mem_append.1 hx' with hx'|hx'
    ·exact h.ats x hx'
    ·simp at hx';subst hx';exact h.I.now
structure SE where
 x:Nat
 R:Nat
 own:Nat->Prop
 ap:Option Addr
 lp:Nat
 cp:Nat
 vo:Value
 va:Value
 S:Sal
def SE.fp (e:SE) (b:Nat):Prop:=e.own b\/b=e.R\/e.vo.ownBlock=some b\/e.va.ownBlock=some b
structure entS (PS:World->Nat->(Nat->Prop)->Sal->Prop) (w:World) (B j:Nat) (e:SE):Prop where
 ps:PS w e.x e.own e.S
 ref:saleAt w B e.R e.S e.ap e.lp e.cp e.vo e.va
 J:salJ e.S
 hBR:B<=e.R
 apart:¬ e.own e.R/\(∀ k,e.vo.ownBlock=some k->¬ e.own k)/\∀ k,e.va.ownBlock=some k->¬ e.own k
 low:∀ k,e.own k->B<=k
 ans:e.S.ansL.length<=j
def SE.then (e e2:SE) (w:World):Prop:=e2.x=e.x/\e2.R=e.R/\∀ k,e2.fp k->e.fp k\/w.heap.size<=k
theorem Yj {S:Sal} (h:salJ S):S.os.length * 48+48<=140737488351232:=by have:=h.len;omega
section
variable {PS:World->Nat->(Nat->Prop)->Sal->Prop} {w w':World} {B j:Nat} {e:SE}
theorem dO (T:SendOK PS) (h:entS PS w B j e) {k:Nat} (hk:e.fp k):k<w.heap.size:=by
 rcases hk with hk|rfl|hk|hk
 ·exact T.lt h.ps k hk
 ·exact (blt h.ref.blk)
 ·exact (uJ h.ref.os k hk).2
 ·exact (uJ h.ref.ansL k hk).2
theorem Zf (T:SendOK PS) {own:Nat->Prop} (h:entS PS w B j e) (hs:Same own w w') (hn:∀ k,e.fp k->¬ own k) (hlow:∀ k,own k->B<=k):entS PS w' B (j+1) e :=
 ⟨T.keep h.ps hs.size (fun k hk=>hs.block k (T.lt h.ps k hk) (hn k (.inl hk))),xK h.ref hs (hn _ (.inr (.inl rfl))) (fun k hk=>hn k (.inr (.inr (.inl hk)))) (fun k hk=>hn k (.inr (.inr (.inr hk)))) (fun _ b off eq ho=>by have:=hlow b ho;have:=h.ref.low b off eq;omega),h.J,h.hBR,h.apart,h.low,Nat.le_succ_of_le h.ans⟩
end
end
section
theorem Sd (l:List Int):∃ k t c u o err,UN l k t c u o err:=by
 by_cases hx:∃ k t c u o:Int,QH k t c u o=true/\l=qE k (qT k t c u o)
 ·obtain ⟨k,t,c,u,o,h1,h2⟩:=hx
  exact ⟨k,t,c,u,o,0,.inl ⟨rfl,h1,h2⟩⟩
 ·exact ⟨0,0,0,0,0,2,.inr ⟨rfl,rfl,rfl,rfl,rfl,rfl,fun k t c u o h1 h2=>hx ⟨k,t,c,u,o,h1,h2⟩⟩⟩
structure sentQ (PS:World->Nat->(Nat->Prop)->Sal->Prop) (w Wc W:World) (B:Nat) (e:SE) (S2:Sal) (own':Nat->Prop) (vo' va':Value):Prop where
 ps:PS W e.x own' S2
 ref:saleAt W B e.R S2 e.ap e.lp e.cp vo' va'
 I:salI S2
 same:Same e.fp w W
 o:∀ k,own' k->e.own k\/Wc.heap.size<=k
 vo:∀ k,vo'.ownBlock=some k->e.vo.ownBlock=some k\/Wc.heap.size<=k
 va:∀ k,va'.ownBlock=some k->e.va.ownBlock=some k\/Wc.heap.size<=k
 apart:(∀ k,vo'.ownBlock=some k->¬ own' k)/\∀ k,va'.ownBlock=some k->¬ own' k
 size:Wc.heap.size<=W.heap.size
section
variable {PS:World->Nat->(Nat->Prop)->Sal->Prop} {w:World} {B j:Nat} {e:SE}
theorem Fi (T:SendOK PS) (h:entS PS w B j e) {Wc W W':World} {S2:Sal} {own':Nat->Prop} {vo' va':Value} {b:Nat} (hb:w.heap.size<=b) (hb2:b<Wc.heap.size) (hq:sentQ PS w Wc W B e S2 own' vo' va') (hs:Same (fun x=>x=b) W W'):sentQ PS w Wc W' B e S2 own' vo' va':=by
 have lt:=fun k hk=>dO T h (k:=k) hk
 have hRw:=lt e.R (.inr (.inl rfl))
 have hBR:=h.hBR
 refine ⟨T.keep hq.ps hs.size (fun k hk=>hs.block k (T.lt hq.ps k hk) (fun eq=>?_)),xK hq.ref hs (show e.R≠b by omega) (fun k hk=>?_) (fun k hk=>?_) (fun _ x off eq=>?_),hq.I,Same.trans hq.same hs (fun k hk eq=>eq.elim id (fun eq=>uO)),hq.o,hq.vo,hq.va,hq.apart,uX hq.size hs.size⟩
 ·rcases hq.o k hk with x|x
  ·have:=lt k (.inl x);omega
  ·omega
 ·show k≠b
  rcases hq.vo k hk with x|x
  ·have:=lt k (.inr (.inr (.inl x)));omega
  ·omega
 ·show k≠b
  rcases hq.va k hk with x|x
  ·have:=lt k (.inr (.inr (.inr x)));omega
  ·omega
 ·show x≠b
  have:=h.ref.low x off eq
  omega
theorem Ep (T:SendOK PS) (h:entS PS w B j e) (s:ByteArray) (hs:s.size<=140737488351232) (hj:(j+1) * 64<=140737488355328) :
 Ca 88 #[.agg #[pt e.x 0,pt e.R 0],.string s] w fun r w'=>r=.returned (.bool true)/\∃ e2,entS PS w' B (j+1) e2/\e.then e2 w/\Same e.fp w w':=by
 obtain ⟨k,t,c,u,o,err,hU⟩:=Sd (jR s)
 have lt:=fun k hk=>dO T h (k:=k) hk
 have hRw:=lt e.R (.inr (.inl rfl))
 have hBR:=h.hBR
 generalize hS2:(e.S.send (jR s) ⟨k,t,c,u,o⟩ err).2=S2
 generalize hP:(e.S.send (jR s) ⟨k,t,c,u,o⟩ err).1=P
 have hans:=(eL e.S (jR s) ⟨k,t,c,u,o⟩ err).2.2
 have hJ2:=Mb h.J (jR s) ⟨k,t,c,u,o⟩ err
 rw [hS2] at hans hJ2
 refine (Mg e.x e.R s w hs P.kind P.order P.cents P.upto e.own (fun b=>b=e.R\/e.vo.ownBlock=some b\/e.va.ownBlock=some b) (fun b hb=>lt b (.inl hb)) (fun b hb=>lt b (.inr hb))
  (fun Wc W=>∃ own',PS W e.x own' S2/\saleAt W B e.R e.S e.ap e.lp e.cp e.vo e.va/\Same e.own w W/\(∀ k,own' k->e.own k\/Wc.heap.size<=k)/\Wc.heap.size<=W.heap.size)
  (fun Wc W=>∃ own' vo' va',sentQ PS w Wc W B e S2 own' vo' va') (fun W g hW hg hrow=>?_) (fun Wc W W' hq hb=>?_) (fun Wc W b cap hc hq hb hsl=>?_) (fun Wc W W' hq hb=>?_) (fun Wc W W' b hc hb hb2 hq hg=>?_)).mono ?_
 ·have hps:PS W e.x e.own e.S:=T.keep h.ps hW.size (fun k hk=>hW.block k (lt k (.inl hk)))
  refine (T.send hps h.J (sP hrow hs) hU).mono ?_
  rintro r w' ⟨rfl,own',a1,a2,a3⟩
  rw [hS2] at a1
  rw [hP]
  refine ⟨rfl,⟨own',a1,xK (qL h.ref hW) a2 h.apart.1 h.apart.2.1 h.apart.2.2 (fun _ b off eq ho=>?_),Same.trans (Same.of_below (own:=fun _=>False) hW) a2 (fun k _ eq=>eq.elim False.elim id),a3,a2.size⟩,a2⟩
  have:=h.low b ho
  have:=h.ref.low b off eq
  omega
 ·obtain ⟨own',a1,a2,a3,a4,a5⟩:=hq
  exact ⟨own',T.keep a1 hb.size (fun k hk=>hb.block k (T.lt a1 k hk)),qL a2 hb,Same.trans a3 (Same.of_below (own:=fun _=>False) hb) (fun k _ eq=>eq.elim id False.elim),a4,uX a5 hb.size⟩
 ·obtain ⟨own',a1,a2,a3,a4,a5⟩:=hq
  have hcw:=hc.size
  refine (Fg a2 h.J.I h.hBR h.J.cap h.J.queue (Yj h.J) h.J.ats (by have:=h.ans;omega) hsl (fun _ b' off eq=>?_) hU).mono ?_
  ·simp at eq
   obtain ⟨rfl,rfl⟩:=eq
   refine ⟨uO,fun eq=>?_,fun eq=>?_⟩
   ·have:=lt _ (.inr (.inr (.inl eq)));omega
   ·have:=lt _ (.inr (.inr (.inr eq)));omega
  rintro r w' ⟨rfl,vo',va',b1,b2,b3,b4,b5⟩
  rw [hS2] at b1 b2
  rw [hP]
  have hno:∀ k,own' k->¬ (k=e.R\/e.vo.ownBlock=some k\/e.va.ownBlock=some k):=fun k hk=>by
   rcases a4 k hk with x|x
   ·rintro (eq|eq|eq)
    ·exact h.apart.1 (eq▸x)
    ·exact h.apart.2.1 k eq x
    ·exact h.apart.2.2 k eq x
   ·rintro (eq|eq|eq)
    ·omega
    ·have:=lt k (.inr (.inr (.inl eq)));omega
    ·have:=lt k (.inr (.inr (.inr eq)));omega
  refine ⟨rfl,⟨own',vo',va',T.keep a1 b3.size (fun k hk=>b3.block k (T.lt a1 k hk) (hno k hk)),b1,b2,Same.trans a3 b3 (fun k _ eq=>eq.elim .inl .inr),a4,fun k hk=>(b4 k hk).imp id (fun eq=>uO),fun k hk=>(b5 k hk).imp id (fun eq=>uO),⟨fun k hk ho=>?_,fun k hk ho=>?_⟩,uX a5 b3.size⟩,b3⟩
  ·rcases b4 k hk with x|x
   ·exact hno k ho (.inr (.inl x))
   ·have:=T.lt a1 k ho;omega
  ·rcases b5 k hk with x|x
   ·exact hno k ho (.inr (.inr x))
   ·have:=T.lt a1 k ho;omega
 ·obtain ⟨own',vo',va',hq⟩:=hq
  exact ⟨own',vo',va',T.keep hq.ps hb.size (fun k hk=>hb.block k (T.lt hq.ps k hk)),qL hq.ref hb,hq.I,Same.trans hq.same (Same.of_below (own:=fun _=>False) hb) (fun k _ eq=>eq.elim id False.elim),hq.o,hq.vo,hq.va,hq.apart,uX hq.size hb.size⟩
 ·obtain ⟨own',vo',va',hq⟩:=hq
  exact ⟨own',vo',va',Fi T h hb hb2 hq ⟨hg.os,hg.tape,hg.output,hg.size,fun k hk hn=>hg.block k hk (fun eq=>hn (by simpa using eq))⟩⟩
 ·rintro r w' ⟨rfl,Wc,hc,own',vo',va',hq⟩
  have hcw:=hc.size
  refine ⟨rfl,⟨e.x,e.R,own',e.ap,e.lp,e.cp,vo',va',S2⟩,⟨hq.ps,hq.ref,hJ2 hq.I,h.hBR,⟨fun ho=>?_,hq.apart.1,hq.apart.2⟩,fun k hk=>?_,uX hans (Nat.succ_le_succ h.ans)⟩,⟨rfl,rfl,fun k hk=>?_⟩,hq.same⟩
  ·rcases hq.o _ ho with x|x
   ·exact h.apart.1 x
   ·have:Wc.heap.size<=e.R:=x
    omega
  ·rcases hq.o k hk with x|x
   ·exact h.low k x
   ·show B<=k;omega
  ·rcases hk with hk|hk|hk|hk
   ·exact (hq.o k hk).imp .inl (fun x=>uO)
   ·exact .inl (.inr (.inl hk))
   ·exact (hq.vo k hk).imp (fun x=>.inr (.inr (.inl x))) (fun x=>uO)
   ·exact (hq.va k hk).imp (fun x=>.inr (.inr (.inr x))) (fun x=>uO)
end
end
theorem sQ (k kb:Int) (hkb:IntKind.u8.wrap k=kb) (ns:List Int) (b off cap:Nat) (w:World) (hl:ns.length<=3) (hbw:b<w.heap.size) (hnum:∀ j,j<ns.length->∃ n:Nat,ns.getD j 0=n/\n<9223372036854775808/\w.cell? (aq b (off+j))=some (iv n)) :
 Ca 108 #[iv k,.slice (some (aq b off)) ns.length cap] w fun e w'=>∃ v,e=.returned v/\w'.ownsRow w.heap.size 5 1 v (qE kb ns).length ((qE kb ns).map (Value.int .u8))/\Below w.heap.size w w':=by
 have HNUM:Hid (∀ j,j<ns.length->∃ n:Nat,ns.getD j 0=n/\n<9223372036854775808/\w.cell? (aq b (off+j))=some (iv n)):=hnum
 clear hnum
 obtain ⟨i0,hi,hz0,hz1,hz2⟩:=info_parts Tryz.infoU8
 generalize hB:w.heap.size=B at *
 have HB:Hid (w.heap.size=B):=hB
 go_enter Tryz.func108,Tryz.ntmps108
 go_wp2_with fail
 clear hB
 go_loopw [5,6] (fun fr i wr=>∃ j:Nat,j<=ns.length/\i=iv j/\wr.ownsRow B 5 1 fr (qE kb (ns.take j)).length ((qE kb (ns.take j)).map (Value.int .u8))/\Below B w wr) (fun _ i _=>ns.length - (intOf i).toNat)
 case atStart=>exact ⟨0,Nat.zero_le _,rfl,by simpa [qE] using xH HB.out (.int .u8 kb),(uM _ _).alloc (Nat.le_of_eq HB.out.symm) _⟩
 case round =>
  obtain ⟨j,hj,rfl,hown,hbel⟩:=hrel
  have hBr:B<=wr.heap.size:=by have:=hbel.size;rw [HB.out] at this;exact this
  by_cases hlt:j<ns.length
  ·obtain ⟨m,hm,hml,hmc⟩:=HNUM.out j hlt
   have hcx:wr.cell? (aq b (off+j))=some (iv m):=(hbel.cell (p:=(aq b (off+j))) hbw).trans hmc
   have hfl:(qE kb (ns.take j)).length<=100:=by
    have:=xQ kb ns (fun j hj=>let ⟨n,h1,h2,_⟩:=HNUM.out j hj;⟨n,h1,h2⟩) j uO
    omega
   have hcl:=kY hml
   have HF:Hid (qE kb (ns.take (j+1))=qE kb (ns.take j)++jJ m):=kC kb ns j m hlt hm
   clear hm hmc
   generalize hX:qE kb (ns.take j)=X at *
   clear hX
   generalize hR:wr.heap.size=R at *
   have HR:Hid (wr.heap.size=R):=hR
   clear hR
   go_wp2_with (first
    | (go_at_call 141;refine (wG m _ hml).mono ?_;rintro e w2 ⟨g,cap,rfl,hgc,hb2⟩)
    | (at_builtin;refine wpList_append_own _ rfl _ _ 70 rfl B 5 i0 (.int .u8 0) 1 1 Tryz.underlying70 hi hz0 hz1 hz2 rfl vO _ _ _ rfl (qH hown hb2 (uA _)) (aq g 0) _ _ ((jJ m).map (Value.int .u8)) rfl vS hgc (ints_oneCell _ _) (by unfold maxLen;omega) uO (by have:=hb2.size;rw [HR.out] at this;omega) ?_))
   intro v' w3 hown3 hgrow _
   have HP:Hid (w3.ownsRow B 5 1 v' (X++jJ m).length ((X++jJ m).map (Value.int .u8))/\Below B w w3):=oS rfl hown hbel hb2 (by rw [HR.out];exact hBr) hown3 hgrow
   clear hown3 hgrow hgc hb2 hown hcx
   go_wp2
   go_roundw
   case rel=>exact ⟨j+1,uO,vN,by rw [HF.out];exact HP.out.1,HP.out.2⟩
   case measure=>simp [intOf];omega
  ·have HE:Hid (ns.take j=ns):=List.take_of_length_le uO
   rw [HE.out] at hown
   go_wp2
   go_ret
   exact ⟨_,rfl,hown,hbel⟩
def QK (n:Int):Int:=if n<0 then 0 else n
theorem Nj (n:Int) (w:World) :
 Ca 119 #[iv n] w fun e w'=>e=.returned (iv (QK n))/\w=w':=by
 unfold QK
 by_cases h:n<0
 ·rw [uQ h]
  have hd:decide (n<0)=true:=by simpa using h
  go_enter Tryz.func119,Tryz.ntmps119
  go_wp2
  go_ret
  exact ⟨rfl,rfl⟩
 ·rw [uP h]
  have hd:decide (n<0)=false:=by simpa using h
  go_enter Tryz.func119,Tryz.ntmps119
  go_wp2
  go_ret
  exact ⟨rfl,rfl⟩
theorem Rt {w:World} {B n:Nat} {v:Value} {l:List Int} (h:w.ownsRow B 5 1 v n (l.map (Value.int .u8))) (hb:∀ x∈l,0<=x/\x<256) (hn:l.length=n):∃ a cap,v=.slice a n cap/\qJ w a n cap l:=by
 rcases h.2 with ⟨rfl,h0⟩|⟨g,cap,cur,rfl,hg,hh,h1,h2,h3⟩
 ·have:l=[]:=List.length_eq_zero_iff.1 (hn.trans h0)
  exact ⟨none,0,by rw [h0],by rw [this,h0];rfl,uO,by unfold maxLen;omega,by rw [this];simp,fun hne=>absurd this hne⟩
 ·refine ⟨_,cap,rfl,hn,h1,h2,hb,fun _=>⟨g,0,rfl,(blt hh),fun i hi=>?_⟩⟩
  have:=h.cells (g:=g) rfl i (.int .u8 (l.getD i 0)) (by simp [List.getElem?_map,List.getD,uD (show i<l.length by omega)])
  rwa [Addr.add_lit] at this
theorem aX {x:Int} (h:x<=9223372036854775807):∃ n:Nat,QK x=n/\n<9223372036854775808:=by
 unfold QK
 split
 ·exact ⟨0,rfl,by decide⟩
 ·exact ⟨x.toNat,uO,uO⟩
theorem Nd (k:Int):0<=IntKind.u8.wrap k/\IntKind.u8.wrap k<256:=by
 have h:IntKind.u8.wrap k=k % 256:=by simp [IntKind.wrap,IntKind.signed,IntKind.bits]
 rw [h]
 omega
theorem bW {k:Int} (hk:0<=k/\k<256) (ns:List Int):∀ x∈qE k ns,0<=x/\x<256:=by
 intro x hx
 unfold qE at hx
 rcases List.mem_cons.1 hx with rfl|hx
 ·exact hk
 ·obtain ⟨n,_,hn⟩:=List.mem_flatMap.1 hx
  exact Xe _ x hn
theorem Av (o:OpV) (w:World) (ho:Bo o) :
 Ca 89 #[o.val] w fun e w'=>∃ s:ByteArray,e=.returned (.string s)/\s.size<=140737488351232/\Below w.heap.size w w':=by
 have HAB:Hid (∀ n W,Ca 119 #[iv n] W fun e w'=>e=.returned (iv (QK n))/\W=w'):=Nj
 obtain ⟨ok,oa,ob,oc,od,oe,os⟩:=o
 unfold OpV.val
 simp only
 replace ho:Hid _:=ho
 by_cases hp:ob=4
 ·subst hp
  go_enter Tryz.func89,Tryz.ntmps89
  go_wp2_with fail
  go_region_held3 (fun w'=>w'.cell? (aq w.heap.size 3)=some (iv oc)/\w'.cell? (aq w.heap.size 4)=some (iv od)/\w'.cell? (aq w.heap.size 5)=some (iv oe)) (simp [go_sem, *])
   (first|(go_at_call 119;refine (HAB.out _ _).mono ?_;rintro e w1 ⟨rfl,rfl⟩))
  go_wp2_with fail
  have nb:(((w.alloc (.cells #[iv ok,iv oa,iv 4,iv oc,iv od,iv oe,.string os] 83)).alloc (.cells #[iv (QK oc),iv (QK od),iv (QK oe)] 3)).drew).heap[w.heap.size+1]?=some (.cells #[iv (QK oc),iv (QK od),iv (QK oe)] 3):=by
   have h:=uF (w.alloc (.cells #[iv ok,iv oa,iv 4,iv oc,iv od,iv oe,.string os] 83)) (.cells #[iv (QK oc),iv (QK od),iv (QK oe)] 3)
   rw [show (w.alloc (.cells #[iv ok,iv oa,iv 4,iv oc,iv od,iv oe,.string os] 83)).heap.size=w.heap.size+1 by simp] at h
   exact h
  have hbl:Below w.heap.size w (((w.alloc (.cells #[iv ok,iv oa,iv 4,iv oc,iv od,iv oe,.string os] 83)).alloc (.cells #[iv (QK oc),iv (QK od),iv (QK oe)] 3)).drew):=Below.drew (((uM _ _).alloc (uA _) _).alloc vS _)
  have hbz:w.heap.size+1<(((w.alloc (.cells #[iv ok,iv oa,iv 4,iv oc,iv od,iv oe,.string os] 83)).alloc (.cells #[iv (QK oc),iv (QK od),iv (QK oe)] 3)).drew).heap.size:=(blt nb)
  generalize ((w.alloc (.cells #[iv ok,iv oa,iv 4,iv oc,iv od,iv oe,.string os] 83)).alloc (.cells #[iv (QK oc),iv (QK od),iv (QK oe)] 3)).drew=W at nb hbl hbz ⊢
  obtain ⟨z0,z1,z2⟩:=dW nb
  obtain ⟨nc,hc1,hc2⟩:=aX ho.out.2.2.2.1.2
  obtain ⟨nd,hd1,hd2⟩:=aX ho.out.2.2.2.2.1.2
  obtain ⟨ne,he1,he2⟩:=aX ho.out.2.2.2.2.2.1.2
  have hn:∀ j,j<[QK od,QK oe].length->∃ n:Nat,[QK od,QK oe].getD j 0=n/\n<9223372036854775808/\W.cell? (aq (w.heap.size+1) (1+j))=some (iv n):=fun j hj=>by
   match j,hj with
   | 0,_=>exact ⟨nd,hd1,hd2,by rw [← hd1];exact z1⟩
   | 1,_=>exact ⟨ne,he1,he2,by rw [← he1];exact z2⟩
  have hlen:=xQ (IntKind.u8.wrap 4) [QK od,QK oe] (fun j hj=>let ⟨n,h1,h2,_⟩:=hn j hj;⟨n,h1,h2⟩) [QK od,QK oe].length (uA _)
  rw [List.take_length] at hlen
  refine (sQ 4 _ rfl [QK od,QK oe] (w.heap.size+1) 1 2 W vS hbz hn).mono ?_
  rintro e w2 ⟨v,rfl,hown,hb2⟩
  obtain ⟨a,cap,rfl,hsl⟩:=Rt hown (bW (Nd _) _) rfl
  have hcv:=xP hsl
  have hb3:Below w.heap.size w w2:=hbl.trans (hb2.mono hbl.size)
  have hsz:(strOfNums (qE (IntKind.u8.wrap 4) [QK od,QK oe])).size<=140737488351232:=by
   have e:(strOfNums (qE (IntKind.u8.wrap 4) [QK od,QK oe])).size=(qE (IntKind.u8.wrap 4) [QK od,QK oe]).length:=by simp [strOfNums,ByteArray.size]
   rw [e]
   simp at hlen
   omega
  replace hsz:Hid _:=hsz
  clear hn hlen hown hsl nb hbl z0 z1 z2
  generalize qE (IntKind.u8.wrap 4) [QK od,QK oe]=fb at hcv hsz ⊢
  go_wp2
  go_ret
  exact ⟨_,rfl,hsz.out,hb3⟩
 ·have hq:(ob==4)=false:=by simpa using hp
  go_enter Tryz.func89,Tryz.ntmps89
  go_wp2_with fail
  go_region_held3 (fun w'=>w'.cell? (aq w.heap.size 3)=some (iv oc)/\w'.cell? (aq w.heap.size 4)=some (iv od)/\w'.cell? (aq w.heap.size 5)=some (iv oe)) (simp [go_sem, *])
   (first|(go_at_call 119;refine (HAB.out _ _).mono ?_;rintro e w1 ⟨rfl,rfl⟩))
  go_wp2_with fail
  have nb:(((w.alloc (.cells #[iv ok,iv oa,iv ob,iv oc,iv od,iv oe,.string os] 83)).alloc (.cells #[iv (QK oc),iv (QK od),iv (QK oe)] 3)).drew).heap[w.heap.size+1]?=some (.cells #[iv (QK oc),iv (QK od),iv (QK oe)] 3):=by
   have h:=uF (w.alloc (.cells #[iv ok,iv oa,iv ob,iv oc,iv od,iv oe,.string os] 83)) (.cells #[iv (QK oc),iv (QK od),iv (QK oe)] 3)
   rw [show (w.alloc (.cells #[iv ok,iv oa,iv ob,iv oc,iv od,iv oe,.string os] 83)).heap.size=w.heap.size+1 by simp] at h
   exact h
  have hbl:Below w.heap.size w (((w.alloc (.cells #[iv ok,iv oa,iv ob,iv oc,iv od,iv oe,.string os] 83)).alloc (.cells #[iv (QK oc),iv (QK od),iv (QK oe)] 3)).drew):=Below.drew (((uM _ _).alloc (uA _) _).alloc vS _)
  have hbz:w.heap.size+1<(((w.alloc (.cells #[iv ok,iv oa,iv ob,iv oc,iv od,iv oe,.string os] 83)).alloc (.cells #[iv (QK oc),iv (QK od),iv (QK oe)] 3)).drew).heap.size:=(blt nb)
  generalize ((w.alloc (.cells #[iv ok,iv oa,iv ob,iv oc,iv od,iv oe,.string os] 83)).alloc (.cells #[iv (QK oc),iv (QK od),iv (QK oe)] 3)).drew=W at nb hbl hbz ⊢
  obtain ⟨z0,z1,z2⟩:=dW nb
  obtain ⟨nc,hc1,hc2⟩:=aX ho.out.2.2.2.1.2
  obtain ⟨nd,hd1,hd2⟩:=aX ho.out.2.2.2.2.1.2
  obtain ⟨ne,he1,he2⟩:=aX ho.out.2.2.2.2.2.1.2
  have hn:∀ j,j<[QK oc,QK od,QK oe].length->∃ n:Nat,[QK oc,QK od,QK oe].getD j 0=n/\n<9223372036854775808/\W.cell? (aq (w.heap.size+1) (0+j))=some (iv n):=fun j hj=>by
   match j,hj with
   | 0,_=>exact ⟨nc,hc1,hc2,by rw [← hc1];exact z0⟩
   | 1,_=>exact ⟨nd,hd1,hd2,by rw [← hd1];exact z1⟩
   | 2,_=>exact ⟨ne,he1,he2,by rw [← he1];exact z2⟩
  have hlen:=xQ (IntKind.u8.wrap ob) [QK oc,QK od,QK oe] (fun j hj=>let ⟨n,h1,h2,_⟩:=hn j hj;⟨n,h1,h2⟩) [QK oc,QK od,QK oe].length (uA _)
  rw [List.take_length] at hlen
  refine (sQ ob _ rfl [QK oc,QK od,QK oe] (w.heap.size+1) 0 3 W vS hbz hn).mono ?_
  rintro e w2 ⟨v,rfl,hown,hb2⟩
  obtain ⟨a,cap,rfl,hsl⟩:=Rt hown (bW (Nd _) _) rfl
  have hcv:=xP hsl
  have hb3:Below w.heap.size w w2:=hbl.trans (hb2.mono hbl.size)
  have hsz:(strOfNums (qE (IntKind.u8.wrap ob) [QK oc,QK od,QK oe])).size<=140737488351232:=by
   have e:(strOfNums (qE (IntKind.u8.wrap ob) [QK oc,QK od,QK oe])).size=(qE (IntKind.u8.wrap ob) [QK oc,QK od,QK oe]).length:=by simp [strOfNums,ByteArray.size]
   rw [e]
   simp at hlen
   omega
  replace hsz:Hid _:=hsz
  clear hn hlen hown hsl nb hbl z0 z1 z2
  generalize qE (IntKind.u8.wrap ob) [QK oc,QK od,QK oe]=fb at hcv hsz ⊢
  go_wp2
  go_ret
  exact ⟨_,rfl,hsz.out,hb3⟩
theorem xJ {w:World} {R:Nat} {c0 c1 c2 c3 c4 c5 c6:Value} {T:TypeId} (h:w.heap[R]?=some (.cells #[c0,c1,c2,c3,c4,c5,c6] T)):w.cell? (aq R 0)=some c0/\w.cell? (aq R 1)=some c1/\w.cell? (aq R 2)=some c2/\w.cell? (aq R 3)=some c3/\w.cell? (aq R 4)=some c4/\w.cell? (aq R 5)=some c5/\w.cell? (aq R 6)=some c6:=by
 refine ⟨?_,?_,?_,?_,?_,?_,?_⟩<;>(rw [uI h];rfl)
theorem Hr (x R:Nat) (o:OpV) (w:World) (ho:o.k=12) (Q:World->Prop)
 (HS:Hid (∀ W,Below w.heap.size w W->Ca 88 #[.agg #[pt x 0,pt R 0],.string o.s] W fun r w'=>r=.returned (.bool true)/\Q w')) :
 Ca 54 #[.agg #[pt x 0,pt R 0],o.val] w fun r w'=>r=.returned (.bool true)/\Q w':=by
 obtain ⟨ok,oa,ob,oc,od,oe,os⟩:=o
 simp only at ho HS
 subst ho
 unfold OpV.val
 simp only
 go_enter Tryz.func54,Tryz.ntmps54
 go_wp2_with fail
 refine (HS.out _ bL).mono ?_
 rintro e w1 ⟨rfl,hq⟩
 go_wp2
 go_ret
 exact ⟨rfl,hq⟩
theorem Mv (x R:Nat) (o:OpV) (w:World) (ho:o.k=11) (hok:Bo o) (Q:World->Prop) (fp:Nat->Prop) (hfp:∀ b,fp b->b<w.heap.size)
 (HS:Hid (∀ s:ByteArray,s.size<=140737488351232->∀ W,Below w.heap.size w W->Ca 88 #[.agg #[pt x 0,pt R 0],.string s] W fun r w'=>r=.returned (.bool true)/\Q w'/\Same fp W w')) :
 Ca 54 #[.agg #[pt x 0,pt R 0],o.val] w fun r w'=>r=.returned (.bool true)/\Q w':=by
 have HF:Hid (∀ W,Ca 89 #[o.val] W fun e w'=>∃ s:ByteArray,e=.returned (.string s)/\s.size<=140737488351232/\Below W.heap.size W w'):=fun W=>Av o W hok
 clear hok
 obtain ⟨ok,oa,ob,oc,od,oe,os⟩:=o
 simp only at ho
 subst ho
 unfold OpV.val at HF ⊢
 simp only at HF ⊢
 go_enter Tryz.func54,Tryz.ntmps54
 go_wp2_with fail
 have pr:=(zq1 w #[pt x 0,pt R 0] 119 #[iv 11,iv oa,iv ob,iv oc,iv od,iv oe,.string os] 83).out
 have qr:=(zq2 w #[pt x 0,pt R 0] 119 #[iv 11,iv oa,iv ob,iv oc,iv od,iv oe,.string os] 83).out
 have hbl:=(zq3 w #[pt x 0,pt R 0] 119 #[iv 11,iv oa,iv ob,iv oc,iv od,iv oe,.string os] 83).out
 generalize (w.alloc (.cells #[pt x 0,pt R 0] 119)).alloc (.cells #[iv 11,iv oa,iv ob,iv oc,iv od,iv oe,.string os] 83)=W0 at pr qr hbl ⊢
 obtain ⟨u0,u1⟩:=xM pr
 obtain ⟨v0,v1,v2,v3,v4,v5,v6⟩:=xJ qr
 have hz1:w.heap.size<W0.heap.size:=(blt pr)
 have hz2:w.heap.size+1<W0.heap.size:=(blt qr)
 replace pr:Hid _:=pr
 replace qr:Hid _:=qr
 replace hbl:Hid _:=hbl
 go_region_held3 (fun w'=>w'.cell? (aq w.heap.size 0)=some (pt x 0)/\w'.cell? (aq w.heap.size 1)=some (pt R 0)/\w'.cell? (aq (w.heap.size+1) 0)=some (iv 11)/\w'.cell? (aq (w.heap.size+1) 1)=some (iv oa)/\w'.cell? (aq (w.heap.size+1) 2)=some (iv ob)/\w'.cell? (aq (w.heap.size+1) 3)=some (iv oc)/\w'.cell? (aq (w.heap.size+1) 4)=some (iv od)/\w'.cell? (aq (w.heap.size+1) 5)=some (iv oe)/\w'.cell? (aq (w.heap.size+1) 6)=some (.string os)) (simp [go_sem, *])
  (first
    | (go_at_call 89;refine (HF.out _).mono ?_;rintro e w1 ⟨s,rfl,hs,b⟩
       have hb1:Below W0.heap.size W0 w1:=by first|exact b|exact uL (show Below W0.heap.size W0 _ from bL) b
       have pr1:Hid _:=(hb1.block _ hz1).trans pr.out
       have qr1:Hid _:=(hb1.block _ hz2).trans qr.out
       have hbl1:Hid (Below w.heap.size w w1):=uL hbl.out (hb1.mono hbl.out.size)
       have zz1:w.heap.size+1<w1.heap.size:=uB hz2 hb1.size
       obtain ⟨a0,a1⟩:=xM pr1.out
       obtain ⟨c0,c1,c2,c3,c4,c5,c6⟩:=xJ qr1.out
       clear b hb1)
    | (go_at_call 88;refine (HS.out s hs _ bL).mono ?_;rintro e w2 ⟨rfl,hq,hs2⟩
       obtain ⟨d0,d1⟩:=xM ((hs2.block w.heap.size (by first|omega|(simp;omega)) (fun e=>by have:=hfp _ e;omega)).trans pr1.out)
       obtain ⟨f0,f1,f2,f3,f4,f5,f6⟩:=xJ ((hs2.block (w.heap.size+1) (by first|omega|(simp;omega)) (fun e=>by have:=hfp _ e;omega)).trans qr1.out)
       clear hs2))
 go_wp2
 go_ret
 exact ⟨rfl,hq⟩
