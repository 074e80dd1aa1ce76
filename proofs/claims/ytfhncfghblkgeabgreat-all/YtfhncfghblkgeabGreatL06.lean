import Derived.Test.YtfhncfghblkgeabGreatL04
set_option maxRecDepth 100000
set_option maxHeartbeats 2000000
namespace Go.Proofs.YtfhncfghblkgeabGreat
open Go.RowKit
theorem rS (a:Option Addr) (len cap:Nat) (ts:List (Int × Int)) (w:World) (h:tiersAt w a len cap ts) :
 Ca 58 #[.slice a len cap] w fun e w'=>e=.returned (.bool (jB ts))/\Below w.heap.size w w':=by
 obtain ⟨hl,hlc,hm,hn,hc⟩:=h
 by_cases h1:len<1
 ·have HN:Hid (jB ts=false):=oL uO
  have hd1:decide ((len:Int)<1)=true:=by simp;omega
  go_enter Tryz.func58,Tryz.ntmps58
  go_wp2
  go_ret
  exact ⟨by rw [HN.out];rfl,uM _ _⟩
 by_cases h4:4<len
 ·have HN:Hid (jB ts=false):=oL uO
  have hd1:decide ((len:Int)<1)=false:=by simp;omega
  have hd4:decide (4<(len:Int))=true:=by simp;omega
  go_enter Tryz.func58,Tryz.ntmps58
  go_wp2
  go_ret
  exact ⟨by rw [HN.out];rfl,uM _ _⟩
 ·obtain ⟨b,off,rfl,_,hcell⟩:=hc (fun e=>by rw [e] at hl;simp at hl;omega)
  exact pK b off len cap ts w hl uO uO hcell
theorem lO (b:Nat) (n0 n1 n2 n3 n4 n5 n6:Int) (w:World) (h0:w.cell? (aq b 0)=some (iv n0)) (h1:w.cell? (aq b 1)=some (iv n1)) (h2:w.cell? (aq b 2)=some (iv n2)) (h3:w.cell? (aq b 3)=some (iv n3)) (h4:w.cell? (aq b 4)=some (iv n4)) (h5:w.cell? (aq b 5)=some (iv n5)) (h6:w.cell? (aq b 6)=some (iv n6)) :
 Ca 57 #[.slice (some (aq b 0)) 7 7] w fun e w'=>e=.returned (.bool ([n0,n1,n2,n3,n4,n5,n6].all yU))/\w=w' :=
 fH b 0 7 [n0,n1,n2,n3,n4,n5,n6] w vS (fun i hi=>by
  match i,hi with
  | 0,_=>simpa using h0
  | 1,_=>simpa using h1
  | 2,_=>simpa using h2
  | 3,_=>simpa using h3
  | 4,_=>simpa using h4
  | 5,_=>simpa using h5
  | 6,_=>simpa using h6)
def mZ (ns:List Int) (ts:List (Int × Int)):Bool:=ns.all yU && jB ts
def Bn (b:Bool):Int:=if b then 0 else 1
theorem rI (n0 n1 n2 n3 n4 n5 n6:Int) (a:Option Addr) (len cap:Nat) (ts:List (Int × Int)) (w:World) (h:tiersAt w a len cap ts) :
 Ca 34 #[.agg #[iv n0,iv n1,iv n2,iv n3,iv n4,iv n5,iv n6,.slice a len cap]] w fun e w'=>e=.returned (iv (Bn (mZ [n0,n1,n2,n3,n4,n5,n6] ts)))/\Below w.heap.size w w':=by
 have HT:Hid (tiersAt w a len cap ts):=h
 clear h
 by_cases hn:[n0,n1,n2,n3,n4,n5,n6].all yU=true
 ·have HN:Hid ([n0,n1,n2,n3,n4,n5,n6].all yU=true):=hn
  clear hn
  by_cases hp:jB ts=true
  ·have HP:Hid (jB ts=true):=hp
   have HE:Hid (Bn (mZ [n0,n1,n2,n3,n4,n5,n6] ts)=0):=by unfold Hid mZ;rw [HN.out,hp];rfl
   clear hp
   go_enter Tryz.func34,Tryz.ntmps34
   go_wp2_with (first
    | (go_at_call 57;refine (lO _ n0 n1 n2 n3 n4 n5 n6 _ uU uU uU uU uU uU uU).mono ?_;rintro e w' ⟨rfl,rfl⟩;rw [HN.out])
    | (go_at_call 58;refine (rS a len cap ts _ (HT.out.below (B:=w.heap.size) bL (uA _))).mono ?_;rintro e w2 ⟨rfl,b2⟩;rw [HP.out]))
   go_ret
   exact ⟨by rw [HE.out];rfl,uL bL (b2.mono uS)⟩
  ·have HP:Hid (jB ts=false):=by unfold Hid;simpa using hp
   have HE:Hid (Bn (mZ [n0,n1,n2,n3,n4,n5,n6] ts)=1):=by unfold Hid mZ;rw [HN.out,HP.out];rfl
   clear hp
   go_enter Tryz.func34,Tryz.ntmps34
   go_wp2_with (first
    | (go_at_call 57;refine (lO _ n0 n1 n2 n3 n4 n5 n6 _ uU uU uU uU uU uU uU).mono ?_;rintro e w' ⟨rfl,rfl⟩;rw [HN.out])
    | (go_at_call 58;refine (rS a len cap ts _ (HT.out.below (B:=w.heap.size) bL (uA _))).mono ?_;rintro e w2 ⟨rfl,b2⟩;rw [HP.out]))
   go_ret
   exact ⟨by rw [HE.out];rfl,uL bL (b2.mono uS)⟩
 ·have HN:Hid ([n0,n1,n2,n3,n4,n5,n6].all yU=false):=by unfold Hid;simpa using hn
  have HE:Hid (Bn (mZ [n0,n1,n2,n3,n4,n5,n6] ts)=1):=by unfold Hid mZ;rw [HN.out];rfl
  clear hn
  go_enter Tryz.func34,Tryz.ntmps34
  go_wp2_with (go_at_call 57;refine (lO _ n0 n1 n2 n3 n4 n5 n6 _ uU uU uU uU uU uU uU).mono ?_;rintro e w' ⟨rfl,rfl⟩;rw [HN.out])
  go_ret
  exact ⟨by rw [HE.out];rfl,bL⟩
theorem Xu (b off len cap k:Nat) (ts:List (Int × Int)) (w:World) (hlt:k<len) (h4:len<=4)
 (hcell:∀ i,i<len->w.cell? (aq b (off+i * 2))=some (iv (ts.getD i (0,0)).1)/\w.cell? (aq b (off+i * 2+1))=some (iv (ts.getD i (0,0)).2)) :
 Ca 60 #[.slice (some (aq b off)) len cap,iv k] w fun e w'=>e=.returned (.bool (oG ts k))/\Below w.heap.size w w':=by
 have hcf:=(hcell k hlt).1
 have hcc:=(hcell k hlt).2
 have hbw:b<w.heap.size:=uC w _ hcf
 generalize hf:(ts.getD k (0,0)).1=f at hcf
 generalize hc:(ts.getD k (0,0)).2=c at hcc
 have HF:Hid ((ts.getD k (0,0)).1=f):=hf
 have HC:Hid ((ts.getD k (0,0)).2=c):=hc
 clear hf hc
 by_cases b1:1<=c
 ·have d1:decide (c<1)=false:=by simp;omega
  by_cases b2:c<=1073741824
  ·have d2:decide (1073741824<c)=false:=by simp;omega
   by_cases b3:f<=4294967296
   ·have d3:decide (4294967296<f)=false:=by simp;omega
    by_cases hk0:k=0
    ·subst hk0
     have HT:Hid (oG ts 0=(f==0)):=aV HF.out HC.out b1 b2 b3
     simp only [Nat.zero_mul,Nat.add_zero] at hcf hcc
     have hpos:(0:Int)<(len:Int):=uO
     clear hcell
     go_enter Tryz.func60,Tryz.ntmps60
     go_wp2
     go_ret
     exact ⟨by rw [HT.out];rfl,bL⟩
    ·obtain ⟨m,rfl⟩:∃ m,k=m+1:=⟨k - 1,uO⟩
     have hcq:=(hcell m uO).1
     generalize hq:(ts.getD m (0,0)).1=q at hcq
     have HT:Hid (oG ts (m+1)=decide (q<f)):=sY hk0 HF.out HC.out hq b1 b2 b3
     have hkp:(((m:Int)+1)==0)=false:=by simp;omega
     clear hq hcell
     go_enter Tryz.func60,Tryz.ntmps60
     go_wp2
     go_quiet (fail)
     go_wp2
     go_ret
     exact ⟨by rw [HT.out];rfl,qY ((uM _ _).alloc (uA _) _)⟩
   ·have d3:decide (4294967296<f)=true:=by simp;omega
    have HT:Hid (oG ts k=false):=fW HF.out HC.out (.inr (.inr uO))
    clear hcell
    go_enter Tryz.func60,Tryz.ntmps60
    go_wp2
    go_ret
    exact ⟨by rw [HT.out];rfl,bL⟩
  ·have d2:decide (1073741824<c)=true:=by simp;omega
   have HT:Hid (oG ts k=false):=fW HF.out HC.out (.inr (.inl uO))
   clear hcell
   go_enter Tryz.func60,Tryz.ntmps60
   go_wp2
   go_ret
   exact ⟨by rw [HT.out];rfl,bL⟩
 ·have d1:decide (c<1)=true:=by simp;omega
  have HT:Hid (oG ts k=false):=fW HF.out HC.out (.inl uO)
  clear hcell
  go_enter Tryz.func60,Tryz.ntmps60
  go_wp2
  go_ret
  exact ⟨by rw [HT.out];rfl,bL⟩
theorem Tryz.infoTier:(Tryz.prog.info? 107).map (fun i=>(i.zero,i.size,i.bytes))=some (some (.agg #[iv 0,iv 0]),2,16):=by kernel_rfl
theorem Tryz.sizeTier:(Tryz.prog.info? 107).map (·.size)=some 2:=by kernel_rfl
theorem Dg (n0 n1 n2 n3 n4 n5 n6:Int) (w:World) :
 Ca 86 #[.agg #[iv n0,iv n1,iv n2,iv n3,iv n4,iv n5,iv n6,.slice none 0 0]] w fun e w'=>e=.returned (.agg #[iv n0,iv n1,iv n2,iv n3,iv n4,iv n5,iv n6,.slice none 0 0])/\Below w.heap.size w w':=by
 have hq:∀ w',(binOp .eql 22 (.slice none 0 0) (.slice none 0 0)).run Tryz.prog w'=.ok (.bool true) w':=fun w'=>Lib.run_eql_slice_nil w' 22 107 none 0 0 0 0 Tryz.underlying22
 go_enter Tryz.func86,Tryz.ntmps86
 go_wp2
 exact uK (v:=.agg #[iv n0,iv n1,iv n2,iv n3,iv n4,iv n5,iv n6,.slice none 0 0]) (by simp [results,Tryz.results86,go_sem]) rfl ⟨rfl,bL⟩
def yX (ts:List (Int × Int)):List (Int × Int):=ts++List.replicate 8 (77,77)
theorem iW (n0 n1 n2 n3 n4 n5 n6:Int) (x:Addr) (len cap:Nat) (ts:List (Int × Int)) (w:World) (h:tiersAt w (some x) len cap ts) :
 Ca 86 #[.agg #[iv n0,iv n1,iv n2,iv n3,iv n4,iv n5,iv n6,.slice (some x) len cap]] w fun e w'=>∃ g,e=.returned (.agg #[iv n0,iv n1,iv n2,iv n3,iv n4,iv n5,iv n6,.slice (some (aq g 0)) len (len+8)])/\w.heap.size<=g/\w'.heap[g]?=some (.cells (qV (yX ts)).toArray 107 (0,0))/\Below w.heap.size w w':=by
 have hq:∀ w',(binOp .eql 22 (.slice (some x) len cap) (.slice none 0 0)).run Tryz.prog w'=.ok (.bool false) w':=fun w'=>Lib.run_eql_slice_nil w' 22 107 (some x) len cap 0 0 Tryz.underlying22
 obtain ⟨i0,hi,hz0,hz1,hz2⟩:=info_parts Tryz.infoTier
 have HT:Hid (tiersAt w (some x) len cap ts):=h
 have hlen:len * 16<=140737488355328:=by have:=h.2.1;have:=h.2.2.1;omega
 have hts:Hid (ts.length=len):=h.1
 clear h
 go_enter Tryz.func86,Tryz.ntmps86
 go_wp2_with (at_make;refine wpList_make_full _ rfl _ _ 22 rfl w.heap.size 107 i0 (.agg #[iv 0,iv 0]) 2 Tryz.underlying22 hi hz0 hz1 .i64 .i64 _ _ (len+8) rfl rfl vS vS (by rw [hz2];omega) (by unfold maxLen;omega) uS ?_)
 intro w1 hown hgrow
 have hW:Hid (w1.heap[w.heap.size]?=some (.cells #[iv n0,iv n1,iv n2,iv n3,iv n4,iv n5,iv n6,.slice (some x) len cap] 24)/\w1.heap[w.heap.size+1]?=some (.cells #[iv 0,iv 0,iv 0,iv 0,iv 0,iv 0,iv 0,.slice none 0 0] 24)):=by
  constructor
  ·rw [hgrow.block w.heap.size uS vS,uE _ _ _ vS]
   exact uF w _
  ·rw [hgrow.block (w.heap.size+1) vS vS]
   have:=uF (w.alloc (.cells #[iv n0,iv n1,iv n2,iv n3,iv n4,iv n5,iv n6,.slice (some x) len cap] 24)) (.cells #[iv 0,iv 0,iv 0,iv 0,iv 0,iv 0,iv 0,.slice none 0 0] 24)
   simpa using this
 have w01:Below w.heap.size w w1:=Below.grown bL hgrow uS (fun k hk=>by simp at hk)
 obtain ⟨cur,hcur,hcs⟩:∃ cur:Array Value,w1.heap[w.heap.size+1+1]?=some (.cells cur 107)/\cur.size=(len+8) * 2:=by
  rcases hown.2 with ⟨h0,_⟩|⟨g,c,cur,hv,_,hh,_,_,hs,_⟩
  ·simp at h0
  ·simp at hv
   obtain ⟨rfl,rfl⟩:=hv
   exact ⟨cur,hh,hs⟩
 have HC:Hid (w1.heap[w.heap.size+1+1]?=some (.cells cur 107)):=hcur
 obtain ⟨k0,k1,k2,k3,k4,k5,k6,k7,kf⟩:=kS hW.out.1
 clear hcur hown hgrow
 have HT1:Hid (tiersAt w1 (some x) len cap ts):=HT.out.below w01 (uA _)
 obtain ⟨w2,hcopy,hrow2,hg2⟩:∃ w2,(Builtin.copy_ #[22,22] 3 #[.slice (some (aq (w.heap.size+1+1) 0)) (len+8) (len+8),.slice (some x) len cap]).run Tryz.prog w1=.ok (goInt len) w2/\w2.heap[w.heap.size+1+1]?=some (.cells (qV ts++cur.toList.drop (qV ts).length).toArray 107 (0,0))/\w1.grownBy w2 (some (w.heap.size+1+1)):=by
  have hmin:Nat.min len (len+8)=len:=Nat.min_eq_left uO
  have hr:=pN (P:=Tryz.prog) w1 22 22 3 107 2 (w.heap.size+1+1) (len+8) (len+8) x len cap cur 107 (qV ts) Tryz.underlying22 Tryz.sizeTier HC.out (by rw [kN,hts.out,hmin]) (Nr HT1.out) (by rw [kN,hts.out,hcs];omega) (Ka ts)
  rw [hmin] at hr
  exact ⟨_,hr,setRow_heap w1 _ cur _ _ _ HC.out,⟨rfl,rfl,rfl,by simp [World.setRow],fun k _ hk=>setRow_other w1 _ k _ (fun e=>hk (by simp [e]))⟩⟩
 have HR2:Hid (w2.heap[w.heap.size+1+1]?=some (.cells (qV (ts++List.replicate 0 (77,77))++cur.toList.drop (qV ts).length).toArray 107 (0,0))):=by simpa [Hid] using hrow2
 have HZ:Hid ((cur.toList.drop (qV ts).length).length=(8 - 0) * 2):=by unfold Hid;rw [List.length_drop,Array.length_toList,hcs,kN,hts.out];omega
 generalize cur.toList.drop (qV ts).length=Z0 at HR2 HZ
 have w12:Below (w.heap.size+1+1) w1 w2:=(uM _ _).grown hg2 (by have:=(blt HC.out);omega) (fun k hk=>by simp at hk;omega)
 clear hrow2 hg2
 go_wp2_with fail
 go_loopw [5] (fun i wr=>∃ (j:Nat) (Z:List Value),j<=8/\i=iv ((len:Int)+j)/\Hid (Z.length=(8 - j) * 2)/\Hid (wr.heap[w.heap.size+1+1]?=some (.cells (qV (ts++List.replicate j (77,77))++Z).toArray 107 (0,0)))/\Below (w.heap.size+1+1) w1 wr) (fun i _=>len+8 - (intOf i).toNat)
 case atStart=>exact ⟨0,Z0,uO,by simp,HZ,HR2,w12⟩
 case round =>
  obtain ⟨j,Z,hj,rfl,hZ,hrow,hbel⟩:=hrel
  by_cases hlt:j<8
  ·obtain ⟨z0,z1,Z',rfl,hZ'⟩:=Bw hZ.out hlt
   have hA:(qV (ts++List.replicate j (77,77))).length=(len+j) * 2:=by rw [kN];simp [hts.out]
   have d0:=oP hrow.out hA
   have d1:wr.cell? (aq (w.heap.size+1+1) ((len+j) * 2+1))=some z1:=oP (A:=qV (ts++List.replicate j (77,77))++[z0]) (by rw [hrow.out,List.append_assoc];rfl) (by simp [hA])
   have df:=qA hrow.out
   have HR:Hid (∀ v0 v1:Value,((wr.setCell (aq (w.heap.size+1+1) ((len+j) * 2)) v0).setCell (aq (w.heap.size+1+1) ((len+j) * 2+1)) v1).heap[w.heap.size+1+1]?=some (.cells (qV (ts++List.replicate j (77,77))++v0 :: v1 :: Z').toArray 107 (0,0))):=fun v0 v1=>mD hrow.out hA v0 v1
   clear hrow hZ hA
   go_wp2
   go_roundw
   case rel =>
    refine ⟨j+1,Z',uO,vN,hZ',?_,(hbel.setCell (p:=(aq (w.heap.size+1+1) ((len+j) * 2))) (uA _) _).setCell (p:=(aq (w.heap.size+1+1) ((len+j) * 2+1))) (uA _) _⟩
    have e:qV (ts++List.replicate (j+1) (77,77))++Z'=qV (ts++List.replicate j (77,77))++iv 77 :: iv 77 :: Z':=by
     rw [List.replicate_succ',← List.append_assoc,tC (ts++_) [(77,77)],List.append_assoc];rfl
    unfold Hid
    rw [e]
    exact HR.out _ _
   case measure=>simp [intOf];omega
  ·have hj8:j=8:=uO
   subst hj8
   have hZ0:Z=[]:=List.eq_nil_of_length_eq_zero hZ.out
   subst hZ0
   have HROW:Hid (wr.heap[w.heap.size+1+1]?=some (.cells (qV (yX ts)).toArray 107 (0,0))):=by have:=hrow.out;rw [List.append_nil] at this;exact this
   obtain ⟨q0,q1,q2,q3,q4,q5,q6,q7,qf⟩:=kS ((hbel.block w.heap.size uO).trans hW.out.1)
   obtain ⟨r0,r1,r2,r3,r4,r5,r6,r7,rf⟩:=kS ((hbel.block (w.heap.size+1) uO).trans hW.out.2)
   have hb0:Below w.heap.size w wr:=w01.trans (hbel.mono uO)
   clear k0 k1 k2 k3 k4 k5 k6 k7 kf hrow hZ
   go_wp2
   refine uK (v:=.agg #[iv n0,iv n1,iv n2,iv n3,iv n4,iv n5,iv n6,.slice (some (aq (w.heap.size+1+1) 0)) len (len+8)]) (by simp [results,Tryz.results86,go_sem,r0,r1,r2,r3,r4,r5,r6,r7]) rfl ⟨w.heap.size+1+1,rfl,uO,?_,?_⟩
   ·rw [Hj uO,uG _ (aq w.heap.size 7) _ _ (by show w.heap.size+1+1≠w.heap.size;omega)]
    exact HROW.out
   ·exact Gz (hb0.setCell (p:=(aq w.heap.size 7)) (uA _) _) uO
theorem xR {w w1 w2:World} {r:Option Nat} (h:w.grownBy w1 r) (h':w1.grownBy w2 r):w.grownBy w2 r :=
 ⟨h'.os.trans h.os,h'.tape.trans h.tape,h'.output.trans h.output,uX h.size h'.size,fun k hk hr=>(h'.block k (uB hk h.size) hr).trans (h.block k hk hr)⟩
theorem tR {w w1:World} {r:Option Nat} {n:Nat} (h:w.grownBy w1 r):w.grownBy (w1.drewN n) r:=⟨h.os,h.tape,h.output,h.size,h.block⟩
theorem yT {w w1:World} {g i:Nat} {v:Value} (h:w.grownBy w1 (some g)):w.grownBy (w1.sc g i v) (some g) :=
 xR h ⟨rfl,rfl,rfl,by simp [World.setCell],fun k _ hk=>uG _ _ _ _ (fun e=>hk (by rw [e]))⟩
theorem oE {w w1:World} {g b o:Nat} (h:w.grownBy w1 (some g)) (hb:b<w.heap.size) (hn:b≠g):w1.cell? (aq b o)=w.cell? (aq b o) :=
 uV (a:=(aq b o)) (h.block b hb (by simpa using hn))
theorem Kf (n0 n1 n2 n3 n4 n5 n6 m0 m1 m2 m3 m4 m5 m6:Int) (v:Value) (w:World) :
 Ca 87 #[.agg #[iv m0,iv m1,iv m2,iv m3,iv m4,iv m5,iv m6,v],.agg #[iv n0,iv n1,iv n2,iv n3,iv n4,iv n5,iv n6,.slice none 0 0]] w fun e w'=>e=.returned (.bool true)/\Below w.heap.size w w':=by
 have hq:∀ w',(binOp .eql 22 (.slice none 0 0) (.slice none 0 0)).run Tryz.prog w'=.ok (.bool true) w':=fun w'=>Lib.run_eql_slice_nil w' 22 107 none 0 0 0 0 Tryz.underlying22
 go_enter Tryz.func87,Tryz.ntmps87
 go_wp2
 go_ret
 exact ⟨rfl,bL⟩
def marks (j:Nat):List (Int × Int):=(List.range j).map fun i:Nat=>((i:Int),77)
theorem Mm (j:Nat):(marks j).length=j:=by simp [marks]
theorem wS (j:Nat):marks (j+1)=marks j++[((j:Int),77)]:=by simp [marks,List.range_succ]
theorem eX (ts:List (Int × Int)):(yX ts).length=ts.length+8:=by simp [yX]
theorem sF {ts:List (Int × Int)} {j:Nat} (h:j<ts.length):(yX ts).getD j (0,0)=ts.getD j (0,0):=by
 simp [yX,List.getD,List.getElem?_append_left h]
theorem Vu {ts:List (Int × Int)} {j:Nat} (h:ts.length<=j) (h':j<ts.length+8):(yX ts).getD j (0,0)=(77,77):=by
 unfold yX
 rw [List.getD_eq_getElem?_getD,List.getElem?_append_right h,List.getElem?_replicate,uQ uO];rfl
theorem Mh (l:List (Int × Int)) (j:Nat) (h:j<l.length):l.drop j=l.getD j (0,0) :: l.drop (j+1):=by
 rw [List.drop_eq_getElem_cons h]
 simp [List.getD,uD h]
theorem aW (n0 n1 n2 n3 n4 n5 n6 m0 m1 m2 m3 m4 m5 m6:Int) (x:Addr) (g len cap:Nat) (ts:List (Int × Int)) (w:World) (h:tiersAt w (some x) len cap ts) (hx:ts≠[]->x.block≠g)
 (hg:w.heap[g]?=some (.cells (qV (yX ts)).toArray 107 (0,0))) :
 Ca 87 #[.agg #[iv m0,iv m1,iv m2,iv m3,iv m4,iv m5,iv m6,.slice (some (aq g 0)) len (len+8)],.agg #[iv n0,iv n1,iv n2,iv n3,iv n4,iv n5,iv n6,.slice (some x) len cap]] w fun e w'=>e=.returned (.bool true)/\w.grownBy w' (some g):=by
 have hq:∀ w',(binOp .eql 22 (.slice (some x) len cap) (.slice none 0 0)).run Tryz.prog w'=.ok (.bool false) w':=fun w'=>Lib.run_eql_slice_nil w' 22 107 (some x) len cap 0 0 Tryz.underlying22
 have hgw:g<w.heap.size:=(blt hg)
 have hlen:len * 16<=140737488355328:=by have:=h.2.1;have:=h.2.2.1;omega
 have hts:Hid (ts.length=len):=h.1
 have HT:Hid (tiersAt w (some x) len cap ts):=h
 have HG:Hid (w.heap[g]?=some (.cells (qV (yX ts)).toArray 107 (0,0))):=hg
 clear h hg
 go_enter Tryz.func87,Tryz.ntmps87
 go_wp2_with fail
 have hW:Hid (w.grownBy ((w.alloc (.cells #[iv m0,iv m1,iv m2,iv m3,iv m4,iv m5,iv m6,.slice (some (aq g 0)) len (len+8)] 24)).alloc (.cells #[iv n0,iv n1,iv n2,iv n3,iv n4,iv n5,iv n6,.slice (some x) len cap] 24)) (some g)):=xR (World.grownBy_alloc w _ _) (World.grownBy_alloc _ _ _)
 have HW0:Hid (((w.alloc (.cells #[iv m0,iv m1,iv m2,iv m3,iv m4,iv m5,iv m6,.slice (some (aq g 0)) len (len+8)] 24)).alloc (.cells #[iv n0,iv n1,iv n2,iv n3,iv n4,iv n5,iv n6,.slice (some x) len cap] 24)).heap[g]?=some (.cells (qV (marks 0)++qV ((yX ts).drop 0)).toArray 107 (0,0))):=by
  unfold Hid
  rw [uE _ _ _ uT,uE _ _ _ hgw,HG.out];rfl
 have hbox:((w.alloc (.cells #[iv m0,iv m1,iv m2,iv m3,iv m4,iv m5,iv m6,.slice (some (aq g 0)) len (len+8)] 24)).alloc (.cells #[iv n0,iv n1,iv n2,iv n3,iv n4,iv n5,iv n6,.slice (some x) len cap] 24)).cell? (aq (w.heap.size+1) 7)=some (.slice (some x) len cap):=by simp [go_sem]
 have hsz:((w.alloc (.cells #[iv m0,iv m1,iv m2,iv m3,iv m4,iv m5,iv m6,.slice (some (aq g 0)) len (len+8)] 24)).alloc (.cells #[iv n0,iv n1,iv n2,iv n3,iv n4,iv n5,iv n6,.slice (some x) len cap] 24)).heap.size=w.heap.size+2:=by simp
 generalize ((w.alloc (.cells #[iv m0,iv m1,iv m2,iv m3,iv m4,iv m5,iv m6,.slice (some (aq g 0)) len (len+8)] 24)).alloc (.cells #[iv n0,iv n1,iv n2,iv n3,iv n4,iv n5,iv n6,.slice (some x) len cap] 24))=W at *
 have HSZ:Hid (W.heap.size=w.heap.size+2):=hsz
 clear hsz
 go_loopw [7,8] (fun ok i wr=>∃ j:Nat,j<=len+8/\ok=.bool true/\i=iv j/\Hid (wr.heap[g]?=some (.cells (qV (marks j)++qV ((yX ts).drop j)).toArray 107 (0,0)))/\W.grownBy wr (some g)) (fun _ i _=>len+8 - (intOf i).toNat)
 case atStart=>exact ⟨0,Nat.zero_le _,rfl,rfl,HW0,World.grownBy.refl _ _⟩
 case round =>
  obtain ⟨j,hj,rfl,rfl,hrow,hgr⟩:=hrel
  by_cases hlt:j<len+8
  ·have hgwr:g<wr.heap.size:=uB (by rw [HSZ.out];omega) hgr.size
   have hsw:w.heap.size+1<wr.heap.size:=by have:=hgr.size;rw [HSZ.out] at this;exact this
   have hbx:wr.cell? (aq (w.heap.size+1) 7)=some (.slice (some x) len cap):=(oE hgr (by rw [HSZ.out];omega) uO).trans hbox
   have hA:(qV (marks j)).length=j * 2:=by rw [kN,Mm]
   rw [Mh (yX ts) j (by rw [eX,hts.out];omega),lV] at hrow
   generalize hp:(yX ts).getD j (0,0)=p at hrow
   obtain ⟨p0,p1⟩:=p
   have HP:Hid ((yX ts).getD j (0,0)=(p0,p1)):=hp
   clear hp
   have d0:wr.cell? (aq g (j * 2))=some (iv p0):=oP hrow.out hA
   have d1:wr.cell? (aq g (j * 2+1))=some (iv p1):=oP (A:=qV (marks j)++[iv p0]) (by rw [hrow.out,List.append_assoc];rfl) (by simp [hA])
   have df:=qA hrow.out
   by_cases hin:j<len
   ·obtain ⟨hl,_,_,_,hcs⟩:=HT.out
    have hne:ts≠[]:=fun e=>by rw [e] at hl;simp at hl;omega
    obtain ⟨b,off,hxe,hbw,hcell⟩:=hcs hne
    have hxe':=Option.some.inj hxe
    subst hxe'
    clear hxe
    have hbg:b≠g:=hx hne
    rw [sF uO] at HP
    have t0:wr.cell? (aq b (off+j * 2))=some (iv p0):=by
     rw [oE hgr (by rw [HSZ.out];omega) hbg,oE hW.out hbw hbg,(hcell j hin).1,HP.out]
    have t1:wr.cell? (aq b (off+j * 2+1))=some (iv p1):=by
     rw [oE hgr (by rw [HSZ.out];omega) hbg,oE hW.out hbw hbg,(hcell j hin).2,HP.out]
    have hbwr:b<wr.heap.size:=uO
    clear hcell hcs hl
    have HR:Hid (∀ (O:Obj) (nq:Nat) (v0 v1:Value),((((wr.alloc O).drewN nq).sc g (j * 2) v0).sc g (j * 2+1) v1).heap[g]?=some (.cells (qV (marks j)++v0 :: v1 :: qV ((yX ts).drop (j+1))).toArray 107 (0,0))):=fun O nq v0 v1=>mD ((uE wr O g hgwr).trans hrow.out) hA v0 v1
    clear hrow hA
    go_wp2
    go_quiet (fail)
    go_wp2
    go_roundw
    case rel =>
     refine ⟨j+1,uO,rfl,vN,?_,?_⟩
     ·have e:qV (marks (j+1))++qV ((yX ts).drop (j+1))=qV (marks j)++iv j :: iv 77 :: qV ((yX ts).drop (j+1)):=by
       rw [wS,tC,List.append_assoc];rfl
      unfold Hid
      rw [e]
      exact HR.out _ _ _ _
     ·exact yT (yT (tR (xR hgr (World.grownBy_alloc _ _ _))))
    case measure=>simp [intOf];omega
   ·rw [Vu (by rw [hts.out];omega) (by rw [hts.out];omega)] at HP
    have hp:=HP.out
    simp only [Prod.mk.injEq] at hp
    obtain ⟨rfl,rfl⟩:=hp
    have hin':¬ (j:Int)<(len:Int):=uO
    have HR:Hid (∀ (O:Obj) (nq:Nat) (v0 v1:Value),((((wr.alloc O).drewN nq).sc g (j * 2) v0).sc g (j * 2+1) v1).heap[g]?=some (.cells (qV (marks j)++v0 :: v1 :: qV ((yX ts).drop (j+1))).toArray 107 (0,0))):=fun O nq v0 v1=>mD ((uE wr O g hgwr).trans hrow.out) hA v0 v1
    clear hrow hA
    go_wp2
    go_quiet (fail)
    go_wp2
    go_roundw
    case rel =>
     refine ⟨j+1,uO,rfl,vN,?_,?_⟩
     ·have e:qV (marks (j+1))++qV ((yX ts).drop (j+1))=qV (marks j)++iv j :: iv 77 :: qV ((yX ts).drop (j+1)):=by
         rw [wS,tC,List.append_assoc];rfl
      unfold Hid
      rw [e]
      exact HR.out _ _ _ _
     ·exact yT (yT (tR (xR hgr (World.grownBy_alloc _ _ _))))
    case measure=>simp [intOf];omega
  ·have hje:j=len+8:=uO
   subst hje
   go_wp2
   go_ret
   exact ⟨rfl,xR hW.out hgr⟩
