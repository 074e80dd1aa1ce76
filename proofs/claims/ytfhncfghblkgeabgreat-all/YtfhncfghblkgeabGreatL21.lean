import Derived.Test.YtfhncfghblkgeabGreatL20
set_option maxRecDepth 100000
set_option maxHeartbeats 2000000
namespace Go.Proofs.YtfhncfghblkgeabGreat
open Go.RowKit
theorem jZ {k t c u o:Int} (h:QH k t c u o=true):∀ x∈qE k (qT k t c u o),0<=x/\x<256:=by
 intro x hx
 obtain ⟨_,_,hp⟩:=tD h
 rcases List.mem_cons.1 hx with rfl|hx
 ·unfold ZT at hp
  split at hp
  ·omega
  ·split at hp
   ·omega
   ·split at hp
    ·omega
    ·omega
 ·obtain ⟨n,_,hx⟩:=List.mem_flatMap.1 hx
  exact Xe _ x hx
theorem zT {w:World} {B:Nat} {v:Value} {l:List Int} (h:bytesAt w B v l) (hb:∀ x∈l,0<=x/\x<256):∃ g cap,v=.slice (some (aq g 0)) l.length cap/\qJ w (some (aq g 0)) l.length cap l:=by
 obtain ⟨g,cap,rfl,_,hg,hn,hm,hc⟩:=h
 exact ⟨g,cap,rfl,rfl,hn,hm,hb,fun _=>⟨g,0,rfl,hg,hc⟩⟩
theorem Qu {k t c u o k' t' c' u' o':Int} (h:QH k t c u o=true) (h':QH k' t' c' u' o'=true) (e:qE k (qT k t c u o)=qE k' (qT k' t' c' u' o')):k=k'/\t=t'/\c=c'/\u=u'/\o=o':=by
 obtain ⟨ha,hl,hp⟩:=tD h
 obtain ⟨ha',hl',_⟩:=tD h'
 rw [jQ,jQ] at e
 simp only [List.cons.injEq] at e
 obtain ⟨rfl,e⟩:=e
 obtain ⟨ms,e1,e2⟩:=oI ((qT k t c u o).map Int.toNat) ((qT k t' c' u' o').map Int.toNat) [] (by rw [List.length_map,List.length_map,hl,hl'];exact uA _) (by rw [List.append_nil];exact e)
 have hms:ms=[]:=List.eq_nil_of_length_eq_zero (by have:=congrArg List.length e1;rw [List.length_append,List.length_map,List.length_map,hl,hl'] at this;omega)
 subst hms
 have en:qT k t c u o=qT k t' c' u' o':=by
  rw [← oU _ ha,← oU _ ha']
  rw [e1];simp
 unfold qT at en
 unfold QH at h h'
 split at en
 ·next hk=>simp [hk] at en h h';simp [en,h,h']
 ·next hk1 =>
  split at en
  ·next hk=>simp [hk1,hk] at en h h';simp [en,h,h']
  ·next hk2 =>
   split at en
   ·next hk=>simp [hk] at en h h';simp [en,h,h']
   ·next hk4=>simp [hk1,hk2,hk4] at h
theorem Wt {k t c u o k' t' c' u' o' err:Int} (h:QH k t c u o=true) (hu:UN (qE k (qT k t c u o)) k' t' c' u' o' err):k'=k/\t'=t/\c'=c/\u'=u/\o'=o/\err=0:=by
 rcases hu with ⟨h0,h1,h2⟩|⟨_,_,_,_,_,_,h2⟩
 ·obtain ⟨e1,e2,e3,e4,e5⟩:=Qu h h1 h2
  exact ⟨e1.symm,e2.symm,e3.symm,e4.symm,e5.symm,h0⟩
 ·exact absurd rfl (h2 k t c u o h)
end Go.Proofs.YtfhncfghblkgeabGreat
namespace Go
section
variable {P:Program}
theorem Zx (w:World) (dT sT ty elem:TypeId) (g dLen dCap:Nat) (s:ByteArray) (cur:Array Value) (t:TypeId)
 (hu:P.underlying dT=some (.slice elem)) (hs:(P.info? elem).map (·.size)=some 1)
 (hg:w.heap[g]?=some (.cells cur t (0,0))) (hn:s.size<=dLen) (hfit:s.size<=cur.size) :
 (Builtin.copy_ #[dT,sT] ty #[.slice (some ⟨g,0,none⟩) dLen dCap,.string s]).run P w =
   .ok (goInt s.size) (w.setRow g (byteCells s++cur.toList.drop s.size).toArray):=by
 have hl:=firstCells_string (P:=P) s w
 have h1:∀ u∈byteCells s,u.oneCell'=true:=fun u hu=>by
  obtain ⟨_,_,rfl⟩:=List.mem_map.1 hu
  rfl
 have hst:=run_storeCells_at P g 0 t (byteCells s) 0 cur w hg (by rw [byteCells_length];simpa using hfit) h1
 rw [byteCells_length] at hst
 have hmin:Nat.min s.size dLen=s.size:=Nat.min_eq_left hn
 cases hq:P.info? elem with
 | none=>simp [hq] at hs
 | some i =>
   have hi:i.size=1:=by simpa [hq] using hs
   simp [Builtin.copy_,run_underlying hu,Builtin.lenOf,sizeOf,typeInfo,hq,hi,hmin,hl,hst]
end
end Go
namespace Go.Proofs.YtfhncfghblkgeabGreat
open Go.RowKit
def jR (s:ByteArray):List Int:=s.data.toList.map fun b=>(b.toNat:Int)
theorem vM (s:ByteArray):(jR s).length=s.size:=by simp [jR]
theorem Jq (s:ByteArray):byteCells s=(jR s).map (Value.int .u8):=by simp [byteCells,jR]
theorem nE (s:ByteArray):∀ x∈jR s,0<=x/\x<256:=by
 intro x hx
 obtain ⟨b,_,rfl⟩:=List.mem_map.1 hx
 have:=b.toNat_lt
 omega
theorem Vm (s:ByteArray):strOfNums (jR s)=s:=by
 unfold strOfNums jR
 obtain ⟨⟨l⟩⟩:=s
 have:∀ l:List UInt8,(l.map fun b=>(b.toNat:Int)).map (fun n=>UInt8.ofNat n.toNat)=l:=fun l=>by
  induction l with
  | nil=>rfl
  | cons b l ih=>rw [List.map_cons,List.map_cons,ih];simp
 rw [this]
def dN (s:ByteArray):List Int:=jR s++List.replicate 8 77
theorem Tryz.sizeU8:(Tryz.prog.info? 5).map (·.size)=some 1:=by kernel_rfl
theorem En {Z:List Value} {j:Nat} (h:Z.length=8 - j) (hj:j<8):∃ z Z',Z=z :: Z'/\Z'.length=8 - (j+1):=by
 match Z,h with
 | [],h=>simp at h;omega
 | z :: Z',h=>exact ⟨z,Z',rfl,by simp at h;omega⟩
theorem rQ (s:ByteArray) (w:World) (hs:s.size<=140737488351232) :
 Calls Tryz.prog 76 #[.string s] w fun e w'=>∃ g,e=.returned (.slice (some ⟨g,0,none⟩) s.size (s.size+8))/\w.heap.size<=g/\w'.heap[g]?=some (.cells ((dN s).map (Value.int .u8)).toArray 5 (0,0))/\Below w.heap.size w w':=by
 obtain ⟨i0,hi,hz0,hz1,hz2⟩:=info_parts Tryz.infoU8
 go_enter Tryz.func76,Tryz.ntmps76
 go_wp2_with (at_make;refine wpList_make_full _ rfl _ _ 70 rfl w.heap.size 5 i0 (.int .u8 0) 1 Tryz.underlying70 hi hz0 hz1 .i64 .i64 _ _ (s.size+8) rfl rfl vS vS (by rw [hz2];omega) (by unfold maxLen;omega) (uA _) ?_)
 intro w1 hown hgrow
 have w01:Below w.heap.size w w1:=(uM _ _).grown hgrow (uA _) (fun k hk=>by simp at hk)
 obtain ⟨cur,hcur,hcs⟩:∃ cur:Array Value,w1.heap[w.heap.size]?=some (.cells cur 5 (0,0))/\cur.size=s.size+8:=by
  rcases hown.2 with ⟨h0,_⟩|⟨g,c,cur,hv,_,hh,_,_,hs,_⟩
  ·simp at h0
  ·simp at hv
   obtain ⟨rfl,rfl⟩:=hv
   exact ⟨cur,hh,by simpa using hs⟩
 have HC:Hid (w1.heap[w.heap.size]?=some (.cells cur 5 (0,0))):=hcur
 clear hcur hown hgrow
 obtain ⟨w2,hcopy,hrow2,hg2⟩:∃ w2,(Builtin.copy_ #[70,9] 3 #[.slice (some ⟨w.heap.size,0,none⟩) (s.size+8) (s.size+8),.string s]).run Tryz.prog w1=.ok (goInt s.size) w2/\w2.heap[w.heap.size]?=some (.cells (byteCells s++cur.toList.drop s.size).toArray 5 (0,0))/\w1.grownBy w2 (some w.heap.size):=by
  have hr:=Zx (P:=Tryz.prog) w1 70 9 3 5 w.heap.size (s.size+8) (s.size+8) s cur 5 Tryz.underlying70 Tryz.sizeU8 HC.out uO uO
  exact ⟨_,hr,setRow_heap w1 _ cur _ _ _ HC.out,⟨rfl,rfl,rfl,by simp [World.setRow],fun k _ hk=>setRow_other w1 _ k _ (fun e=>hk (by simp [e]))⟩⟩
 have HR2:Hid (w2.heap[w.heap.size]?=some (.cells ((jR s++List.replicate 0 77).map (Value.int .u8)++cur.toList.drop s.size).toArray 5 (0,0))):=by rw [Jq] at hrow2;simpa [Hid] using hrow2
 have HZ:Hid ((cur.toList.drop s.size).length=8 - 0):=by unfold Hid;rw [List.length_drop,Array.length_toList,hcs];omega
 generalize cur.toList.drop s.size=Z0 at HR2 HZ
 have w02:Below w.heap.size w w2:=w01.grown hg2 w01.size (fun k hk=>by simp at hk;omega)
 clear hrow2 hg2 w01
 go_wp2_with fail
 go_loopw [5] (fun i wr=>∃ (j:Nat) (Z:List Value),j<=8/\i=.int .i64 ((s.size:Int)+j)/\Hid (Z.length=8 - j)/\Hid (wr.heap[w.heap.size]?=some (.cells ((jR s++List.replicate j 77).map (Value.int .u8)++Z).toArray 5 (0,0)))/\Below w.heap.size w wr) (fun i _=>s.size+8 - (intOf i).toNat)
 case atStart=>exact ⟨0,Z0,uO,by simp,HZ,HR2,w02⟩
 case round =>
  obtain ⟨j,Z,hj,rfl,hZ,hrow,hbel⟩:=hrel
  by_cases hlt:j<8
  ·obtain ⟨z,Z',rfl,hZ'⟩:=En hZ.out hlt
   have hA:((jR s++List.replicate j 77).map (Value.int .u8)).length=s.size+j:=by simp [vM]
   have d0:=oP hrow.out hA
   have df:=qA hrow.out
   have HR:Hid (∀ v:Value,(wr.setCell ⟨w.heap.size,s.size+j,none⟩ v).heap[w.heap.size]?=some (.cells ((jR s++List.replicate j 77).map (Value.int .u8)++v :: Z').toArray 5 (0,0))):=fun v=>xV hrow.out hA v
   clear hrow hZ hA
   go_wp2
   go_roundw
   case rel =>
    refine ⟨j+1,Z',uO,vN,hZ',?_,hbel.setCell (p:=⟨w.heap.size,s.size+j,none⟩) (uA _) _⟩
    have e:(jR s++List.replicate (j+1) 77).map (Value.int .u8)++Z'=(jR s++List.replicate j 77).map (Value.int .u8)++.int .u8 77 :: Z':=by
     rw [List.replicate_succ',← List.append_assoc,List.map_append (l₂:=[77]),List.append_assoc];rfl
    unfold Hid
    rw [e]
    exact HR.out _
   case measure=>simp [intOf];omega
  ·have hj8:j=8:=uO
   subst hj8
   have hZ0:Z=[]:=List.eq_nil_of_length_eq_zero hZ.out
   subst hZ0
   have HROW:Hid (wr.heap[w.heap.size]?=some (.cells ((dN s).map (Value.int .u8)).toArray 5 (0,0))):=by have:=hrow.out;rw [List.append_nil] at this;exact this
   clear hrow hZ
   go_wp2
   go_ret
   exact ⟨w.heap.size,rfl,uA _,HROW.out,hbel⟩
theorem Ry (s:ByteArray):(dN s).length=s.size+8:=by simp [dN,vM]
theorem Ao {s:ByteArray} {j:Nat} (h:s.size<=j) (h':j<s.size+8):(dN s).getD j 0=77:=by
 unfold dN
 rw [List.getD_eq_getElem?_getD,List.getElem?_append_right (by rw [vM];exact h),List.getElem?_replicate,uQ (by rw [vM];omega)];rfl
theorem Zy {w:World} {g n cap:Nat} {l m:List Int} (h:w.heap[g]?=some (.cells ((l++m).map (Value.int .u8)).toArray 5 (0,0))) (hl:l.length=n) (hc:n<=cap) (hm:cap<=maxLen) (hb:∀ x∈l,0<=x/\x<256):qJ w (some ⟨g,0,none⟩) n cap l:=by
 refine ⟨hl,hc,hm,hb,fun _=>⟨g,0,rfl,(Array.getElem?_eq_some_iff.1 h).1,fun i hi=>?_⟩⟩
 rw [uI h,List.getElem?_toArray,Nat.zero_add,List.getElem?_map,List.getElem?_append_left uO,List.getD_eq_getElem?_getD,uD uO]
 rfl
theorem sP {w:World} {g:Nat} {s:ByteArray} (h:w.heap[g]?=some (.cells ((dN s).map (Value.int .u8)).toArray 5 (0,0))) (hs:s.size<=140737488351232):qJ w (some ⟨g,0,none⟩) s.size (s.size+8) (jR s) :=
 Zy h (vM s) uO (by unfold maxLen;omega) (nE s)
theorem Nq (l:List Int) (j:Nat) (h:j<l.length):l.drop j=l.getD j 0 :: l.drop (j+1):=by
 rw [List.drop_eq_getElem_cons h]
 simp [List.getD,uD h]
theorem mS (g:Nat) (s:ByteArray) (w:World) (hs:s.size<=140737488351232) (hg:w.heap[g]?=some (.cells ((dN s).map (Value.int .u8)).toArray 5 (0,0))) :
 Calls Tryz.prog 78 #[.slice (some ⟨g,0,none⟩) s.size (s.size+8),.string s] w fun e w'=>e=.returned (.bool true)/\w.grownBy w' (some g):=by
 have hcv:=xP (cap:=s.size+8) (Zy hg (vM s) uO (by unfold maxLen;omega) (nE s))
 rw [Vm] at hcv
 have HG:Hid (w.heap[g]?=some (.cells ((dN s).map (Value.int .u8)).toArray 5 (0,0))):=hg
 have hgw:g<w.heap.size:=(Array.getElem?_eq_some_iff.1 hg).1
 clear hg
 go_enter Tryz.func78,Tryz.ntmps78
 go_wp2_with fail
 clear hcv
 go_loopw [7,8] (fun ok i wr=>∃ j:Nat,j<=s.size+8/\ok=.bool true/\i=.int .i64 j/\Hid (wr.heap[g]?=some (.cells ((List.replicate j 1).map (Value.int .u8)++((dN s).drop j).map (Value.int .u8)).toArray 5 (0,0)))/\w.grownBy wr (some g)) (fun _ i _=>s.size+8 - (intOf i).toNat)
 case atStart=>exact ⟨0,Nat.zero_le _,by simp,rfl,HG,World.grownBy.refl _ _⟩
 case round =>
  obtain ⟨j,hj,rfl,rfl,hrow,hgr⟩:=hrel
  by_cases hlt:j<s.size+8
  ·have hA:((List.replicate j (1:Int)).map (Value.int .u8)).length=j:=by simp
   rw [Nq (dN s) j (by rw [Ry];exact hlt),List.map_cons] at hrow
   generalize hp:(dN s).getD j 0=p at hrow
   have HP:Hid ((dN s).getD j 0=p):=hp
   clear hp
   have d0:wr.cell? ⟨g,j,none⟩=some (.int .u8 p):=oP hrow.out hA
   have df:=qA hrow.out
   have HR:Hid (∀ v:Value,(wr.setCell ⟨g,j,none⟩ v).heap[g]?=some (.cells ((List.replicate j 1).map (Value.int .u8)++v :: ((dN s).drop (j+1)).map (Value.int .u8)).toArray 5 (0,0))):=fun v=>xV hrow.out hA v
   have HE:Hid (∀ Z:List Value,(List.replicate (j+1) (1:Int)).map (Value.int .u8)++Z=(List.replicate j 1).map (Value.int .u8)++.int .u8 1 :: Z):=fun Z=>by rw [List.replicate_succ',List.map_append,List.append_assoc];rfl
   clear hrow hA
   by_cases hin:j<s.size
   ·go_wp2
    go_roundw
    case rel=>exact ⟨j+1,uO,by simp,vN,by unfold Hid;rw [HE.out];exact HR.out _,yT hgr⟩
    case measure=>simp [intOf];omega
   ·have hp:=HP.out
    rw [Ao uO hlt] at hp
    subst hp
    have hin':¬ (j:Int)<(s.size:Int):=uO
    have hd:decide ((j:Int)<(s.size:Int))=false:=by simpa using hin'
    go_wp2
    go_roundw
    case rel=>exact ⟨j+1,uO,by simp,vN,by unfold Hid;rw [HE.out];exact HR.out _,yT hgr⟩
    case measure=>simp [intOf];omega
  ·have hje:j=s.size+8:=uO
   subst hje
   go_wp2
   go_ret
   exact ⟨rfl,hgr⟩
