import Derived.Test.YtfhncfghblkgeaaGreatL24
set_option maxRecDepth 100000
set_option maxHeartbeats 2000000
namespace Go.Proofs.YtfhncfghblkgeaaGreat
open Go.RowKit
theorem jcz {k t c u o:Int} (h:isB k t c u o=true):∀ x∈ja8 k (jaj k t c u o),0<=x/\x<256:=by
 intro x hx
 obtain ⟨_,_,hp⟩:=jit h
 rcases List.mem_cons.1 hx with rfl|hx
 ·unfold cnt at hp
  split at hp
  ·omega
  ·split at hp
   ·omega
   ·split at hp
    ·omega
    ·omega
 ·obtain ⟨n,_,hx⟩:=List.mem_flatMap.1 hx
  exact jrb _ x hx
theorem jcg {w:World} {B:Nat} {v:Value} {l:List Int} (h:bytesAt w B v l) (hb:∀ x∈l,0<=x/\x<256):∃ g cap,v=.slice (some (aq g 0)) l.length cap/\ja6 w (some (aq g 0)) l.length cap l:=by
 obtain ⟨g,cap,rfl,_,hg,hn,hm,hc⟩:=h
 exact ⟨g,cap,rfl,rfl,hn,hm,hb,fun _=>⟨g,0,rfl,hg,hc⟩⟩
theorem jr3 {k t c u o k' t' c' u' o':Int} (h:isB k t c u o=true) (h':isB k' t' c' u' o'=true) (e:ja8 k (jaj k t c u o)=ja8 k' (jaj k' t' c' u' o')):k=k'/\t=t'/\c=c'/\u=u'/\o=o':=by
 obtain ⟨ha,hl,hp⟩:=jit h
 obtain ⟨ha',hl',_⟩:=jit h'
 rw [jcd,jcd] at e
 simp only [List.cons.injEq] at e
 obtain ⟨rfl,e⟩:=e
 obtain ⟨ms,e1,e2⟩:=je8 ((jaj k t c u o).map Int.toNat) ((jaj k t' c' u' o').map Int.toNat) [] (by rw [List.length_map,List.length_map,hl,hl'];exact Nat.le_refl _) (by rw [List.append_nil];exact e)
 have hms:ms=[]:=List.eq_nil_of_length_eq_zero (by have:=congrArg List.length e1;rw [List.length_append,List.length_map,List.length_map,hl,hl'] at this;omega)
 subst hms
 have en:jaj k t c u o=jaj k t' c' u' o':=by
  rw [← jer _ ha,← jer _ ha']
  rw [e1];simp
 unfold jaj at en
 unfold isB at h h'
 split at en
 ·next hk=>simp [hk] at en h h';simp [en,h,h']
 ·next hk1 =>
  split at en
  ·next hk=>simp [hk1,hk] at en h h';simp [en,h,h']
  ·next hk2 =>
   split at en
   ·next hk=>simp [hk] at en h h';simp [en,h,h']
   ·next hk4=>simp [hk1,hk2,hk4] at h
theorem qdn {k t c u o k' t' c' u' o' err:Int} (h:isB k t c u o=true) (hu:UN (ja8 k (jaj k t c u o)) k' t' c' u' o' err):k'=k/\t'=t/\c'=c/\u'=u/\o'=o/\err=0:=by
 rcases hu with ⟨h0,h1,h2⟩|⟨_,_,_,_,_,_,h2⟩
 ·obtain ⟨e1,e2,e3,e4,e5⟩:=jr3 h h1 h2
  exact ⟨e1.symm,e2.symm,e3.symm,e4.symm,e5.symm,h0⟩
 ·exact absurd rfl (h2 k t c u o h)
end Go.Proofs.YtfhncfghblkgeaaGreat
namespace Go
section
variable {P:Program}
theorem jrp (w:World) (dT sT ty elem:TypeId) (g dLen dCap:Nat) (s:ByteArray) (cur:Array Value) (t:TypeId)
 (hu:P.underlying dT=some (.slice elem)) (hs:(P.info? elem).map (·.size)=some 1)
 (hg:w.heap[g]?=some (.cells cur t (0,0))) (hn:s.size<=dLen) (hfit:s.size<=cur.size) :
 (Builtin.copy_ #[dT,sT] ty #[.slice (some ⟨g,0,none⟩) dLen dCap,.string s]).run P w =
   .ok (goInt s.size) (w.setRow g (byteCells s++cur.toList.drop s.size).toArray):=by
 have hl:=firstCells_string (P:=P) s w
 have h1:∀ u∈byteCells s,u.oneCell'=true:=fun u hu=>by
  obtain ⟨_,_,rfl⟩:=List.mem_map.1 hu
  rfl
 have hst:=run_storeCells_at P g 0 t (byteCells s) 0 cur w hg (by rw [byteCells_length];simpa using hfit) h1
 rw [byteCells_length] at hst
 have hmin:Nat.min s.size dLen=s.size:=Nat.min_eq_left hn
 cases hq:P.info? elem with
 | none=>simp [hq] at hs
 | some i =>
   have hi:i.size=1:=by simpa [hq] using hs
   simp [Builtin.copy_,run_underlying hu,Builtin.lenOf,sizeOf,typeInfo,hq,hi,hmin,hl,hst]
end
end Go
namespace Go.Proofs.YtfhncfghblkgeaaGreat
open Go.RowKit
def jcm (s:ByteArray):List Int:=s.data.toList.map fun b=>(b.toNat:Int)
theorem jdz (s:ByteArray):(jcm s).length=s.size:=by simp [jcm]
theorem jrl (s:ByteArray):byteCells s=(jcm s).map (Value.int .u8):=by simp [byteCells,jcm]
theorem jia (s:ByteArray):∀ x∈jcm s,0<=x/\x<256:=by
 intro x hx
 obtain ⟨b,_,rfl⟩:=List.mem_map.1 hx
 have:=b.toNat_lt
 omega
theorem js9 (s:ByteArray):strOfNums (jcm s)=s:=by
 unfold strOfNums jcm
 obtain ⟨⟨l⟩⟩:=s
 have:∀ l:List UInt8,(l.map fun b=>(b.toNat:Int)).map (fun n=>UInt8.ofNat n.toNat)=l:=fun l=>by
  induction l with
  | nil=>rfl
  | cons b l ih=>rw [List.map_cons,List.map_cons,ih];simp
 rw [this]
def jg5 (s:ByteArray):List Int:=jcm s++List.replicate 8 77
theorem Tryz.sizeU8:(Tryz.prog.info? 5).map (·.size)=some 1:=by kernel_rfl
theorem qcl {Z:List Value} {j:Nat} (h:Z.length=8 - j) (hj:j<8):∃ z Z',Z=z :: Z'/\Z'.length=8 - (j+1):=by
 match Z,h with
 | [],h=>simp at h;omega
 | z :: Z',h=>exact ⟨z,Z',rfl,by simp at h;omega⟩
theorem jpc (s:ByteArray) (w:World) (hs:s.size<=140737488351232) :
 Calls Tryz.prog 72 #[.string s] w fun e w'=>∃ g,e=.returned (.slice (some ⟨g,0,none⟩) s.size (s.size+8))/\w.heap.size<=g/\w'.heap[g]?=some (.cells ((jg5 s).map (Value.int .u8)).toArray 5 (0,0))/\Below w.heap.size w w':=by
 obtain ⟨i0,hi,hz0,hz1,hz2⟩:=info_parts Tryz.infoU8
 go_enter Tryz.func72,Tryz.ntmps72
 go_wp2_with (at_make;refine wpList_make_full _ rfl _ _ 92 rfl w.heap.size 5 i0 (.int .u8 0) 1 Tryz.underlying92 hi hz0 hz1 .i64 .i64 _ _ (s.size+8) rfl rfl (by simp) (by simp) (by rw [hz2];omega) (by unfold maxLen;omega) (Nat.le_refl _) ?_)
 intro w1 hown hgrow
 have w01:Below w.heap.size w w1:=(Below.refl _ _).grown hgrow (Nat.le_refl _) (fun k hk=>by simp at hk)
 obtain ⟨cur,hcur,hcs⟩:∃ cur:Array Value,w1.heap[w.heap.size]?=some (.cells cur 5 (0,0))/\cur.size=s.size+8:=by
  rcases hown.2 with ⟨h0,_⟩|⟨g,c,cur,hv,_,hh,_,_,hs,_⟩
  ·simp at h0
  ·simp at hv
   obtain ⟨rfl,rfl⟩:=hv
   exact ⟨cur,hh,by simpa using hs⟩
 have HC:Hid (w1.heap[w.heap.size]?=some (.cells cur 5 (0,0))):=hcur
 clear hcur hown hgrow
 obtain ⟨w2,hcopy,hrow2,hg2⟩:∃ w2,(Builtin.copy_ #[92,9] 3 #[.slice (some ⟨w.heap.size,0,none⟩) (s.size+8) (s.size+8),.string s]).run Tryz.prog w1=.ok (goInt s.size) w2/\w2.heap[w.heap.size]?=some (.cells (byteCells s++cur.toList.drop s.size).toArray 5 (0,0))/\w1.grownBy w2 (some w.heap.size):=by
  have hr:=jrp (P:=Tryz.prog) w1 92 9 3 5 w.heap.size (s.size+8) (s.size+8) s cur 5 Tryz.underlying92 Tryz.sizeU8 HC.out (by omega) (by omega)
  exact ⟨_,hr,setRow_heap w1 _ cur _ _ _ HC.out,⟨rfl,rfl,rfl,by simp [World.setRow],fun k _ hk=>setRow_other w1 _ k _ (fun e=>hk (by simp [e]))⟩⟩
 have HR2:Hid (w2.heap[w.heap.size]?=some (.cells ((jcm s++List.replicate 0 77).map (Value.int .u8)++cur.toList.drop s.size).toArray 5 (0,0))):=by rw [jrl] at hrow2;simpa [Hid] using hrow2
 have HZ:Hid ((cur.toList.drop s.size).length=8 - 0):=by unfold Hid;rw [List.length_drop,Array.length_toList,hcs];omega
 generalize cur.toList.drop s.size=Z0 at HR2 HZ
 have w02:Below w.heap.size w w2:=w01.grown hg2 w01.size (fun k hk=>by simp at hk;omega)
 clear hrow2 hg2 w01
 go_wp2_with fail
 go_loopw [5] (fun i wr=>∃ (j:Nat) (Z:List Value),j<=8/\i=.int .i64 ((s.size:Int)+j)/\Hid (Z.length=8 - j)/\Hid (wr.heap[w.heap.size]?=some (.cells ((jcm s++List.replicate j 77).map (Value.int .u8)++Z).toArray 5 (0,0)))/\Below w.heap.size w wr) (fun i _=>s.size+8 - (intOf i).toNat)
 case atStart=>exact ⟨0,Z0,by omega,by simp,HZ,HR2,w02⟩
 case round =>
  obtain ⟨j,Z,hj,rfl,hZ,hrow,hbel⟩:=hrel
  by_cases hlt:j<8
  ·obtain ⟨z,Z',rfl,hZ'⟩:=qcl hZ.out hlt
   have hA:((jcm s++List.replicate j 77).map (Value.int .u8)).length=s.size+j:=by simp [jdz]
   have d0:=jhm hrow.out hA
   have df:=ja0 hrow.out
   have HR:Hid (∀ v:Value,(wr.setCell ⟨w.heap.size,s.size+j,none⟩ v).heap[w.heap.size]?=some (.cells ((jcm s++List.replicate j 77).map (Value.int .u8)++v :: Z').toArray 5 (0,0))):=fun v=>jdh hrow.out hA v
   clear hrow hZ hA
   go_wp2
   go_roundw
   case rel =>
    refine ⟨j+1,Z',by omega,by go_num,hZ',?_,hbel.setCell (p:=⟨w.heap.size,s.size+j,none⟩) (Nat.le_refl _) _⟩
    have e:(jcm s++List.replicate (j+1) 77).map (Value.int .u8)++Z'=(jcm s++List.replicate j 77).map (Value.int .u8)++.int .u8 77 :: Z':=by
     rw [List.replicate_succ',← List.append_assoc,List.map_append (l₂:=[77]),List.append_assoc];rfl
    unfold Hid
    rw [e]
    exact HR.out _
   case measure=>simp [intOf];omega
  ·have hj8:j=8:=by omega
   subst hj8
   have hZ0:Z=[]:=List.eq_nil_of_length_eq_zero hZ.out
   subst hZ0
   have HROW:Hid (wr.heap[w.heap.size]?=some (.cells ((jg5 s).map (Value.int .u8)).toArray 5 (0,0))):=by have:=hrow.out;rw [List.append_nil] at this;exact this
   clear hrow hZ
   go_wp2
   go_ret
   exact ⟨w.heap.size,rfl,Nat.le_refl _,HROW.out,hbel⟩
theorem qah (s:ByteArray):(jg5 s).length=s.size+8:=by simp [jg5,jdz]
theorem jz1 {s:ByteArray} {j:Nat} (h:s.size<=j) (h':j<s.size+8):(jg5 s).getD j 0=77:=by
 unfold jg5
 rw [List.getD_eq_getElem?_getD,List.getElem?_append_right (by rw [jdz];exact h),List.getElem?_replicate,if_pos (by rw [jdz];omega)];rfl
theorem jqo {w:World} {g n cap:Nat} {l m:List Int} (h:w.heap[g]?=some (.cells ((l++m).map (Value.int .u8)).toArray 5 (0,0))) (hl:l.length=n) (hc:n<=cap) (hm:cap<=maxLen) (hb:∀ x∈l,0<=x/\x<256):ja6 w (some ⟨g,0,none⟩) n cap l:=by
 refine ⟨hl,hc,hm,hb,fun _=>⟨g,0,rfl,(Array.getElem?_eq_some_iff.1 h).1,fun i hi=>?_⟩⟩
 rw [Joins.cell_of_block h,List.getElem?_toArray,Nat.zero_add,List.getElem?_map,List.getElem?_append_left (by omega),List.getD_eq_getElem?_getD,List.getElem?_eq_getElem (by omega)]
 rfl
theorem jvj {w:World} {g:Nat} {s:ByteArray} (h:w.heap[g]?=some (.cells ((jg5 s).map (Value.int .u8)).toArray 5 (0,0))) (hs:s.size<=140737488351232):ja6 w (some ⟨g,0,none⟩) s.size (s.size+8) (jcm s) :=
 jqo h (jdz s) (by omega) (by unfold maxLen;omega) (jia s)
theorem qa5 (l:List Int) (j:Nat) (h:j<l.length):l.drop j=l.getD j 0 :: l.drop (j+1):=by
 rw [List.drop_eq_getElem_cons h]
 simp [List.getD,List.getElem?_eq_getElem h]
theorem jnb (g:Nat) (s:ByteArray) (w:World) (hs:s.size<=140737488351232) (hg:w.heap[g]?=some (.cells ((jg5 s).map (Value.int .u8)).toArray 5 (0,0))) :
 Calls Tryz.prog 74 #[.slice (some ⟨g,0,none⟩) s.size (s.size+8),.string s] w fun e w'=>e=.returned (.bool true)/\w.grownBy w' (some g):=by
 have hcv:=je0 (cap:=s.size+8) (jqo hg (jdz s) (by omega) (by unfold maxLen;omega) (jia s))
 rw [js9] at hcv
 have HG:Hid (w.heap[g]?=some (.cells ((jg5 s).map (Value.int .u8)).toArray 5 (0,0))):=hg
 have hgw:g<w.heap.size:=(Array.getElem?_eq_some_iff.1 hg).1
 clear hg
 go_enter Tryz.func74,Tryz.ntmps74
 go_wp2_with fail
 clear hcv
 go_loopw [7,8] (fun ok i wr=>∃ j:Nat,j<=s.size+8/\ok=.bool true/\i=.int .i64 j/\Hid (wr.heap[g]?=some (.cells ((List.replicate j 1).map (Value.int .u8)++((jg5 s).drop j).map (Value.int .u8)).toArray 5 (0,0)))/\w.grownBy wr (some g)) (fun _ i _=>s.size+8 - (intOf i).toNat)
 case atStart=>exact ⟨0,Nat.zero_le _,by simp,rfl,HG,World.grownBy.refl _ _⟩
 case round =>
  obtain ⟨j,hj,rfl,rfl,hrow,hgr⟩:=hrel
  by_cases hlt:j<s.size+8
  ·have hA:((List.replicate j (1:Int)).map (Value.int .u8)).length=j:=by simp
   rw [qa5 (jg5 s) j (by rw [qah];exact hlt),List.map_cons] at hrow
   generalize hp:(jg5 s).getD j 0=p at hrow
   have HP:Hid ((jg5 s).getD j 0=p):=hp
   clear hp
   have d0:wr.cell? ⟨g,j,none⟩=some (.int .u8 p):=jhm hrow.out hA
   have df:=ja0 hrow.out
   have HR:Hid (∀ v:Value,(wr.setCell ⟨g,j,none⟩ v).heap[g]?=some (.cells ((List.replicate j 1).map (Value.int .u8)++v :: ((jg5 s).drop (j+1)).map (Value.int .u8)).toArray 5 (0,0))):=fun v=>jdh hrow.out hA v
   have HE:Hid (∀ Z:List Value,(List.replicate (j+1) (1:Int)).map (Value.int .u8)++Z=(List.replicate j 1).map (Value.int .u8)++.int .u8 1 :: Z):=fun Z=>by rw [List.replicate_succ',List.map_append,List.append_assoc];rfl
   clear hrow hA
   by_cases hin:j<s.size
   ·go_wp2
    go_roundw
    case rel=>exact ⟨j+1,by omega,by simp,by go_num,by unfold Hid;rw [HE.out];exact HR.out _,jc9 hgr⟩
    case measure=>simp [intOf];omega
   ·have hp:=HP.out
    rw [jz1 (by omega) hlt] at hp
    subst hp
    have hin':¬ (j:Int)<(s.size:Int):=by omega
    have hd:decide ((j:Int)<(s.size:Int))=false:=by simpa using hin'
    go_wp2
    go_roundw
    case rel=>exact ⟨j+1,by omega,by simp,by go_num,by unfold Hid;rw [HE.out];exact HR.out _,jc9 hgr⟩
    case measure=>simp [intOf];omega
  ·have hje:j=s.size+8:=by omega
   subst hje
   go_wp2
   go_ret
   exact ⟨rfl,hgr⟩
def jhp (c:Int) (n:Nat):Nat:=if c<0 then (-(c+1)).toNat % n else c.toNat % n
theorem jp0 (c:Int) {n:Nat} (h:0<n):jhp c n<n:=by
 unfold jhp
 split<;>exact Nat.mod_lt _ h
theorem juh (c:Int) (n:Nat) (w:World) (hb:-9223372036854775808<=c/\c<=9223372036854775807) (hn:0<n) (hn':n<4611686018427387904) :
 Calls Tryz.prog 48 #[iv c,iv n] w fun e w'=>e=.returned (iv (jhp c n))/\w=w':=by
 obtain ⟨hb1,hb2⟩:=hb
 by_cases h0:c<0
 ·have hne:((n:Int)==0)=false:=by simp;omega
  go_enter Tryz.func48,Tryz.ntmps48
  go_wp2
  go_ret
  refine ⟨jxw ?_,rfl⟩
  unfold jhp
  rw [if_pos h0]
  rw [← Int.neg_tmod]
  generalize hd:-(c+1)=d
  obtain ⟨m,rfl⟩:=Int.eq_ofNat_of_zero_le (show 0<=d by omega)
  rw [Int.toNat_natCast]
  exact Int.ofNat_tmod m n
 ·have hne:((n:Int)==0)=false:=by simp;omega
  obtain ⟨m,rfl⟩:=Int.eq_ofNat_of_zero_le (show 0<=c by omega)
  go_enter Tryz.func48,Tryz.ntmps48
  go_wp2
  go_ret
  refine ⟨jxw ?_,rfl⟩
  unfold jhp
  rw [if_neg (by omega),Int.toNat_natCast]
  first|exact Int.ofNat_tmod m n|exact (Int.natCast_emod m n).symm
theorem jlq (b off cap:Nat) (ns:List Int) (k:Int) (w:World) (hl:ns.length<=100) (hcell:∀ i,i<ns.length->w.cell? (aq b (off+i))=some (iv (ns.getD i 0))) :
 Calls Tryz.prog 23 #[.slice (some (aq b off)) ns.length cap,iv k] w fun e w'=>e=.returned (.bool (ns.any (·==k)))/\w=w':=by
 go_enter Tryz.func23,Tryz.ntmps23
 go_wp2
 go_loop [5] (fun i=>∃ j:Nat,j<=ns.length/\i=iv j/\Hid ((ns.take j).any (·==k)=false)) (fun i=>ns.length - (intOf i).toNat)
 case atStart=>exact ⟨0,Nat.zero_le _,rfl,by simp [Hid]⟩
 case round =>
  obtain ⟨j,hj,rfl,hall⟩:=hrel
  by_cases hlt:j<ns.length
  ·have hc:=hcell j hlt
   generalize hx:ns.getD j 0=x at hc
   have hxe:ns[j]=x:=by simpa [List.getD,List.getElem?_eq_getElem hlt] using hx
   have HX:Hid (ns[j]=x):=hxe
   clear hx hcell hxe
   by_cases h1:x=k
   ·subst h1
    have HN:Hid (ns.any (·==x)=true):=by
     unfold Hid
     rw [List.any_eq_true]
     exact ⟨ns[j],List.getElem_mem hlt,by rw [HX.out];simp⟩
    go_wp2
    go_ret
    exact ⟨by rw [HN.out];rfl,rfl⟩
   ·have h1':(x==k)=false:=by simpa using h1
    go_wp2
    go_round
    case rel=>exact ⟨j+1,by omega,by go_num,by unfold Hid;rw [List.take_succ_eq_append_getElem hlt,List.any_append,hall.out];simp [HX.out,h1]⟩
    case measure=>simp [intOf];omega
  ·have HN:Hid (ns.any (·==k)=false):=by have:=hall.out;rwa [List.take_of_length_le (by omega)] at this
   go_wp2
   go_ret
   exact ⟨by rw [HN.out];rfl,rfl⟩
structure OpV where
 k:Int
 a:Int
 b:Int
 c:Int
 d:Int
 e:Int
 s:ByteArray
def OpV.val (o:OpV):Value:=.agg #[iv o.k,iv o.a,iv o.b,iv o.c,iv o.d,iv o.e,.string o.s]
def op0:OpV:=⟨0,0,0,0,0,0,ByteArray.empty⟩
def opAt (w:World) (b i:Nat) (o:OpV):Prop :=
 w.cell? (aq b i)=some (iv o.k)/\w.cell? (aq b (i+1))=some (iv o.a)/\w.cell? (aq b (i+2))=some (iv o.b)/\w.cell? (aq b (i+3))=some (iv o.c) ∧
 w.cell? (aq b (i+4))=some (iv o.d)/\w.cell? (aq b (i+5))=some (iv o.e)/\w.cell? (aq b (i+6))=some (.string o.s)
def scriptAt (w:World) (a:Option Addr) (len:Nat) (ops:List OpV):Prop :=
 ops.length=len/\(ops≠[]->∃ b off,a=some (aq b off)/\b<w.heap.size/\∀ i,i<len->opAt w b (off+i * 7) (ops.getD i op0))
def rowAt (w:World) (b:Nat) (ns:List Int):Prop:=ns.length<=100/\b<w.heap.size/\∀ i,i<ns.length->w.cell? (aq b (0+i))=some (iv (ns.getD i 0))
theorem rowAt.below {w w':World} {b B:Nat} {ns:List Int} (h:rowAt w b ns) (hb:Below B w w') (hB:w.heap.size<=B):rowAt w' b ns :=
 ⟨h.1,Nat.lt_of_lt_of_le h.2.1 hb.size,fun i hi=>(hb.cell (p:=(aq b (0+i))) (Nat.lt_of_lt_of_le h.2.1 hB)).trans (h.2.2 i hi)⟩
theorem opAt.below {w w':World} {b i B:Nat} {o:OpV} (h:opAt w b i o) (hb:Below B w w') (hB:b<B):opAt w' b i o:=by
 obtain ⟨h0,h1,h2,h3,h4,h5,h6⟩:=h
 exact ⟨(hb.cell (p:=(aq b i)) hB).trans h0,(hb.cell (p:=(aq b (i+1))) hB).trans h1,(hb.cell (p:=(aq b (i+2))) hB).trans h2,(hb.cell (p:=(aq b (i+3))) hB).trans h3,(hb.cell (p:=(aq b (i+4))) hB).trans h4,(hb.cell (p:=(aq b (i+5))) hB).trans h5,(hb.cell (p:=(aq b (i+6))) hB).trans h6⟩
def jha (w:World):Value:=pt w.heap.size 0
theorem qa7 {α:Type} (Inv:Nat->α->World->Prop) (own:α->Nat->Prop) (w:World) (ac:Option Addr) (lc cc:Nat) (a:Option Addr) (len cap:Nat) (ops:List OpV) (bp cp bh ch:Nat) (play hold:List Int)
 (hs:scriptAt w a len ops) (hlen:len * 64<=140737488351232) (hp:rowAt w bp play) (hh:rowAt w bh hold)
 (hown:∀ j σ w' b,Inv j σ w'->own σ b->b<w'.heap.size) (hinv:∀ j σ w1 w2,Inv j σ w1->Below w1.heap.size w1 w2->Inv j σ w2) (hskip:∀ j σ w1,Inv j σ w1->Inv (j+1) σ w1) (hbel:∀ j σ w',Inv j σ w'->Below w.heap.size w w')
 (h0:∃ σ,Inv 0 σ (w.alloc (.cells #[.slice ac lc cc,.slice none 0 0,.slice none 0 0,.slice none 0 0,.slice none 0 0] 67)))
 (hstep:∀ j σ w1 o,j<len->o∈ops->play.any (·==o.k)=true->Inv j σ w1->Calls Tryz.prog 24 #[jha w,o.val] w1 fun e w2=>e=.returned (.bool true)/\(∃ σ',Inv (j+1) σ' w2)/\Same (own σ) w1 w2)
 (hlooks:∀ j σ w1,j<=len->Inv j σ w1->Calls Tryz.prog 25 #[jha w] w1 fun e w2=>e=.returned (.bool true)/\Inv j σ w2) :
 Calls Tryz.prog 12 #[.slice ac lc cc,.slice a len cap,.slice (some (aq bp 0)) play.length cp,.slice (some (aq bh 0)) hold.length ch] w fun e w'=>e=.returned (.bool true)/\Below w.heap.size w w':=by
 have HS:Hid (scriptAt w a len ops):=hs
 have HP:Hid (rowAt w bp play):=hp
 have HH:Hid (rowAt w bh hold):=hh
 have HOWN:Hid (∀ j σ w' b,Inv j σ w'->own σ b->b<w'.heap.size):=hown
 have HINV:Hid (∀ j σ w1 w2,Inv j σ w1->Below w1.heap.size w1 w2->Inv j σ w2):=hinv
 have HSK:Hid (∀ j σ w1,Inv j σ w1->Inv (j+1) σ w1):=hskip
 have HBEL:Hid (∀ j σ w',Inv j σ w'->Below w.heap.size w w'):=hbel
 have HST:Hid (∀ j σ w1 o,j<len->o∈ops->play.any (·==o.k)=true->Inv j σ w1->Calls Tryz.prog 24 #[jha w,o.val] w1 fun e w2=>e=.returned (.bool true)/\(∃ σ',Inv (j+1) σ' w2)/\Same (own σ) w1 w2):=hstep
 have HLK:Hid (∀ j σ w1,j<=len->Inv j σ w1->Calls Tryz.prog 25 #[jha w] w1 fun e w2=>e=.returned (.bool true)/\Inv j σ w2):=hlooks
 have H0:Hid (∃ σ,Inv 0 σ (w.alloc (.cells #[.slice ac lc cc,.slice none 0 0,.slice none 0 0,.slice none 0 0,.slice none 0 0] 67))):=h0
 clear hs hp hh hown hinv hskip hbel h0 hstep hlooks
 go_enter Tryz.func12,Tryz.ntmps12
 go_wp2_with fail
 go_loopw [10] (fun i wr=>∃ j:Nat,j<=len/\i=iv j/\Hid (∃ σ,Inv j σ wr)) (fun i _=>len - (intOf i).toNat)
 case atStart=>exact ⟨0,Nat.zero_le _,rfl,H0⟩
 case round =>
  obtain ⟨j,hj,rfl,σ,hI⟩:=hrel
  have HI:Hid (Inv j σ wr):=hI
  clear hI
  by_cases hlt:j<len
  ·obtain ⟨hl,hsc⟩:=HS.out
   obtain ⟨b,off,rfl,hbw,hop⟩:=hsc (fun e=>by rw [e] at hl;simp at hl;omega)
   have hmax:(j:Int)<288230376151711744:=by omega
   have hb0:=HBEL.out j σ wr HI.out
   have hmem:Hid (ops.getD j op0∈ops):=by unfold Hid;simp [List.getD,List.getElem?_eq_getElem (show j<ops.length by omega)]
   obtain ⟨e0,e1,e2,e3,e4,e5,e6⟩:=(hop j hlt).below hb0 hbw
   generalize ops.getD j op0=o at hmem e0 e1 e2 e3 e4 e5 e6
   have hI1:Hid (∀ O,Inv j σ (wr.alloc O)):=fun O=>HINV.out j σ wr _ HI.out ((Below.refl _ _).alloc (Nat.le_refl _) O)
   have hwr:w.heap.size<=wr.heap.size:=hb0.size
   clear hop hsc
   by_cases hin:play.any (·==o.k)=true
   ·have HIN:Hid (play.any (·==o.k)=true):=hin
    clear hin
    have HPW:Hid (∀ O,rowAt (wr.alloc O) bp play):=fun O=>HP.out.below (hb0.alloc hwr O) (Nat.le_refl _)
    go_wp2_with fail
    refine (jlq bp 0 cp play o.k _ HP.out.1 (HPW.out _).2.2).mono ?_
    rintro e w1 ⟨rfl,rfl⟩
    rw [HIN.out]
    go_wp2_with fail
    refine (HST.out j σ _ o hlt hmem.out HIN.out (hI1.out _)).mono ?_
    rintro e w2 ⟨rfl,⟨σ',hI2⟩,hsame⟩
    have HI2:Hid (Inv (j+1) σ' w2):=hI2
    have hb2:=HBEL.out (j+1) σ' w2 hI2
    have HH2:Hid (rowAt w2 bh hold):=HH.out.below hb2 (Nat.le_refl _)
    have q0:w2.cell? (aq wr.heap.size 0)=some (iv o.k):=(hsame.cell (by simp) (fun h=>by have:=HOWN.out j σ wr _ HI.out h;omega)).trans (by simp [go_sem])
    clear hI2 hsame e0 e1 e2 e3 e4 e5 e6
    go_wp2_with fail
    refine (jlq bh 0 ch hold o.k _ HH2.out.1 HH2.out.2.2).mono ?_
    rintro e w3 ⟨rfl,rfl⟩
    go_wp2_with fail
    refine (HLK.out (j+1) σ' _ hlt HI2.out).mono ?_
    rintro e w4 ⟨rfl,hI4⟩
    have HI4:Hid (Inv (j+1) σ' w4):=hI4
    clear hI4
    go_wp2
    go_roundw
    case rel=>exact ⟨j+1,by omega,by go_num,⟨σ',HI4.out⟩⟩
    case measure=>simp [intOf];omega
   ·have HIN:Hid (play.any (·==o.k)=false):=Bool.eq_false_iff.2 hin
    clear hin
    have HPW:Hid (∀ O,rowAt (wr.alloc O) bp play):=fun O=>HP.out.below (hb0.alloc hwr O) (Nat.le_refl _)
    go_wp2_with fail
    refine (jlq bp 0 cp play o.k _ HP.out.1 (HPW.out _).2.2).mono ?_
    rintro e w1 ⟨rfl,rfl⟩
    rw [HIN.out]
    go_wp2
    go_roundw
    case rel=>exact ⟨j+1,by omega,by go_num,⟨σ,HSK.out j σ _ (hI1.out _)⟩⟩
    case measure=>simp [intOf];omega
  ·have hje:j=len:=by omega
   subst hje
   have hbe:=HBEL.out j σ wr HI.out
   go_wp2
   go_ret
   exact ⟨rfl,hbe⟩
theorem jiu (a:Option Addr) (len cap:Nat) (ts:List (Int × Int)) (w:World) (h:tiersAt w a len cap ts) :
 Calls Tryz.prog 91 #[.slice a len cap] w fun e w'=>e=.returned (.bool (jbx ts))/\Below w.heap.size w w':=by
 obtain ⟨hl,hlc,hm,hn,hc⟩:=h
 by_cases h1:len<1
 ·have HN:Hid (jbx ts=false):=jek (by omega)
  have hd1:decide ((len:Int)<1)=true:=by simp;omega
  go_enter Tryz.func91,Tryz.ntmps91
  go_wp2
  go_ret
  exact ⟨by rw [HN.out];rfl,Below.refl _ _⟩
 by_cases h4:4<len
 ·have HN:Hid (jbx ts=false):=jek (by omega)
  have hd1:decide ((len:Int)<1)=false:=by simp;omega
  have hd4:decide (4<(len:Int))=true:=by simp;omega
  go_enter Tryz.func91,Tryz.ntmps91
  go_wp2
  go_ret
  exact ⟨by rw [HN.out];rfl,Below.refl _ _⟩
 ·obtain ⟨b,off,rfl,_,hcell⟩:=hc (fun e=>by rw [e] at hl;simp at hl;omega)
  exact jmz b off len cap ts w hl (by omega) (by omega) hcell
theorem jgu (b:Nat) (n0 n1 n2 n3 n4 n5 n6:Int) (w:World) (h0:w.cell? (aq b 0)=some (iv n0)) (h1:w.cell? (aq b 1)=some (iv n1)) (h2:w.cell? (aq b 2)=some (iv n2)) (h3:w.cell? (aq b 3)=some (iv n3)) (h4:w.cell? (aq b 4)=some (iv n4)) (h5:w.cell? (aq b 5)=some (iv n5)) (h6:w.cell? (aq b 6)=some (iv n6)) :
 Calls Tryz.prog 90 #[.slice (some (aq b 0)) 7 7] w fun e w'=>e=.returned (.bool ([n0,n1,n2,n3,n4,n5,n6].all jc3))/\w=w' :=
 jfg b 0 7 [n0,n1,n2,n3,n4,n5,n6] w (by simp) (fun i hi=>by
  match i,hi with
  | 0,_=>simpa using h0
  | 1,_=>simpa using h1
  | 2,_=>simpa using h2
  | 3,_=>simpa using h3
  | 4,_=>simpa using h4
  | 5,_=>simpa using h5
  | 6,_=>simpa using h6)
def jhs (ns:List Int) (ts:List (Int × Int)):Bool:=ns.all jc3 && jbx ts
def qaw (b:Bool):Int:=if b then 0 else 1
theorem jqb (n0 n1 n2 n3 n4 n5 n6:Int) (a:Option Addr) (len cap:Nat) (ts:List (Int × Int)) (w:World) (h:tiersAt w a len cap ts) :
 Calls Tryz.prog 54 #[.agg #[iv n0,iv n1,iv n2,iv n3,iv n4,iv n5,iv n6,.slice a len cap]] w fun e w'=>e=.returned (iv (qaw (jhs [n0,n1,n2,n3,n4,n5,n6] ts)))/\Below w.heap.size w w':=by
 have HT:Hid (tiersAt w a len cap ts):=h
 clear h
 by_cases hn:[n0,n1,n2,n3,n4,n5,n6].all jc3=true
 ·have HN:Hid ([n0,n1,n2,n3,n4,n5,n6].all jc3=true):=hn
  clear hn
  by_cases hp:jbx ts=true
  ·have HP:Hid (jbx ts=true):=hp
   have HE:Hid (qaw (jhs [n0,n1,n2,n3,n4,n5,n6] ts)=0):=by unfold Hid jhs;rw [HN.out,hp];rfl
   clear hp
   go_enter Tryz.func54,Tryz.ntmps54
   go_wp2_with (first
    | (go_at_call 90;refine (jgu _ n0 n1 n2 n3 n4 n5 n6 _ (by simp [go_sem]) (by simp [go_sem]) (by simp [go_sem]) (by simp [go_sem]) (by simp [go_sem]) (by simp [go_sem]) (by simp [go_sem])).mono ?_;rintro e w' ⟨rfl,rfl⟩;rw [HN.out])
    | (go_at_call 91;refine (jiu a len cap ts _ (HT.out.below (B:=w.heap.size) bL (Nat.le_refl _))).mono ?_;rintro e w2 ⟨rfl,b2⟩;rw [HP.out]))
   go_ret
   exact ⟨by rw [HE.out];rfl,Below.trans bL (b2.mono (by simp<;>omega))⟩
  ·have HP:Hid (jbx ts=false):=by unfold Hid;simpa using hp
   have HE:Hid (qaw (jhs [n0,n1,n2,n3,n4,n5,n6] ts)=1):=by unfold Hid jhs;rw [HN.out,HP.out];rfl
   clear hp
   go_enter Tryz.func54,Tryz.ntmps54
   go_wp2_with (first
    | (go_at_call 90;refine (jgu _ n0 n1 n2 n3 n4 n5 n6 _ (by simp [go_sem]) (by simp [go_sem]) (by simp [go_sem]) (by simp [go_sem]) (by simp [go_sem]) (by simp [go_sem]) (by simp [go_sem])).mono ?_;rintro e w' ⟨rfl,rfl⟩;rw [HN.out])
    | (go_at_call 91;refine (jiu a len cap ts _ (HT.out.below (B:=w.heap.size) bL (Nat.le_refl _))).mono ?_;rintro e w2 ⟨rfl,b2⟩;rw [HP.out]))
   go_ret
   exact ⟨by rw [HE.out];rfl,Below.trans bL (b2.mono (by simp<;>omega))⟩
 ·have HN:Hid ([n0,n1,n2,n3,n4,n5,n6].all jc3=false):=by unfold Hid;simpa using hn
  have HE:Hid (qaw (jhs [n0,n1,n2,n3,n4,n5,n6] ts)=1):=by unfold Hid jhs;rw [HN.out];rfl
  clear hn
  go_enter Tryz.func54,Tryz.ntmps54
  go_wp2_with (go_at_call 90;refine (jgu _ n0 n1 n2 n3 n4 n5 n6 _ (by simp [go_sem]) (by simp [go_sem]) (by simp [go_sem]) (by simp [go_sem]) (by simp [go_sem]) (by simp [go_sem]) (by simp [go_sem])).mono ?_;rintro e w' ⟨rfl,rfl⟩;rw [HN.out])
  go_ret
  exact ⟨by rw [HE.out];rfl,bL⟩
theorem jri (b off len cap k:Nat) (ts:List (Int × Int)) (w:World) (hlt:k<len) (h4:len<=4)
 (hcell:∀ i,i<len->w.cell? (aq b (off+i * 2))=some (iv (ts.getD i (0,0)).1)/\w.cell? (aq b (off+i * 2+1))=some (iv (ts.getD i (0,0)).2)) :
 Calls Tryz.prog 93 #[.slice (some (aq b off)) len cap,iv k] w fun e w'=>e=.returned (.bool (jeg ts k))/\Below w.heap.size w w':=by
 have hcf:=(hcell k hlt).1
 have hcc:=(hcell k hlt).2
 have hbw:b<w.heap.size:=World.block_lt_of_cell? w _ hcf
 generalize hf:(ts.getD k (0,0)).1=f at hcf
 generalize hc:(ts.getD k (0,0)).2=c at hcc
 have HF:Hid ((ts.getD k (0,0)).1=f):=hf
 have HC:Hid ((ts.getD k (0,0)).2=c):=hc
 clear hf hc
 by_cases b1:1<=c
 ·have d1:decide (c<1)=false:=by simp;omega
  by_cases b2:c<=1073741824
  ·have d2:decide (1073741824<c)=false:=by simp;omega
   by_cases b3:f<=4294967296
   ·have d3:decide (4294967296<f)=false:=by simp;omega
    by_cases hk0:k=0
    ·subst hk0
     have HT:Hid (jeg ts 0=(f==0)):=jk5 HF.out HC.out b1 b2 b3
     simp only [Nat.zero_mul,Nat.add_zero] at hcf hcc
     have hpos:(0:Int)<(len:Int):=by omega
     clear hcell
     go_enter Tryz.func93,Tryz.ntmps93
     go_wp2
     go_ret
     exact ⟨by rw [HT.out];rfl,bL⟩
    ·obtain ⟨m,rfl⟩:∃ m,k=m+1:=⟨k - 1,by omega⟩
     have hcq:=(hcell m (by omega)).1
     generalize hq:(ts.getD m (0,0)).1=q at hcq
     have HT:Hid (jeg ts (m+1)=decide (q<f)):=jnl hk0 HF.out HC.out hq b1 b2 b3
     have hkp:(((m:Int)+1)==0)=false:=by simp;omega
     clear hq hcell
     go_enter Tryz.func93,Tryz.ntmps93
     go_wp2
     go_quiet (fail)
     go_wp2
     go_ret
     exact ⟨by rw [HT.out];rfl,jao ((Below.refl _ _).alloc (Nat.le_refl _) _)⟩
   ·have d3:decide (4294967296<f)=true:=by simp;omega
    have HT:Hid (jeg ts k=false):=jfu HF.out HC.out (.inr (.inr (by omega)))
    clear hcell
    go_enter Tryz.func93,Tryz.ntmps93
    go_wp2
    go_ret
    exact ⟨by rw [HT.out];rfl,bL⟩
  ·have d2:decide (1073741824<c)=true:=by simp;omega
   have HT:Hid (jeg ts k=false):=jfu HF.out HC.out (.inr (.inl (by omega)))
   clear hcell
   go_enter Tryz.func93,Tryz.ntmps93
   go_wp2
   go_ret
   exact ⟨by rw [HT.out];rfl,bL⟩
 ·have d1:decide (c<1)=true:=by simp;omega
  have HT:Hid (jeg ts k=false):=jfu HF.out HC.out (.inl (by omega))
  clear hcell
  go_enter Tryz.func93,Tryz.ntmps93
  go_wp2
  go_ret
  exact ⟨by rw [HT.out];rfl,bL⟩
end Go.Proofs.YtfhncfghblkgeaaGreat
