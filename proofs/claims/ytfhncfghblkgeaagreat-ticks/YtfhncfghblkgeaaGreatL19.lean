import Derived.Test.YtfhncfghblkgeaaGreatL18
set_option maxRecDepth 100000
set_option maxHeartbeats 2000000
namespace Go.Proofs.YtfhncfghblkgeaaGreat
open Go.RowKit
theorem jdk {w w1 w2:World} {r:Option Nat} (h:w.grownBy w1 r) (h':w1.grownBy w2 r):w.grownBy w2 r :=
 ⟨h'.os.trans h.os,h'.tape.trans h.tape,h'.output.trans h.output,Nat.le_trans h.size h'.size,fun k hk hr=>(h'.block k (Nat.lt_of_lt_of_le hk h.size) hr).trans (h.block k hk hr)⟩
theorem jio {w w1:World} {r:Option Nat} {n:Nat} (h:w.grownBy w1 r):w.grownBy (w1.drewN n) r:=⟨h.os,h.tape,h.output,h.size,h.block⟩
theorem jc9 {w w1:World} {g i:Nat} {v:Value} (h:w.grownBy w1 (some g)):w.grownBy (w1.setCell (aq g i) v) (some g) :=
 jdk h ⟨rfl,rfl,rfl,by simp [World.setCell],fun k _ hk=>Below.heap_setCell _ _ _ _ (fun e=>hk (by rw [e]))⟩
theorem je6 {w w1:World} {g b o:Nat} (h:w.grownBy w1 (some g)) (hb:b<w.heap.size) (hn:b≠g):w1.cell? (aq b o)=w.cell? (aq b o) :=
 World.cell?_of_block (a:=(aq b o)) (h.block b hb (by simpa using hn))
theorem jxo (n0 n1 n2 n3 n4 n5 n6 m0 m1 m2 m3 m4 m5 m6:Int) (v:Value) (w:World) :
 Calls Tryz.prog 84 #[.agg #[iv m0,iv m1,iv m2,iv m3,iv m4,iv m5,iv m6,v],.agg #[iv n0,iv n1,iv n2,iv n3,iv n4,iv n5,iv n6,.slice none 0 0]] w fun e w'=>e=.returned (.bool true)/\Below w.heap.size w w':=by
 have hq:∀ w',(binOp .eql 27 (.slice none 0 0) (.slice none 0 0)).run Tryz.prog w'=.ok (.bool true) w':=fun w'=>Lib.run_eql_slice_nil w' 27 137 none 0 0 0 0 Tryz.underlying27
 go_enter Tryz.func84,Tryz.ntmps84
 go_wp2
 go_ret
 exact ⟨rfl,bL⟩
def ji5 (j:Nat):List (Int × Int):=(List.range j).map fun i:Nat=>((i:Int),77)
theorem jzl (j:Nat):(ji5 j).length=j:=by simp [ji5]
theorem jo0 (j:Nat):ji5 (j+1)=ji5 j++[((j:Int),77)]:=by simp [ji5,List.range_succ]
theorem jlv (ts:List (Int × Int)):(jba ts).length=ts.length+8:=by simp [jba]
theorem jno {ts:List (Int × Int)} {j:Nat} (h:j<ts.length):(jba ts).getD j (0,0)=ts.getD j (0,0):=by
 simp [jba,List.getD,List.getElem?_append_left h]
theorem jsy {ts:List (Int × Int)} {j:Nat} (h:ts.length<=j) (h':j<ts.length+8):(jba ts).getD j (0,0)=(77,77):=by
 unfold jba
 rw [List.getD_eq_getElem?_getD,List.getElem?_append_right h,List.getElem?_replicate,if_pos (by omega)];rfl
theorem jye (l:List (Int × Int)) (j:Nat) (h:j<l.length):l.drop j=l.getD j (0,0) :: l.drop (j+1):=by
 rw [List.drop_eq_getElem_cons h]
 simp [List.getD,List.getElem?_eq_getElem h]
theorem jny (n0 n1 n2 n3 n4 n5 n6 m0 m1 m2 m3 m4 m5 m6:Int) (x:Addr) (g len cap:Nat) (ts:List (Int × Int)) (w:World) (h:tiersAt w (some x) len cap ts) (hx:ts≠[]->x.block≠g)
 (hg:w.heap[g]?=some (.cells (jas (jba ts)).toArray 137 (0,0))) :
 Calls Tryz.prog 84 #[.agg #[iv m0,iv m1,iv m2,iv m3,iv m4,iv m5,iv m6,.slice (some (aq g 0)) len (len+8)],.agg #[iv n0,iv n1,iv n2,iv n3,iv n4,iv n5,iv n6,.slice (some x) len cap]] w fun e w'=>e=.returned (.bool true)/\w.grownBy w' (some g):=by
 have hq:∀ w',(binOp .eql 27 (.slice (some x) len cap) (.slice none 0 0)).run Tryz.prog w'=.ok (.bool false) w':=fun w'=>Lib.run_eql_slice_nil w' 27 137 (some x) len cap 0 0 Tryz.underlying27
 have hgw:g<w.heap.size:=(blt hg)
 have hlen:len * 16<=140737488355328:=by have:=h.2.1;have:=h.2.2.1;omega
 have hts:Hid (ts.length=len):=h.1
 have HT:Hid (tiersAt w (some x) len cap ts):=h
 have HG:Hid (w.heap[g]?=some (.cells (jas (jba ts)).toArray 137 (0,0))):=hg
 clear h hg
 go_enter Tryz.func84,Tryz.ntmps84
 go_wp2_with fail
 have hW:Hid (w.grownBy ((w.alloc (.cells #[iv m0,iv m1,iv m2,iv m3,iv m4,iv m5,iv m6,.slice (some (aq g 0)) len (len+8)] 29)).alloc (.cells #[iv n0,iv n1,iv n2,iv n3,iv n4,iv n5,iv n6,.slice (some x) len cap] 29)) (some g)):=jdk (World.grownBy_alloc w _ _) (World.grownBy_alloc _ _ _)
 have HW0:Hid (((w.alloc (.cells #[iv m0,iv m1,iv m2,iv m3,iv m4,iv m5,iv m6,.slice (some (aq g 0)) len (len+8)] 29)).alloc (.cells #[iv n0,iv n1,iv n2,iv n3,iv n4,iv n5,iv n6,.slice (some x) len cap] 29)).heap[g]?=some (.cells (jas (ji5 0)++jas ((jba ts).drop 0)).toArray 137 (0,0))):=by
  unfold Hid
  rw [Below.heap_alloc _ _ _ (by simp;omega),Below.heap_alloc _ _ _ hgw,HG.out];rfl
 have hbox:((w.alloc (.cells #[iv m0,iv m1,iv m2,iv m3,iv m4,iv m5,iv m6,.slice (some (aq g 0)) len (len+8)] 29)).alloc (.cells #[iv n0,iv n1,iv n2,iv n3,iv n4,iv n5,iv n6,.slice (some x) len cap] 29)).cell? (aq (w.heap.size+1) 7)=some (.slice (some x) len cap):=by simp [go_sem]
 have hsz:((w.alloc (.cells #[iv m0,iv m1,iv m2,iv m3,iv m4,iv m5,iv m6,.slice (some (aq g 0)) len (len+8)] 29)).alloc (.cells #[iv n0,iv n1,iv n2,iv n3,iv n4,iv n5,iv n6,.slice (some x) len cap] 29)).heap.size=w.heap.size+2:=by simp
 generalize ((w.alloc (.cells #[iv m0,iv m1,iv m2,iv m3,iv m4,iv m5,iv m6,.slice (some (aq g 0)) len (len+8)] 29)).alloc (.cells #[iv n0,iv n1,iv n2,iv n3,iv n4,iv n5,iv n6,.slice (some x) len cap] 29))=W at *
 have HSZ:Hid (W.heap.size=w.heap.size+2):=hsz
 clear hsz
 go_loopw [7,8] (fun ok i wr=>∃ j:Nat,j<=len+8/\ok=.bool true/\i=iv j/\Hid (wr.heap[g]?=some (.cells (jas (ji5 j)++jas ((jba ts).drop j)).toArray 137 (0,0)))/\W.grownBy wr (some g)) (fun _ i _=>len+8 - (intOf i).toNat)
 case atStart=>exact ⟨0,Nat.zero_le _,rfl,rfl,HW0,World.grownBy.refl _ _⟩
 case round =>
  obtain ⟨j,hj,rfl,rfl,hrow,hgr⟩:=hrel
  by_cases hlt:j<len+8
  ·have hgwr:g<wr.heap.size:=Nat.lt_of_lt_of_le (by rw [HSZ.out];omega) hgr.size
   have hsw:w.heap.size+1<wr.heap.size:=by have:=hgr.size;rw [HSZ.out] at this;exact this
   have hbx:wr.cell? (aq (w.heap.size+1) 7)=some (.slice (some x) len cap):=(je6 hgr (by rw [HSZ.out];omega) (by omega)).trans hbox
   have hA:(jas (ji5 j)).length=j * 2:=by rw [jef,jzl]
   rw [jye (jba ts) j (by rw [jlv,hts.out];omega),jhc] at hrow
   generalize hp:(jba ts).getD j (0,0)=p at hrow
   obtain ⟨p0,p1⟩:=p
   have HP:Hid ((jba ts).getD j (0,0)=(p0,p1)):=hp
   clear hp
   have d0:wr.cell? (aq g (j * 2))=some (iv p0):=jhm hrow.out hA
   have d1:wr.cell? (aq g (j * 2+1))=some (iv p1):=jhm (A:=jas (ji5 j)++[iv p0]) (by rw [hrow.out,List.append_assoc];rfl) (by simp [hA])
   have df:=ja0 hrow.out
   by_cases hin:j<len
   ·obtain ⟨hl,_,_,_,hcs⟩:=HT.out
    have hne:ts≠[]:=fun e=>by rw [e] at hl;simp at hl;omega
    obtain ⟨b,off,hxe,hbw,hcell⟩:=hcs hne
    have hxe':=Option.some.inj hxe
    subst hxe'
    clear hxe
    have hbg:b≠g:=hx hne
    rw [jno (by omega)] at HP
    have t0:wr.cell? (aq b (off+j * 2))=some (iv p0):=by
     rw [je6 hgr (by rw [HSZ.out];omega) hbg,je6 hW.out hbw hbg,(hcell j hin).1,HP.out]
    have t1:wr.cell? (aq b (off+j * 2+1))=some (iv p1):=by
     rw [je6 hgr (by rw [HSZ.out];omega) hbg,je6 hW.out hbw hbg,(hcell j hin).2,HP.out]
    have hbwr:b<wr.heap.size:=by omega
    clear hcell hcs hl
    have HR:Hid (∀ (O:Obj) (nq:Nat) (v0 v1:Value),((((wr.alloc O).drewN nq).setCell (aq g (j * 2)) v0).setCell (aq g (j * 2+1)) v1).heap[g]?=some (.cells (jas (ji5 j)++v0 :: v1 :: jas ((jba ts).drop (j+1))).toArray 137 (0,0))):=fun O nq v0 v1=>jka ((Below.heap_alloc wr O g hgwr).trans hrow.out) hA v0 v1
    clear hrow hA
    go_wp2
    go_quiet (fail)
    go_wp2
    go_roundw
    case rel =>
     refine ⟨j+1,by omega,rfl,by go_num,?_,?_⟩
     ·have e:jas (ji5 (j+1))++jas ((jba ts).drop (j+1))=jas (ji5 j)++iv j :: iv 77 :: jas ((jba ts).drop (j+1)):=by
       rw [jo0,jiv,List.append_assoc];rfl
      unfold Hid
      rw [e]
      exact HR.out _ _ _ _
     ·exact jc9 (jc9 (jio (jdk hgr (World.grownBy_alloc _ _ _))))
    case measure=>simp [intOf];omega
   ·rw [jsy (by rw [hts.out];omega) (by rw [hts.out];omega)] at HP
    have hp:=HP.out
    simp only [Prod.mk.injEq] at hp
    obtain ⟨rfl,rfl⟩:=hp
    have hin':¬ (j:Int)<(len:Int):=by omega
    have HR:Hid (∀ (O:Obj) (nq:Nat) (v0 v1:Value),((((wr.alloc O).drewN nq).setCell (aq g (j * 2)) v0).setCell (aq g (j * 2+1)) v1).heap[g]?=some (.cells (jas (ji5 j)++v0 :: v1 :: jas ((jba ts).drop (j+1))).toArray 137 (0,0))):=fun O nq v0 v1=>jka ((Below.heap_alloc wr O g hgwr).trans hrow.out) hA v0 v1
    clear hrow hA
    go_wp2
    go_quiet (fail)
    go_wp2
    go_roundw
    case rel =>
     refine ⟨j+1,by omega,rfl,by go_num,?_,?_⟩
     ·have e:jas (ji5 (j+1))++jas ((jba ts).drop (j+1))=jas (ji5 j)++iv j :: iv 77 :: jas ((jba ts).drop (j+1)):=by
         rw [jo0,jiv,List.append_assoc];rfl
      unfold Hid
      rw [e]
      exact HR.out _ _ _ _
     ·exact jc9 (jc9 (jio (jdk hgr (World.grownBy_alloc _ _ _))))
    case measure=>simp [intOf];omega
  ·have hje:j=len+8:=by omega
   subst hje
   go_wp2
   go_ret
   exact ⟨rfl,jdk hW.out hgr⟩
def NP (tl:List Int) (p:Nat) (ms:List Nat) (cur:List Int):Prop :=
 jw7 cur/\∃ D,tl.take p=D++cur/\∀ ns:List Nat,(∀ n∈ns,n<34359738368)->tl=jb8 ns->∃ ns2,ns=ms++ns2/\D=jb8 ms
def RNS (tl:List Int) (ms:List Nat):Prop:=∀ ns:List Nat,ns.length<=3->(∀ n∈ns,n<34359738368)->tl=jb8 ns->ms=ns
theorem qb9 (tl:List Int):NP tl 0 [] []:=⟨fun _ h=>by simp at h,[],by simp,fun ns _ _=>⟨ns,rfl,rfl⟩⟩
theorem jrc {tl:List Int} {p:Nat} {x:Int} (hp:p<tl.length) (hx:tl.getD p 0=x):tl.take (p+1)=tl.take p++[x]:=by
 rw [List.take_succ_eq_append_getElem hp]
 simp [List.getD,List.getElem?_eq_getElem hp] at hx
 rw [hx]
theorem jx8 {tl:List Int} {p:Nat} {x:Int} (hp:p<tl.length) (hx:tl.getD p 0=x):tl=tl.take p++x :: tl.drop (p+1):=by
 conv=>lhs;rw [← List.take_append_drop p tl]
 congr 1
 rw [List.drop_eq_getElem_cons hp]
 simp [List.getD,List.getElem?_eq_getElem hp] at hx
 rw [hx]
theorem qey {tl:List Int} {p:Nat} {ms:List Nat} {cur:List Int} {x:Int} (h:NP tl p ms cur) (hp:p<tl.length) (hx:tl.getD p 0=x) (h0:128<=x) (h1:x<256):NP tl (p+1) ms (cur++[x]):=by
 obtain ⟨hg,D,hd,hn⟩:=h
 refine ⟨fun y hy=>?_,D,by rw [jrc hp hx,hd,List.append_assoc],hn⟩
 rcases List.mem_append.1 hy with hy|hy
 ·exact hg y hy
 ·simp at hy;omega
theorem jh2 (m:Nat) (ns:List Nat):jb8 (m :: ns)=jds m++jb8 ns:=rfl
theorem qfh {tl:List Int} {p:Nat} {ms:List Nat} {cur:List Int} {x:Int} (h:NP tl p ms cur) (hp:p<tl.length) (hx:tl.getD p 0=x) (h1:x<128):NP tl (p+1) (ms++[jgi (cur++[x])]) []:=by
 obtain ⟨hg,D,hd,hn⟩:=h
 refine ⟨fun _ h=>by simp at h,D++(cur++[x]),by rw [jrc hp hx,hd];simp,fun ns hb e=>?_⟩
 obtain ⟨ns2,e1,e2⟩:=hn ns hb e
 have hs:=jx8 hp hx
 rw [hd,List.append_assoc] at hs
 have e':D++(cur++x :: tl.drop (p+1))=jb8 ms++jb8 ns2:=by rw [← hs,e,e1];simp [jb8]
 rw [e2] at e'
 have e3:=List.append_cancel_left e'
 match ns2 with
 | []=>simp [jb8] at e3
 | m :: ns3 =>
   rw [jh2] at e3
   obtain ⟨g,y,ec,hgo,_,hy1,_⟩:=jdy m m (Nat.le_refl _)
   rw [ec] at e3
   simp only [List.append_assoc,List.singleton_append] at e3
   obtain ⟨rfl,rfl,_⟩:=jij _ _ _ _ _ _ hg hgo h1 hy1 e3
   have em:m=jgi (cur++[x]):=by rw [← ec,jm8]
   subst em
   exact ⟨ns3,by rw [e1];simp,by rw [e2,joh,ec]⟩
theorem qdi {m:Nat} {cur rest r:List Int} (hg:jw7 cur) (e:cur++rest=jds m++r) (hl:(jds m).length<=cur.length):False:=by
 obtain ⟨g,y,ec,_,_,hy1,_⟩:=jdy m m (Nat.le_refl _)
 rw [ec] at e hl
 simp at hl
 have h1:(cur++rest)[g.length]?=some y:=by rw [e];simp
 rw [List.getElem?_append_left (by omega)] at h1
 have:=hg y (List.mem_of_getElem? h1)
 omega
theorem qe6 {tl:List Int} {p:Nat} {ms:List Nat} {cur:List Int} (h:NP tl p ms cur) (hc:5<=cur.length):RNS tl ms:=by
 obtain ⟨hg,D,hd,hn⟩:=h
 intro ns _ hb e
 obtain ⟨ns2,e1,e2⟩:=hn ns hb e
 exfalso
 have hs:tl=D++(cur++tl.drop p):=by rw [← List.append_assoc,← hd,List.take_append_drop]
 have e':D++(cur++tl.drop p)=jb8 ms++jb8 ns2:=by rw [← hs,e,e1];simp [jb8]
 rw [e2] at e'
 have e3:=List.append_cancel_left e'
 match ns2,e1 with
 | [],_ =>
   have:=congrArg List.length e3
   rw [List.length_append] at this
   simp only [jb8,List.flatMap_nil,List.length_nil] at this
   omega
 | m :: ns3,e1 =>
   rw [jh2] at e3
   exact qdi hg e3 (Nat.le_trans (jmf (hb m (by rw [e1];simp))) hc)
theorem qfr {tl:List Int} {ms:List Nat} {cur:List Int} (h:NP tl tl.length ms cur):RNS tl ms:=by
 obtain ⟨hg,D,hd,hn⟩:=h
 intro ns _ hb e
 obtain ⟨ns2,e1,e2⟩:=hn ns hb e
 rw [List.take_of_length_le (Nat.le_refl _)] at hd
 have e':D++cur=jb8 ms++jb8 ns2:=by rw [← hd,e,e1];simp [jb8]
 rw [e2] at e'
 have e3:=List.append_cancel_left e'
 match ns2,e1,e3 with
 | [],e1,_=>rw [e1];simp
 | m :: ns3,_,e3 =>
   exfalso
   rw [jh2] at e3
   exact qdi (rest:=[]) hg (by rw [List.append_nil];exact e3) (by rw [e3];simp)
theorem jrs:∀ (ns:List Nat),(∀ n∈ns,n<34359738368)->(jb8 ns).length<=5 * ns.length
 | [],_=>by simp [jb8]
 | n :: ns,h=>by
   have h1:=jmf (h n (by simp))
   have h2:=jrs ns (fun m hm=>h m (by simp [hm]))
   rw [jh2]
   simp;omega
theorem qft {tl:List Int} {ms:List Nat} (hp:19<=tl.length):RNS tl ms:=by
 intro ns hl hb e
 have:=jrs ns hb
 rw [← e] at this
 omega
end Go.Proofs.YtfhncfghblkgeaaGreat
