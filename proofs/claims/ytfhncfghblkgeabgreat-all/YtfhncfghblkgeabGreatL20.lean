import Derived.Test.YtfhncfghblkgeabGreatL19
set_option maxRecDepth 100000
set_option maxHeartbeats 2000000
namespace Go.Proofs.YtfhncfghblkgeabGreat
open Go.RowKit
theorem Yi (b off len cap:Nat) (tl:List Int) (w:World) (hc1:¬ cap=1) (h:qJ w (some (aq b off)) len cap (4 :: tl)) :
 Ca 42 #[.slice (some (aq b off)) len cap] w fun e w'=>∃ k t c u o err,e=.returned (.tuple #[.agg #[iv k,iv t,iv c,iv u,iv o],iv err])/\UN (4 :: tl) k t c u o err/\Below w.heap.size w w':=by
 obtain ⟨hl,hlc,hcap,hc0,HT⟩:=vW h
 have hbw:b<w.heap.size:=uC w _ hc0
 have hne:((len:Int)==0)=false:=by simp;omega
 have hpos:(0:Int)<(len:Int):=uO
 have hpos1:(1:Int)<=(len:Int):=uO
 rw [uP hc1] at HT
 have HT':Hid (qJ w (some (aq b (off+1))) (len - 1) (cap - 1) tl):=HT
 clear HT h
 go_enter Tryz.func42,Tryz.ntmps42
 go_wp2_with (go_at_call 63;refine (vQ 0 0 0 0 _).mono ?_;rintro e w1 ⟨rfl,rfl⟩)
 refine (rV _ _ _ tl _ (qM HT'.out bL)).mono ?_
 rintro e w2 ⟨v,ok,rfl,hans,b2⟩
 have bw:Below w.heap.size w w2:=uL bL (b2.mono uS)
 have s2:w.heap.size+2<w2.heap.size:=by have:=b2.size;simp at this;omega
 have q0:∀ i,i<5->w2.frozen? (aq w.heap.size i)=false:=fun i hi=>(b2.frozen (p:=(aq w.heap.size i)) uS).trans uU
 have q1:∀ i,i<5->w2.cell? (aq w.heap.size i)=some (iv 0):=fun i hi=>(b2.cell (p:=(aq w.heap.size i)) uS).trans (by match i,hi with
  | 0,_=>simp [go_sem]
  | 1,_=>simp [go_sem]
  | 2,_=>simp [go_sem]
  | 3,_=>simp [go_sem]
  | 4,_=>simp [go_sem])
 cases ok with
 | false =>
   have HU:Hid (UN (4 :: tl) 0 0 0 0 0 2):=Qg rfl (hans.2 rfl)
   clear hans b2
   go_wp2
   refine uK (v:=.tuple #[.agg #[iv 0,iv 0,iv 0,iv 0,iv 0],iv 2]) (by simp [results,Tryz.results42,go_sem,q1]) rfl ⟨0,0,0,0,0,2,rfl,HU.out,?_⟩
   exact qO bw (uA _)
 | true =>
   obtain ⟨x,y,g,cap2,htl,rfl,hg0,hg1,c0,c1⟩:=Ph hans
   by_cases hall:[(x:Int),(y:Int)].all yU=true
   ·have HU:Hid (UN (4 :: tl) 4 0 x 0 y 0):=Ie htl hall
    have HA:Hid ([(x:Int),(y:Int)].all yU=true):=hall
    clear hans b2 htl hall
    go_wp2_with (first
     | (go_at_call 57;refine (gP g cap2 x y _ c0 c1).mono ?_;rintro e w3 ⟨rfl,rfl⟩;rw [HA.out])
     | (go_at_call 65;refine (gK g 0 cap2 x y _ c0 c1).mono ?_;rintro e w4 ⟨rfl,b4⟩;have r0:∀ i,i<5->w4.frozen? (aq w.heap.size i)=false:=(fun i hi=>(b4.frozen (p:=(aq w.heap.size i)) (show w.heap.size<w2.heap.size by omega)).trans (q0 i hi));have r1:∀ i,i<5->w4.cell? (aq w.heap.size i)=some (iv 0):=(fun i hi=>(b4.cell (p:=(aq w.heap.size i)) (show w.heap.size<w2.heap.size by omega)).trans (q1 i hi))))
    have bw4:Below w.heap.size w w4:=bw.trans (b4.mono uO)
    refine uK (v:=.tuple #[.agg #[iv 4,iv 0,iv x,iv 0,iv y],iv 0]) (by simp [results,Tryz.results42,go_sem,r1]) rfl ⟨4,0,x,0,y,0,rfl,HU.out,?_⟩
    exact qO bw4 (uA _)
   ·have HU:Hid (UN (4 :: tl) 0 0 0 0 0 2):=Dc (ms:=[x,y]) rfl htl (by simpa using hall)
    have HA:Hid ([(x:Int),(y:Int)].all yU=false):=by unfold Hid;simpa using hall
    clear hans b2 htl hall
    go_wp2_with (go_at_call 57;refine (gP g cap2 x y _ c0 c1).mono ?_;rintro e w3 ⟨rfl,rfl⟩;rw [HA.out])
    refine uK (v:=.tuple #[.agg #[iv 0,iv 0,iv 0,iv 0,iv 0],iv 2]) (by simp [results,Tryz.results42,go_sem,q1]) rfl ⟨0,0,0,0,0,2,rfl,HU.out,?_⟩
    exact qO bw (uA _)
theorem pD (b off:Nat) (w:World) (h:qJ w (some (aq b off)) 1 1 [4]) :
 Ca 42 #[.slice (some (aq b off)) 1 1] w fun e w'=>∃ k t c u o err,e=.returned (.tuple #[.agg #[iv k,iv t,iv c,iv u,iv o],iv err])/\UN (4 :: []) k t c u o err/\Below w.heap.size w w':=by
 obtain ⟨_,_,_,hc0,HT⟩:=vW h
 have hbw:b<w.heap.size:=uC w _ hc0
 have HT':Hid (qJ w (some (aq b off)) 0 0 []):=HT
 clear HT h
 go_enter Tryz.func42,Tryz.ntmps42
 go_wp2_with (go_at_call 63;refine (vQ 0 0 0 0 _).mono ?_;rintro e w1 ⟨rfl,rfl⟩)
 refine (rV _ _ _ [] _ (qM HT'.out bL)).mono ?_
 rintro e w2 ⟨v,ok,rfl,hans,b2⟩
 have bw:Below w.heap.size w w2:=uL bL (b2.mono uS)
 have s2:w.heap.size+2<w2.heap.size:=by have:=b2.size;simp at this;omega
 have q0:∀ i,i<5->w2.frozen? (aq w.heap.size i)=false:=fun i hi=>(b2.frozen (p:=(aq w.heap.size i)) uS).trans uU
 have q1:∀ i,i<5->w2.cell? (aq w.heap.size i)=some (iv 0):=fun i hi=>(b2.cell (p:=(aq w.heap.size i)) uS).trans (by match i,hi with
  | 0,_=>simp [go_sem]
  | 1,_=>simp [go_sem]
  | 2,_=>simp [go_sem]
  | 3,_=>simp [go_sem]
  | 4,_=>simp [go_sem])
 cases ok with
 | false =>
   have HU:Hid (UN (4 :: []) 0 0 0 0 0 2):=Qg rfl (hans.2 rfl)
   clear hans b2
   go_wp2
   refine uK (v:=.tuple #[.agg #[iv 0,iv 0,iv 0,iv 0,iv 0],iv 2]) (by simp [results,Tryz.results42,go_sem,q1]) rfl ⟨0,0,0,0,0,2,rfl,HU.out,?_⟩
   exact qO bw (uA _)
 | true =>
   obtain ⟨x,y,g,cap2,htl,_⟩:=Ph hans
   have:=dZ x
   have:=congrArg List.length htl
   simp [yZ] at this
   omega
theorem Iy (b off len cap:Nat) (tl:List Int) (w:World) (h:qJ w (some (aq b off)) len cap (4 :: tl)) :
 Ca 42 #[.slice (some (aq b off)) len cap] w fun e w'=>∃ k t c u o err,e=.returned (.tuple #[.agg #[iv k,iv t,iv c,iv u,iv o],iv err])/\UN (4 :: tl) k t c u o err/\Below w.heap.size w w':=by
 by_cases hc1:cap=1
 ·subst hc1
  have h1:=h.1
  have h2:=h.2.1
  simp at h1
  have hl:len=1:=uO
  subst hl
  have ht:tl=[]:=List.eq_nil_of_length_eq_zero uO
  subst ht
  exact pD b off w h
 ·exact Yi b off len cap tl w hc1 h
theorem Hm (a:Option Addr) (cap:Nat) (w:World) :
 Ca 42 #[.slice a 0 cap] w fun e w'=>∃ k t c u o err,e=.returned (.tuple #[.agg #[iv k,iv t,iv c,iv u,iv o],iv err])/\UN [] k t c u o err/\Below w.heap.size w w':=by
 go_enter Tryz.func42,Tryz.ntmps42
 go_wp2
 refine uK (v:=.tuple #[.agg #[iv 0,iv 0,iv 0,iv 0,iv 0],iv 2]) (by simp [results,Tryz.results42,go_sem]) rfl ⟨0,0,0,0,0,2,rfl,Pp,?_⟩
 exact (uM _ _).alloc (uA _) _
theorem Xf (b off len cap:Nat) (x:Int) (tl:List Int) (w:World) (h1:¬ x=1) (h2:¬ x=2) (h3:¬ x=3) (h4:¬ x=4) (h:qJ w (some (aq b off)) len cap (x :: tl)) :
 Ca 42 #[.slice (some (aq b off)) len cap] w fun e w'=>∃ k t c u o err,e=.returned (.tuple #[.agg #[iv k,iv t,iv c,iv u,iv o],iv err])/\UN (x :: tl) k t c u o err/\Below w.heap.size w w':=by
 have HU:Hid (UN (x :: tl) 0 0 0 0 0 2):=Pw (by simp [ZT,h1,h2,h3,h4])
 have hxb:=h.2.2.2.1 x vS
 obtain ⟨hl,hlc,hcap,hc0,HT⟩:=vW h
 obtain ⟨hx0,hx1⟩:=hxb
 have hbw:b<w.heap.size:=uC w _ hc0
 have hne:((len:Int)==0)=false:=by simp;omega
 have hpos:(0:Int)<(len:Int):=uO
 clear HT h
 go_enter Tryz.func42,Tryz.ntmps42
 go_wp2_with (go_at_call 63;refine (cG x 0 0 0 0 _ h1 h2 h3 h4).mono ?_;rintro e w1 ⟨rfl,rfl⟩)
 refine uK (v:=.tuple #[.agg #[iv 0,iv 0,iv 0,iv 0,iv 0],iv 2]) (by simp [results,Tryz.results42,go_sem]) rfl ⟨0,0,0,0,0,2,rfl,HU.out,?_⟩
 exact bL
theorem sC (a:Option Addr) (len cap:Nat) (l:List Int) (w:World) (h:qJ w a len cap l) :
 Ca 42 #[.slice a len cap] w fun e w'=>∃ k t c u o err,e=.returned (.tuple #[.agg #[iv k,iv t,iv c,iv u,iv o],iv err])/\UN l k t c u o err/\Below w.heap.size w w':=by
 match l,h with
 | [],h =>
   have h1:=h.1
   simp at h1
   subst h1
   exact Hm a cap w
 | x :: tl,h =>
   obtain ⟨b,off,rfl,_⟩:=h.2.2.2.2 vS
   by_cases h1:x=1
   ·subst h1;exact Ei b off len cap tl w h
   by_cases h2:x=2
   ·subst h2;exact Pe b off len cap tl w h
   by_cases h3:x=3
   ·subst h3;exact Cy b off len cap tl w h
   by_cases h4:x=4
   ·subst h4;exact Iy b off len cap tl w h
   ·exact Xf b off len cap x tl w h1 h2 h3 h4 h
theorem xP {w:World} {a:Option Addr} {len cap:Nat} {l:List Int} (h:qJ w a len cap l):(convert 70 9 (.slice a len cap)).run Tryz.prog w=.ok (.string (strOfNums l)) w:=by
 obtain ⟨hl,_,_,_,hc⟩:=h
 by_cases h0:l=[]
 ·subst h0
  simp at hl
  subst hl
  cases a with
  | none=>exact run_convert_bytes_nil w 70 5 Tryz.underlying70 Tryz.underlying5 0 cap 9 Tryz.underlying9
  | some x =>
    rw [run_convert_bytes_string w 70 9 5 _ 0 cap Tryz.underlying70 Tryz.underlying5 Tryz.underlying9,run_bytesToString w x 0 cap [] (by simpa using run_loadCells_list (P:=Tryz.prog) w x [] vS)]
    rfl
 ·obtain ⟨b,off,rfl,_,hcell⟩:=hc h0
  exact run_convert_bytes_arg w 70 5 Tryz.underlying70 Tryz.underlying5 b off len cap l hl hcell 9 Tryz.underlying9
theorem Yk:∀ (a b:List Int),(∀ x∈a,0<=x/\x<256)->(∀ x∈b,0<=x/\x<256)->(a.map fun n=>UInt8.ofNat n.toNat)=(b.map fun n=>UInt8.ofNat n.toNat)->a=b
 | [],[],_,_,_=>rfl
 | [],_ :: _,_,_,h=>by simp at h
 | _ :: _,[],_,_,h=>by simp at h
 | x :: a,y :: b,ha,hb,h=>by
   simp only [List.map_cons,List.cons.injEq] at h
   have hx:=ha x vS
   have hy:=hb y vS
   have e:x=y:=by
    have:=congrArg UInt8.toNat h.1
    simp at this
    omega
   rw [e,Yk a b (fun z hz=>ha z (by simp [hz])) (fun z hz=>hb z (by simp [hz])) h.2]
theorem YF {a b:List Int} (ha:∀ x∈a,0<=x/\x<256) (hb:∀ x∈b,0<=x/\x<256):((strOfNums a).toList==(strOfNums b).toList)=decide (a=b):=by
 rw [ByteArray.toList_eq,ByteArray.toList_eq,strOfNums_data,strOfNums_data]
 by_cases h:a=b
 ·subst h;simp
 ·have:¬ (a.map fun n=>UInt8.ofNat n.toNat)=(b.map fun n=>UInt8.ofNat n.toNat):=fun e=>h (Yk a b ha hb e)
  simp [h,this]
theorem xA (a b:Option Addr) (la ca lb cb:Nat) (x y:List Int) (w:World) (ha:qJ w a la ca x) (hb:qJ w b lb cb y) :
 Ca 110 #[.slice a la ca,.slice b lb cb] w fun e w'=>e=.returned (.bool (decide (x=y)))/\w=w':=by
 have e1:=xP ha
 have e2:=xP hb
 have HE:Hid (((strOfNums x).toList==(strOfNums y).toList)=decide (x=y)):=YF ha.2.2.2.1 hb.2.2.2.1
 clear ha hb
 go_enter Tryz.func110,Tryz.ntmps110
 go_wp2
 go_ret
 exact ⟨by rw [← HE.out];rfl,rfl⟩
def mQ (x:Int) (ms:List Nat):Int × Int × Int × Int × Int :=
 if x=4/\ms.length=2 then (4,0,(ms.getD 0 0:Int),0,(ms.getD 1 0:Int))
 else if x=1/\ms.length=3 then (1,(ms.getD 0 0:Int),(ms.getD 1 0:Int),(ms.getD 2 0:Int),0)
 else if ms.length=3 then (x,(ms.getD 0 0:Int),(ms.getD 1 0:Int),0,(ms.getD 2 0:Int))
 else (x,0,0,0,0)
theorem nS {x:Int} {tl:List Int} {ms:List Nat} (hr:QG tl ms) {k t c u o:Int} (h:QH k t c u o=true) (e:x :: tl=qE k (qT k t c u o)):mQ x ms=(k,t,c,u,o):=by
 have h0:=h
 obtain ⟨ha,hl,hp⟩:=tD h
 rw [jQ] at e
 simp only [List.cons.injEq] at e
 obtain ⟨rfl,e⟩:=e
 have hms:=hr _ (by rw [List.length_map,hl];unfold ZT;split<;>(try split)<;>(try split)<;>omega) (Pl (by rw [oU _ ha];exact ha)) e
 subst hms
 have hb:=oU _ ha
 unfold QH at h0
 unfold qT at hb ⊢
 unfold mQ
 split at h0
 ·next h1 =>
  subst h1
  simp at hb h0 ⊢
  omega
 ·next h1 =>
  split at h0
  ·next h2 =>
   rw [uP h1,uQ h2] at hb ⊢
   simp at hb h0 ⊢
   simp [h1]
   omega
  ·next h2 =>
   split at h0
   ·next h4 =>
    subst h4
    simp at hb h0 ⊢
    omega
   ·simp at h0
