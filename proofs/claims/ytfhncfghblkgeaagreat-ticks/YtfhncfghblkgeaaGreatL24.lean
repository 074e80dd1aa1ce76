import Derived.Test.YtfhncfghblkgeaaGreatL23
set_option maxRecDepth 100000
set_option maxHeartbeats 2000000
namespace Go.Proofs.YtfhncfghblkgeaaGreat
open Go.RowKit
theorem jv5 (a:Option Addr) (cap:Nat) (w:World) :
 Calls Tryz.prog 62 #[.slice a 0 cap] w fun e w'=>∃ k t c u o err,e=.returned (.tuple #[.agg #[iv k,iv t,iv c,iv u,iv o],iv err])/\UN [] k t c u o err/\Below w.heap.size w w':=by
 go_enter Tryz.func62,Tryz.ntmps62
 go_wp2
 refine bodyPost_ret (v:=.tuple #[.agg #[iv 0,iv 0,iv 0,iv 0,iv 0],iv 2]) (by simp [results,Tryz.results62,go_sem]) rfl ⟨0,0,0,0,0,2,rfl,qde,?_⟩
 exact (Below.refl _ _).alloc (Nat.le_refl _) _
theorem jqd (b off len cap:Nat) (x:Int) (tl:List Int) (w:World) (h1:¬ x=1) (h2:¬ x=2) (h3:¬ x=3) (h4:¬ x=4) (h:ja6 w (some (aq b off)) len cap (x :: tl)) :
 Calls Tryz.prog 62 #[.slice (some (aq b off)) len cap] w fun e w'=>∃ k t c u o err,e=.returned (.tuple #[.agg #[iv k,iv t,iv c,iv u,iv o],iv err])/\UN (x :: tl) k t c u o err/\Below w.heap.size w w':=by
 have HU:Hid (UN (x :: tl) 0 0 0 0 0 2):=qe0 (by simp [cnt,h1,h2,h3,h4])
 have hxb:=h.2.2.2.1 x (by simp)
 obtain ⟨hl,hlc,hcap,hc0,HT⟩:=je4 h
 obtain ⟨hx0,hx1⟩:=hxb
 have hbw:b<w.heap.size:=World.block_lt_of_cell? w _ hc0
 have hne:((len:Int)==0)=false:=by simp;omega
 have hpos:(0:Int)<(len:Int):=by omega
 clear HT h
 go_enter Tryz.func62,Tryz.ntmps62
 go_wp2_with (go_at_call 96;refine (jru x 0 0 0 0 _ h1 h2 h3 h4).mono ?_;rintro e w1 ⟨rfl,rfl⟩)
 refine bodyPost_ret (v:=.tuple #[.agg #[iv 0,iv 0,iv 0,iv 0,iv 0],iv 2]) (by simp [results,Tryz.results62,go_sem]) rfl ⟨0,0,0,0,0,2,rfl,HU.out,?_⟩
 exact bL
theorem jwg (a:Option Addr) (len cap:Nat) (l:List Int) (w:World) (h:ja6 w a len cap l) :
 Calls Tryz.prog 62 #[.slice a len cap] w fun e w'=>∃ k t c u o err,e=.returned (.tuple #[.agg #[iv k,iv t,iv c,iv u,iv o],iv err])/\UN l k t c u o err/\Below w.heap.size w w':=by
 match l,h with
 | [],h =>
   have h1:=h.1
   simp at h1
   subst h1
   exact jv5 a cap w
 | x :: tl,h =>
   obtain ⟨b,off,rfl,_⟩:=h.2.2.2.2 (by simp)
   by_cases h1:x=1
   ·subst h1;exact qcs b off len cap tl w h
   by_cases h2:x=2
   ·subst h2;exact qbb b off len cap tl w h
   by_cases h3:x=3
   ·subst h3;exact qbd b off len cap tl w h
   by_cases h4:x=4
   ·subst h4;exact qbi b off len cap tl w h
   ·exact jqd b off len cap x tl w h1 h2 h3 h4 h
theorem je0 {w:World} {a:Option Addr} {len cap:Nat} {l:List Int} (h:ja6 w a len cap l):(convert 92 9 (.slice a len cap)).run Tryz.prog w=.ok (.string (strOfNums l)) w:=by
 obtain ⟨hl,_,_,_,hc⟩:=h
 by_cases h0:l=[]
 ·subst h0
  simp at hl
  subst hl
  cases a with
  | none=>exact run_convert_bytes_nil w 92 5 Tryz.underlying92 Tryz.underlying5 0 cap 9 Tryz.underlying9
  | some x =>
    rw [run_convert_bytes_string w 92 9 5 _ 0 cap Tryz.underlying92 Tryz.underlying5 Tryz.underlying9,run_bytesToString w x 0 cap [] (by simpa using run_loadCells_list (P:=Tryz.prog) w x [] (by simp))]
    rfl
 ·obtain ⟨b,off,rfl,_,hcell⟩:=hc h0
  exact run_convert_bytes_arg w 92 5 Tryz.underlying92 Tryz.underlying5 b off len cap l hl hcell 9 Tryz.underlying9
theorem joz:∀ (a b:List Int),(∀ x∈a,0<=x/\x<256)->(∀ x∈b,0<=x/\x<256)->(a.map fun n=>UInt8.ofNat n.toNat)=(b.map fun n=>UInt8.ofNat n.toNat)->a=b
 | [],[],_,_,_=>rfl
 | [],_ :: _,_,_,h=>by simp at h
 | _ :: _,[],_,_,h=>by simp at h
 | x :: a,y :: b,ha,hb,h=>by
   simp only [List.map_cons,List.cons.injEq] at h
   have hx:=ha x (by simp)
   have hy:=hb y (by simp)
   have e:x=y:=by
    have:=congrArg UInt8.toNat h.1
    simp at this
    omega
   rw [e,joz a b (fun z hz=>ha z (by simp [hz])) (fun z hz=>hb z (by simp [hz])) h.2]
theorem qfi {a b:List Int} (ha:∀ x∈a,0<=x/\x<256) (hb:∀ x∈b,0<=x/\x<256):((strOfNums a).toList==(strOfNums b).toList)=decide (a=b):=by
 rw [ByteArray.toList_eq,ByteArray.toList_eq,strOfNums_data,strOfNums_data]
 by_cases h:a=b
 ·subst h;simp
 ·have:¬ (a.map fun n=>UInt8.ofNat n.toNat)=(b.map fun n=>UInt8.ofNat n.toNat):=fun e=>h (joz a b ha hb e)
  simp [h,this]
theorem jcn (a b:Option Addr) (la ca lb cb:Nat) (x y:List Int) (w:World) (ha:ja6 w a la ca x) (hb:ja6 w b lb cb y) :
 Calls Tryz.prog 110 #[.slice a la ca,.slice b lb cb] w fun e w'=>e=.returned (.bool (decide (x=y)))/\w=w':=by
 have e1:=je0 ha
 have e2:=je0 hb
 have HE:Hid (((strOfNums x).toList==(strOfNums y).toList)=decide (x=y)):=qfi ha.2.2.2.1 hb.2.2.2.1
 clear ha hb
 go_enter Tryz.func110,Tryz.ntmps110
 go_wp2
 go_ret
 exact ⟨by rw [← HE.out];rfl,rfl⟩
def jhr (x:Int) (ms:List Nat):Int × Int × Int × Int × Int :=
 if x=4/\ms.length=2 then (4,0,(ms.getD 0 0:Int),0,(ms.getD 1 0:Int))
 else if x=1/\ms.length=3 then (1,(ms.getD 0 0:Int),(ms.getD 1 0:Int),(ms.getD 2 0:Int),0)
 else if ms.length=3 then (x,(ms.getD 0 0:Int),(ms.getD 1 0:Int),0,(ms.getD 2 0:Int))
 else (x,0,0,0,0)
theorem jhy {x:Int} {tl:List Int} {ms:List Nat} (hr:RNS tl ms) {k t c u o:Int} (h:isB k t c u o=true) (e:x :: tl=ja8 k (jaj k t c u o)):jhr x ms=(k,t,c,u,o):=by
 have h0:=h
 obtain ⟨ha,hl,hp⟩:=jit h
 rw [jcd] at e
 simp only [List.cons.injEq] at e
 obtain ⟨rfl,e⟩:=e
 have hms:=hr _ (by rw [List.length_map,hl];unfold cnt;split<;>(try split)<;>(try split)<;>omega) (qdc (by rw [jer _ ha];exact ha)) e
 subst hms
 have hb:=jer _ ha
 unfold isB at h0
 unfold jaj at hb ⊢
 unfold jhr
 split at h0
 ·next h1 =>
  subst h1
  simp at hb h0 ⊢
  omega
 ·next h1 =>
  split at h0
  ·next h2 =>
   rw [if_neg h1,if_pos h2] at hb ⊢
   simp at hb h0 ⊢
   simp [h1]
   omega
  ·next h2 =>
   split at h0
   ·next h4 =>
    subst h4
    simp at hb h0 ⊢
    omega
   ·simp at h0
end Go.Proofs.YtfhncfghblkgeaaGreat
