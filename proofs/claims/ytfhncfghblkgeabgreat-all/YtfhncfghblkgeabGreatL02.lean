import Derived.Test.YtfhncfghblkgeabGreatL01
set_option maxRecDepth 100000
set_option maxHeartbeats 2000000
namespace Go.Proofs.YtfhncfghblkgeabGreat
open Go.RowKit
def yU (n:Int):Bool:=decide (1<=n) && decide (n<=4294967296)
theorem Aw {k:IntKind} {a b:Int} (h:a=b):Ending.returned (.int k a)=.returned (.int k b):=by rw [h]
theorem kY {n:Nat} (hn:n<9223372036854775808):(jJ n).length<=9:=nL 8 n (uB hn vO)
def qT (k t c u o:Int):List Int:=if k=1 then [t,c,u] else if k=2\/k=3 then [t,c,o] else if k=4 then [c,o] else []
def QH (k t c u o:Int):Bool :=
 if k=1 then yU t && yU c && yU u && o==0
 else if k=2\/k=3 then yU t && yU c && yU o && u==0
 else if k=4 then yU c && yU o && t==0 && u==0
 else false
theorem dF (t c u o:Int) (w:World) :
 Ca 63 #[.agg #[iv 1,iv t,iv c,iv u,iv o]] w fun e w'=>e=.returned (.slice (some (aq (w.heap.size+1) 0)) 3 3) ∧
  w'=(w.alloc (.cells #[iv 1,iv t,iv c,iv u,iv o] 39)).alloc (.cells #[iv t,iv c,iv u] 3):=by
 go_enter Tryz.func63,Tryz.ntmps63
 go_wp2
 go_ret
 exact ⟨rfl,rfl⟩
theorem dB (t c u o:Int) (w:World) :
 Ca 63 #[.agg #[iv 2,iv t,iv c,iv u,iv o]] w fun e w'=>e=.returned (.slice (some (aq (w.heap.size+1) 0)) 3 3) ∧
  w'=(w.alloc (.cells #[iv 2,iv t,iv c,iv u,iv o] 39)).alloc (.cells #[iv t,iv c,iv o] 3):=by
 go_enter Tryz.func63,Tryz.ntmps63
 go_wp2
 go_ret
 exact ⟨rfl,rfl⟩
theorem oZ (t c u o:Int) (w:World) :
 Ca 63 #[.agg #[iv 3,iv t,iv c,iv u,iv o]] w fun e w'=>e=.returned (.slice (some (aq (w.heap.size+1) 0)) 3 3) ∧
  w'=(w.alloc (.cells #[iv 3,iv t,iv c,iv u,iv o] 39)).alloc (.cells #[iv t,iv c,iv o] 3):=by
 go_enter Tryz.func63,Tryz.ntmps63
 go_wp2
 go_ret
 exact ⟨rfl,rfl⟩
theorem vQ (t c u o:Int) (w:World) :
 Ca 63 #[.agg #[iv 4,iv t,iv c,iv u,iv o]] w fun e w'=>e=.returned (.slice (some (aq (w.heap.size+1) 0)) 2 2) ∧
  w'=(w.alloc (.cells #[iv 4,iv t,iv c,iv u,iv o] 39)).alloc (.cells #[iv c,iv o] 3):=by
 go_enter Tryz.func63,Tryz.ntmps63
 go_wp2
 go_ret
 exact ⟨rfl,rfl⟩
theorem cG (k t c u o:Int) (w:World) (h1:¬ k=1) (h2:¬ k=2) (h3:¬ k=3) (h4:¬ k=4) :
 Ca 63 #[.agg #[iv k,iv t,iv c,iv u,iv o]] w fun e w'=>e=.returned (.slice none 0 0) ∧
  w'=w.alloc (.cells #[iv k,iv t,iv c,iv u,iv o] 39):=by
 have e1:(k==1)=false:=by simpa using h1
 have e2:(k==2)=false:=by simpa using h2
 have e3:(k==3)=false:=by simpa using h3
 have e4:(k==4)=false:=by simpa using h4
 go_enter Tryz.func63,Tryz.ntmps63
 go_wp2
 go_ret
 exact ⟨rfl,rfl⟩
theorem Oa (ns:List Int) (k:Nat) (h:k<ns.length) {x:Int} (hx:ns.getD k 0=x):(ns.take (k+1)).all yU=((ns.take k).all yU && yU x):=by
 rw [List.take_succ_eq_append_getElem h,List.all_append]
 simp [List.getD,uD h] at hx
 simp [hx]
theorem Vr (ns:List Int) (k:Nat) (h:k<ns.length) {x:Int} (hx:ns.getD k 0=x) (hn:yU x=false):ns.all yU=false:=by
 rw [List.all_eq_false]
 simp [List.getD,uD h] at hx
 exact ⟨ns[k],List.getElem_mem h,by rw [hx,hn];simp⟩
theorem fH (b off cap:Nat) (ns:List Int) (w:World) (hl:ns.length<=100) (hcell:∀ i,i<ns.length->w.cell? (aq b (off+i))=some (iv (ns.getD i 0))) :
 Ca 57 #[.slice (some (aq b off)) ns.length cap] w fun e w'=>e=.returned (.bool (ns.all yU))/\w=w':=by
 go_enter Tryz.func57,Tryz.ntmps57
 go_wp2
 go_loop [3] (fun i=>∃ k:Nat,k<=ns.length/\i=iv k/\Hid ((ns.take k).all yU=true)) (fun i=>ns.length - (intOf i).toNat)
 case atStart=>exact ⟨0,Nat.zero_le _,rfl,by simp [Hid]⟩
 case round =>
  obtain ⟨k,hk,rfl,hall⟩:=hrel
  by_cases hlt:k<ns.length
  ·have hc:=hcell k hlt
   have hx:∃ x,ns.getD k 0=x:=⟨_,rfl⟩
   obtain ⟨x,hx⟩:=hx
   rw [hx] at hc
   have HX:Hid (ns.getD k 0=x):=hx
   clear hx
   clear hcell
   by_cases h1:1<=x
   ·by_cases h2:x<=4294967296
    ·go_wp2
     go_round
     case rel=>exact ⟨k+1,uO,vN,by unfold Hid;rw [Oa ns k hlt HX.out,hall.out];simp [yU,h1,h2]⟩
     case measure=>simp [intOf];omega
    ·have HN:Hid (ns.all yU=false):=Vr ns k hlt HX.out (by simp [yU];omega)
     go_wp2
     go_ret
     exact ⟨by rw [HN.out];rfl,rfl⟩
   ·have HN:Hid (ns.all yU=false):=Vr ns k hlt HX.out (by simp [yU];omega)
    go_wp2
    go_ret
    exact ⟨by rw [HN.out];rfl,rfl⟩
  ·have HN:Hid (ns.all yU=true):=by have:=hall.out;rwa [List.take_of_length_le uO] at this
   go_wp2
   go_ret
   exact ⟨by rw [HN.out];rfl,rfl⟩
