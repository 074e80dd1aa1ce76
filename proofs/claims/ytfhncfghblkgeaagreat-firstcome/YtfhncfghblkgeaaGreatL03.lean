import Derived.Test.YtfhncfghblkgeaaGreatL01
import Derived.Test.YtfhncfghblkgeaaGreatL02
set_option maxRecDepth 100000
set_option maxHeartbeats 2000000
namespace Go.Proofs.YtfhncfghblkgeaaGreat
open Go.RowKit
def jbn (n:Int):Bool:=decide (1<=n) && decide (n<=4294967296)
theorem qet {k:IntKind} {a b:Int} (h:a=b):Ending.returned (.int k a)=.returned (.int k b):=by rw [h]
theorem jdc {n:Nat} (hn:n<9223372036854775808):(jcy n).length<=9:=ji1 8 n (Nat.lt_of_lt_of_le hn (by decide))
theorem jtc {n m j:Nat} (h:¬ m<128) (hc:(jcy n).length+1=j+(jcy m).length):(jcy n).length+1=j+1+(jcy (m / 128)).length:=by
 rw [jda (n:=m) (by omega),List.length_cons] at hc;omega
theorem jv4 {n m j:Nat} (h:m<128) (hc:(jcy n).length+1=j+(jcy m).length):j=(jcy n).length:=by
 have:=jqh.2 h;omega
def jay (k t c u o:Int):List Int:=if k=1 then [t,c,u] else if k=2\/k=3 then [t,c,o] else if k=4 then [c,o] else []
def isB (k t c u o:Int):Bool :=
 if k=1 then jbn t && jbn c && jbn u && o==0
 else if k=2\/k=3 then jbn t && jbn c && jbn o && u==0
 else if k=4 then jbn c && jbn o && t==0 && u==0
 else false
theorem Tryz.infoU8:(Tryz.prog.info? 5).map (fun i=>(i.zero,i.size,i.bytes))=some (some (.int .u8 0),1,1):=by kernel_rfl
theorem jgo {w:World} {base base':Nat} {e:TypeId} {size:Nat} {v:Value} {n:Nat} {xs:List Value} (h:w.ownsRow base e size v n xs) (hb:base'<=base):w.ownsRow base' e size v n xs:=by
 refine ⟨h.1,?_⟩
 rcases h.2 with h|⟨g,cap,cur,h1,h2,h3⟩
 ·exact .inl h
 ·exact .inr ⟨g,cap,cur,h1,Nat.le_trans hb h2,h3⟩
theorem jpj (w:World) (base:Nat) (e:TypeId) (hb:base<=w.heap.size):(w.alloc (.cells #[] e)).ownsRow base e 1 (.slice (some (aq w.heap.size 0)) 0 0) 0 [] :=
 World.ownsRow_made w #[] 0 hb (Nat.zero_le _) rfl
theorem jky {n m:Nat} {g:List Int} (h:jcy n=g++jcy m) (hm:¬ m<128):jcy n=(g++[((m % 128+128:Nat):Int)])++jcy (m / 128):=by
 rw [h,jda (n:=m) (by omega)];simp
theorem jfz (n:Int) (w:World) :
 Calls Tryz.prog 67 #[iv n] w fun e w'=>e=.returned (.bool (jbn n))/\w=w':=by
 by_cases h:1<=n
 ·go_enter Tryz.func67,Tryz.ntmps67
  go_wp2
  go_ret
  exact ⟨by simp [jbn,h],rfl⟩
 ·have hd:decide (1<=n)=false:=by simpa using h
  go_enter Tryz.func67,Tryz.ntmps67
  go_wp2
  go_ret
  exact ⟨by simp [jbn,hd],rfl⟩
theorem joe (n:Nat) (w:World) (hn:n<9223372036854775808) :
 Calls Tryz.prog 103 #[iv n] w fun e w'=>e=.returned (iv (jcy n).length)/\w=w':=by
 have hl:=jdc hn
 go_enter Tryz.func103,Tryz.ntmps103
 go_wp2
 go_loop [0,3] (fun x k=>∃ m j:Nat,m<=n/\j<=9/\x=iv m/\k=iv j/\Hid ((jcy n).length+1=j+(jcy m).length)) (fun x _=>(intOf x).toNat)
 case atStart=>exact ⟨n,1,Nat.le_refl _,by omega,rfl,rfl,by unfold Hid;omega⟩
 case round =>
  obtain ⟨m,j,hm,hj,rfl,rfl,hc⟩:=hrel
  by_cases hlt:m<128
  ·go_wp2
   go_ret
   exact ⟨qet (by rw [jv4 hlt hc]),rfl⟩
  ·have hs:=jtc hlt hc
   have hp:=jdy (m / 128)
   have hj':j+1<=9:=by omega
   have HS:Hid ((jcy n).length+1=j+1+(jcy (m / 128)).length):=hs
   clear hs hp
   go_wp2
   go_round
   case rel=>exact ⟨m / 128,j+1,by omega,by omega,by go_num,by go_num,HS⟩
   case measure=>simp [intOf];omega
theorem jy4 (k t c u o:Int) (w:World) :
 Calls Tryz.prog 38 #[.agg #[iv k,iv t,iv c,iv u,iv o]] w fun e w'=>e=.returned (.bool (isB k t c u o))/\Below w.heap.size w w':=by
 by_cases h1:k=1
 ·subst h1
  go_enter Tryz.func38,Tryz.ntmps38
  go_wp2_with (go_at_call 67;refine (jfz _ _).mono ?_;rintro e w' ⟨rfl,rfl⟩)
  all_goals
   go_ret
   refine ⟨?_,(Below.refl _ _).alloc (Nat.le_refl _) _⟩
   simp [isB, *]
 by_cases h2:k=2
 ·subst h2
  go_enter Tryz.func38,Tryz.ntmps38
  go_wp2_with (go_at_call 67;refine (jfz _ _).mono ?_;rintro e w' ⟨rfl,rfl⟩)
  all_goals
   go_ret
   refine ⟨?_,(Below.refl _ _).alloc (Nat.le_refl _) _⟩
   simp [isB, *]
 by_cases h3:k=3
 ·subst h3
  go_enter Tryz.func38,Tryz.ntmps38
  go_wp2_with (go_at_call 67;refine (jfz _ _).mono ?_;rintro e w' ⟨rfl,rfl⟩)
  all_goals
   go_ret
   refine ⟨?_,(Below.refl _ _).alloc (Nat.le_refl _) _⟩
   simp [isB, *]
 by_cases h4:k=4
 ·subst h4
  go_enter Tryz.func38,Tryz.ntmps38
  go_wp2_with (go_at_call 67;refine (jfz _ _).mono ?_;rintro e w' ⟨rfl,rfl⟩)
  all_goals
   go_ret
   refine ⟨?_,(Below.refl _ _).alloc (Nat.le_refl _) _⟩
   simp [isB, *]
 have e1:(k==1)=false:=by simpa using h1
 have e2:(k==2)=false:=by simpa using h2
 have e3:(k==3)=false:=by simpa using h3
 have e4:(k==4)=false:=by simpa using h4
 have hb:isB k t c u o=false:=by simp [isB,h1,h2,h3,h4]
 go_enter Tryz.func38,Tryz.ntmps38
 go_wp2_with (go_at_call 67;refine (jfz _ _).mono ?_;rintro e w' ⟨rfl,rfl⟩)
 go_ret
 exact ⟨by rw [hb];rfl,(Below.refl _ _).alloc (Nat.le_refl _) _⟩
theorem jm2 (t c u o:Int) (w:World) :
 Calls Tryz.prog 96 #[.agg #[iv 1,iv t,iv c,iv u,iv o]] w fun e w'=>e=.returned (.slice (some (aq (w.heap.size+1) 0)) 3 3) ∧
  w'=(w.alloc (.cells #[iv 1,iv t,iv c,iv u,iv o] 46)).alloc (.cells #[iv t,iv c,iv u] 3):=by
 go_enter Tryz.func96,Tryz.ntmps96
 go_wp2
 go_ret
 exact ⟨rfl,rfl⟩
theorem jm8 (t c u o:Int) (w:World) :
 Calls Tryz.prog 96 #[.agg #[iv 2,iv t,iv c,iv u,iv o]] w fun e w'=>e=.returned (.slice (some (aq (w.heap.size+1) 0)) 3 3) ∧
  w'=(w.alloc (.cells #[iv 2,iv t,iv c,iv u,iv o] 46)).alloc (.cells #[iv t,iv c,iv o] 3):=by
 go_enter Tryz.func96,Tryz.ntmps96
 go_wp2
 go_ret
 exact ⟨rfl,rfl⟩
theorem jlr (t c u o:Int) (w:World) :
 Calls Tryz.prog 96 #[.agg #[iv 3,iv t,iv c,iv u,iv o]] w fun e w'=>e=.returned (.slice (some (aq (w.heap.size+1) 0)) 3 3) ∧
  w'=(w.alloc (.cells #[iv 3,iv t,iv c,iv u,iv o] 46)).alloc (.cells #[iv t,iv c,iv o] 3):=by
 go_enter Tryz.func96,Tryz.ntmps96
 go_wp2
 go_ret
 exact ⟨rfl,rfl⟩
theorem jmu (t c u o:Int) (w:World) :
 Calls Tryz.prog 96 #[.agg #[iv 4,iv t,iv c,iv u,iv o]] w fun e w'=>e=.returned (.slice (some (aq (w.heap.size+1) 0)) 2 2) ∧
  w'=(w.alloc (.cells #[iv 4,iv t,iv c,iv u,iv o] 46)).alloc (.cells #[iv c,iv o] 3):=by
 go_enter Tryz.func96,Tryz.ntmps96
 go_wp2
 go_ret
 exact ⟨rfl,rfl⟩
theorem jqp (k t c u o:Int) (w:World) (h1:¬ k=1) (h2:¬ k=2) (h3:¬ k=3) (h4:¬ k=4) :
 Calls Tryz.prog 96 #[.agg #[iv k,iv t,iv c,iv u,iv o]] w fun e w'=>e=.returned (.slice none 0 0) ∧
  w'=w.alloc (.cells #[iv k,iv t,iv c,iv u,iv o] 46):=by
 have e1:(k==1)=false:=by simpa using h1
 have e2:(k==2)=false:=by simpa using h2
 have e3:(k==3)=false:=by simpa using h3
 have e4:(k==4)=false:=by simpa using h4
 go_enter Tryz.func96,Tryz.ntmps96
 go_wp2
 go_ret
 exact ⟨rfl,rfl⟩
theorem jtm (ns:List Int) (k:Nat) (h:k<ns.length) {x:Int} (hx:ns.getD k 0=x):(ns.take (k+1)).all jbn=((ns.take k).all jbn && jbn x):=by
 rw [List.take_succ_eq_append_getElem h,List.all_append]
 simp [List.getD,List.getElem?_eq_getElem h] at hx
 simp [hx]
theorem jse (ns:List Int) (k:Nat) (h:k<ns.length) {x:Int} (hx:ns.getD k 0=x) (hn:jbn x=false):ns.all jbn=false:=by
 rw [List.all_eq_false]
 simp [List.getD,List.getElem?_eq_getElem h] at hx
 exact ⟨ns[k],List.getElem_mem h,by rw [hx,hn];simp⟩
theorem jfr (b off cap:Nat) (ns:List Int) (w:World) (hl:ns.length<=100) (hcell:∀ i,i<ns.length->w.cell? (aq b (off+i))=some (iv (ns.getD i 0))) :
 Calls Tryz.prog 90 #[.slice (some (aq b off)) ns.length cap] w fun e w'=>e=.returned (.bool (ns.all jbn))/\w=w':=by
 go_enter Tryz.func90,Tryz.ntmps90
 go_wp2
 go_loop [3] (fun i=>∃ k:Nat,k<=ns.length/\i=iv k/\Hid ((ns.take k).all jbn=true)) (fun i=>ns.length - (intOf i).toNat)
 case atStart=>exact ⟨0,Nat.zero_le _,rfl,by simp [Hid]⟩
 case round =>
  obtain ⟨k,hk,rfl,hall⟩:=hrel
  by_cases hlt:k<ns.length
  ·have hc:=hcell k hlt
   have hx:∃ x,ns.getD k 0=x:=⟨_,rfl⟩
   obtain ⟨x,hx⟩:=hx
   rw [hx] at hc
   have HX:Hid (ns.getD k 0=x):=hx
   clear hx
   clear hcell
   by_cases h1:1<=x
   ·by_cases h2:x<=4294967296
    ·go_wp2
     go_round
     case rel=>exact ⟨k+1,by omega,by go_num,by unfold Hid;rw [jtm ns k hlt HX.out,hall.out];simp [jbn,h1,h2]⟩
     case measure=>simp [intOf];omega
    ·have HN:Hid (ns.all jbn=false):=jse ns k hlt HX.out (by simp [jbn];omega)
     go_wp2
     go_ret
     exact ⟨by rw [HN.out];rfl,rfl⟩
   ·have HN:Hid (ns.all jbn=false):=jse ns k hlt HX.out (by simp [jbn];omega)
    go_wp2
    go_ret
    exact ⟨by rw [HN.out];rfl,rfl⟩
  ·have HN:Hid (ns.all jbn=true):=by have:=hall.out;rwa [List.take_of_length_le (by omega)] at this
   go_wp2
   go_ret
   exact ⟨by rw [HN.out];rfl,rfl⟩
def bytesAt (w:World) (B:Nat) (v:Value) (l:List Int):Prop :=
 ∃ g cap,v=.slice (some (aq g 0)) l.length cap/\B<=g/\g<w.heap.size/\l.length<=cap/\cap<=maxLen/\∀ i,i<l.length->w.cell? (aq g (0+i))=some (.int .u8 (l.getD i 0))
theorem jo2 {w:World} {B:Nat} {v:Value} {l:List Int} (h:w.ownsRow B 5 1 v l.length (l.map (Value.int .u8))) (hl:0<l.length):bytesAt w B v l:=by
 rcases h.2 with ⟨_,h0⟩|⟨g,cap,cur,rfl,hg,hh,hn,hm,_⟩
 ·omega
 ·refine ⟨g,cap,rfl,hg,(blt hh),hn,hm,fun i hi=>?_⟩
  have:=h.cells (g:=g) rfl i (.int .u8 (l.getD i 0)) (by simp [List.getD,List.getElem?_eq_getElem hi])
  simpa [Addr.add_lit] using this
theorem bytesAt.below {w w':World} {B B':Nat} {v:Value} {l:List Int} (h:bytesAt w B v l) (hb:Below B' w w') (hB:w.heap.size<=B'):bytesAt w' B v l:=by
 obtain ⟨g,cap,rfl,hg,hh,hn,hm,hc⟩:=h
 exact ⟨g,cap,rfl,hg,Nat.lt_of_lt_of_le hh hb.size,hn,hm,fun i hi=>(hb.cell (p:=(aq g (0+i))) (Nat.lt_of_lt_of_le hh hB)).trans (hc i hi)⟩
end Go.Proofs.YtfhncfghblkgeaaGreat
