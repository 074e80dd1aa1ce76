import Derived.Test.YtfhncfghblkgeaaGreatL05
import Derived.Test.YtfhncfghblkgeaaGreatL10
set_option maxRecDepth 100000
set_option maxHeartbeats 2000000
namespace Go.Proofs.YtfhncfghblkgeaaGreat
open Go.RowKit
def jgh (n K j m:Nat) (g:List Int):Prop:=K=(jcy n).length/\g.length=j/\(j<K->jcy n=g++jcy m)/\(j=K->jcy n=g)
theorem jpv (n:Nat):jgh n (jcy n).length 0 n []:=⟨rfl,rfl,fun _=>rfl,fun h=>by have:=jdy n;omega⟩
theorem jr4 {n K j m:Nat} {g:List Int} (h:jgh n K j m g) (hj:j<K) (hm:m<128):j+1=K/\jgh n K (j+1) (m / 128) (g++[(m:Int)]):=by
 obtain ⟨hK,hg,h1,_⟩:=h
 have h1:=h1 hj
 rw [jc9 hm] at h1
 have e:K=j+1:=by rw [hK,h1];simp [hg]
 exact ⟨e.symm,hK,by simp [hg],fun h=>by omega,fun _=>h1⟩
theorem jpw {n K j m:Nat} {g:List Int} (h:jgh n K j m g) (hj:j<K) (hm:¬ m<128):j+1<K/\jgh n K (j+1) (m / 128) (g++[((m % 128+128:Nat):Int)]):=by
 obtain ⟨hK,hg,h1,_⟩:=h
 have h1:=jky (h1 hj) hm
 have hp:=jdy (m / 128)
 have e:j+1<K:=by rw [hK,h1];simp [hg];omega
 exact ⟨e,hK,by simp [hg],fun _=>h1,fun h=>by omega⟩
theorem jyq (xs g:List Int) (x:Int):(xs++(g++[x])).map (Value.int .u8)=(xs++g).map (Value.int .u8)++[.int .u8 x]:=by simp
theorem jx0 (v:Value) (xs:List Int) (n B:Nat) (w:World) (hn:n<9223372036854775808) (hB:B<=w.heap.size) (hx:xs.length<=1000) (hv:w.ownsRow B 5 1 v xs.length (xs.map (Value.int .u8))) :
 Calls Tryz.prog 65 #[v,iv n] w fun e w'=>∃ v',e=.returned v'/\w'.ownsRow B 5 1 v' (xs++jcy n).length ((xs++jcy n).map (Value.int .u8))/\Below B w w':=by
 obtain ⟨i0,hi,hz0,hz1,hz2⟩:=info_parts Tryz.infoU8
 have hl:=jdc hn
 have hp:=jdy n
 have hA:=jpv n
 generalize hK:(jcy n).length=K at hl hp hA
 have HK:Hid ((jcy n).length=K):=hK
 have HA:Hid (jgh n K 0 n []):=hA
 go_enter Tryz.func65,Tryz.ntmps65
 go_wp2_with (go_at_call 103;refine (joe n _ hn).mono ?_;rintro e w' ⟨rfl,rfl⟩;rw [HK.out])
 clear hK hA
 go_loopw [0,1,6] (fun b x i wr=>∃ (j m:Nat) (g:List Int),j<=K/\m<=n/\x=iv m/\i=iv j/\Hid (jgh n K j m g)/\wr.ownsRow B 5 1 b (xs++g).length ((xs++g).map (Value.int .u8))/\Below B w wr) (fun _ _ i _=>K - (intOf i).toNat)
 case atStart=>exact ⟨0,n,[],Nat.zero_le _,Nat.le_refl _,rfl,rfl,HA,by simpa using hv,Below.refl _ _⟩
 case round =>
  obtain ⟨j,m,g,hj,hm,rfl,rfl,hc,hown,hbel⟩:=hrel
  clear hv
  have hsz:B<=wr.heap.size:=Nat.le_trans hB hbel.size
  have hgl:g.length<=9:=by have:=hc.out.2.1;omega
  have hxg:(xs++g).length<=1009:=by simp;omega
  have HO:Hid (∀ k,u0.ownBlock=some k->B<=k/\k<wr.heap.size):=World.ownsRow.lt hown
  by_cases hjk:j<K
  ·by_cases hlt:m<128
   ·obtain ⟨hlast,hc'⟩:=jr4 hc hjk hlt
    have HC:Hid (jgh n K (j+1) (m / 128) (g++[(m:Int)])):=hc'
    have HE:Hid ((m:Int) % 128=m):=by unfold Hid;omega
    have hnot:¬ j<K - 1:=by omega
    clear hc' hc hlast
    go_wp2_with (at_builtin;refine wpList_append_own _ rfl _ _ 92 rfl B 5 i0 (.int .u8 0) 1 1 Tryz.underlying92 hi hz0 hz1 hz2 rfl (by decide) _ _ _ rfl (hown.alloc _) (aq wr.heap.size 0) 1 1 [.int .u8 (↑m % 128)] rfl rfl ?c1 ?c2 ?c3 ?c4 ?c5 ?_)
    case c1=>exact cell_one_new _ _ _
    case c2=>intro u hu;simp at hu;subst hu;rfl
    case c3=>unfold maxLen;omega
    case c4=>omega
    case c5=>simp;omega
    intro v' w1 hown' hgrow _
    clear hown
    go_wp2
    go_roundw
    case rel =>
     refine ⟨j+1,m / 128,g++[(m:Int)],by omega,by omega,by go_num,by go_num,HC,?_,?_⟩
     ·rw [jyq];rw [HE.out] at hown';simpa [Nat.add_assoc] using hown'
     ·exact (hbel.alloc hsz _).grown hgrow (by simp;omega) (fun k hk=>(HO.out k hk).1)
    case measure=>simp [intOf];omega
   ·obtain ⟨hmore,hc'⟩:=jpw hc hjk hlt
    have HC:Hid (jgh n K (j+1) (m / 128) (g++[((m % 128+128:Nat):Int)])):=hc'
    have hyes:(j:Int)<(K:Int) - 1:=by omega
    clear hc' hc hmore
    go_wp2_with (at_builtin;refine wpList_append_own _ rfl _ _ 92 rfl B 5 i0 (.int .u8 0) 1 1 Tryz.underlying92 hi hz0 hz1 hz2 rfl (by decide) _ _ _ rfl (hown.alloc _) (aq wr.heap.size 0) 1 1 [.int .u8 (↑m % 128+128)] rfl rfl ?c1 ?c2 ?c3 ?c4 ?c5 ?_)
    case c1=>exact cell_one_new _ _ _
    case c2=>intro u hu;simp at hu;subst hu;rfl
    case c3=>unfold maxLen;omega
    case c4=>omega
    case c5=>simp;omega
    intro v' w1 hown' hgrow _
    clear hown
    go_wp2
    go_roundw
    case rel =>
     refine ⟨j+1,m / 128,g++[((m % 128+128:Nat):Int)],by omega,by omega,by go_num,by go_num,HC,?_,?_⟩
     ·rw [jyq];simpa [Nat.add_assoc] using hown'
     ·exact (hbel.alloc hsz _).grown hgrow (by simp;omega) (fun k hk=>(HO.out k hk).1)
    case measure=>simp [intOf];omega
  ·have HE:Hid (jcy n=g):=hc.out.2.2.2 (by omega)
   go_wp2
   go_ret
   exact ⟨_,rfl,by rw [HE.out];exact hown,hbel⟩
theorem jbv {B:Nat} {W w1:World} (hb:Below B W w1) (b o:Nat) (h:b<B):w1.cell? (aq b o)=W.cell? (aq b o):=hb.cell (p:=(aq b o)) h
theorem js1:jcy 0=[0]:=by first|rfl|(simp [jcy,jn3])
theorem jz2 (v:Value) (xs:List Int) (z:Int) (B:Nat) (w:World) (hz:z<0) (hB:B<=w.heap.size) (hx:xs.length<=1000) (hv:w.ownsRow B 5 1 v xs.length (xs.map (Value.int .u8))) :
 Calls Tryz.prog 65 #[v,iv z] w fun e w'=>∃ v',e=.returned v'/\w'.ownsRow B 5 1 v' (xs++[0]).length ((xs++[0]).map (Value.int .u8))/\Below B w w':=by
 obtain ⟨i0,hi,hz0,hz1,hz2⟩:=info_parts Tryz.infoU8
 have hG:Hid (∀ W,Calls Tryz.prog 103 #[iv 0] W fun e w'=>e=.returned (iv 1)/\W=w'):=fun W=>by
  have:=joe 0 W (by omega)
  rw [js1] at this
  exact this
 go_enter Tryz.func65,Tryz.ntmps65
 go_wp2_with (go_at_call 103;refine (hG.out _).mono ?_;rintro e w' ⟨rfl,rfl⟩)
 go_loopw [0,1,6] (fun b x i wr=>∃ (j:Nat) (g:List Int),x=iv 0/\i=iv j/\((j=0/\g=[])\/(j=1/\g=[0]))/\wr.ownsRow B 5 1 b (xs++g).length ((xs++g).map (Value.int .u8))/\Below B w wr) (fun _ _ i _=>1 - (intOf i).toNat)
 case atStart=>exact ⟨0,[],rfl,rfl,.inl ⟨rfl,rfl⟩,by simpa using hv,Below.refl _ _⟩
 case round =>
  obtain ⟨j,g,rfl,rfl,hjg,hown,hbel⟩:=hrel
  clear hv
  have hsz:B<=wr.heap.size:=Nat.le_trans hB hbel.size
  have HO:Hid (∀ k,u0.ownBlock=some k->B<=k/\k<wr.heap.size):=World.ownsRow.lt hown
  rcases hjg with ⟨rfl,rfl⟩|⟨rfl,rfl⟩
  ·rw [List.append_nil] at hown
   go_wp2_with (at_builtin;refine wpList_append_own _ rfl _ _ 92 rfl B 5 i0 (.int .u8 0) 1 1 Tryz.underlying92 hi hz0 hz1 hz2 rfl (by decide) _ _ _ rfl (hown.alloc _) (aq wr.heap.size 0) 1 1 [.int .u8 0] rfl rfl ?c1 ?c2 ?c3 ?c4 ?c5 ?_)
   case c1=>exact cell_one_new _ _ _
   case c2=>intro u hu;simp at hu;subst hu;rfl
   case c3=>unfold maxLen;omega
   case c4=>omega
   case c5=>simp;omega
   intro v' w1 hown' hgrow _
   clear hown
   go_wp2
   go_roundw
   case rel =>
    refine ⟨1,[0],rfl,by go_num,.inr ⟨rfl,rfl⟩,?_,?_⟩
    ·simpa [Nat.add_assoc] using hown'
    ·exact (hbel.alloc hsz _).grown hgrow (by simp;omega) (fun k hk=>(HO.out k hk).1)
   case measure=>simp [intOf]
  ·go_wp2
   go_ret
   exact ⟨_,rfl,hown,hbel⟩
theorem jej (v:Value) (xs:List Int) (z:Int) (B:Nat) (w:World) (hz:z<9223372036854775808) (hB:B<=w.heap.size) (hx:xs.length<=1000) (hv:w.ownsRow B 5 1 v xs.length (xs.map (Value.int .u8))) :
 Calls Tryz.prog 65 #[v,iv z] w fun e w'=>∃ v',e=.returned v'/\w'.ownsRow B 5 1 v' (xs++jcy z.toNat).length ((xs++jcy z.toNat).map (Value.int .u8))/\Below B w w':=by
 by_cases h0:z<0
 ·have e:z.toNat=0:=by omega
  rw [e,js1]
  exact jz2 v xs z B w h0 hB hx hv
 ·have:=jx0 v xs z.toNat B w (by omega) hB hx hv
  rw [show ((z.toNat:Nat):Int)=z by omega] at this
  exact this
theorem jxd (t c u o:Int) (w:World) (ht:t<9223372036854775808) (hc:c<9223372036854775808) (hu:u<9223372036854775808) :
 Calls Tryz.prog 34 #[.agg #[iv 1,iv t,iv c,iv u,iv o]] w fun e w'=>∃ v,e=.returned v/\w'.ownsRow w.heap.size 5 1 v (jao 1 [t,c,u]).length ((jao 1 [t,c,u]).map (Value.int .u8))/\Below w.heap.size w w':=by
 have lt:=jdc (show t.toNat<9223372036854775808 by omega)
 have lc:=jdc (show c.toNat<9223372036854775808 by omega)
 have lu:=jdc (show u.toNat<9223372036854775808 by omega)
 go_enter Tryz.func34,Tryz.ntmps34
 go_wp2_with fail
 refine (jej _ ([(1:Int)]) t (w.heap.size+1) _ ht (by simp) (by simp<;>omega) (ji0 (by simp) (.int .u8 1))).mono ?_
 rintro e w0 ⟨v0,rfl,h0,b0⟩
 have s0:w.heap.size+1<=w0.heap.size:=Nat.le_trans (by simp) b0.size
 have k00:w0.cell? (aq w.heap.size 0)=some (iv 1):=(jbv b0 _ _ (by omega)).trans (by simp [go_sem])
 have k01:w0.cell? (aq w.heap.size 1)=some (iv t):=(jbv b0 _ _ (by omega)).trans (by simp [go_sem])
 have k02:w0.cell? (aq w.heap.size 2)=some (iv c):=(jbv b0 _ _ (by omega)).trans (by simp [go_sem])
 have k03:w0.cell? (aq w.heap.size 3)=some (iv u):=(jbv b0 _ _ (by omega)).trans (by simp [go_sem])
 have k04:w0.cell? (aq w.heap.size 4)=some (iv o):=(jbv b0 _ _ (by omega)).trans (by simp [go_sem])
 go_wp2_with fail
 refine (jej _ ([(1:Int)]++jcy t.toNat) c (w.heap.size+1) _ hc s0 (by simp<;>omega) h0).mono ?_
 rintro e w1 ⟨v1,rfl,h1,b1⟩
 have s1:w.heap.size+1<=w1.heap.size:=Nat.le_trans s0 b1.size
 have k10:w1.cell? (aq w.heap.size 0)=some (iv 1):=(jbv b1 _ _ (by omega)).trans k00
 have k11:w1.cell? (aq w.heap.size 1)=some (iv t):=(jbv b1 _ _ (by omega)).trans k01
 have k12:w1.cell? (aq w.heap.size 2)=some (iv c):=(jbv b1 _ _ (by omega)).trans k02
 have k13:w1.cell? (aq w.heap.size 3)=some (iv u):=(jbv b1 _ _ (by omega)).trans k03
 have k14:w1.cell? (aq w.heap.size 4)=some (iv o):=(jbv b1 _ _ (by omega)).trans k04
 clear k00 k01 k02 k03 k04
 go_wp2_with fail
 refine (jej _ ([(1:Int)]++jcy t.toNat++jcy c.toNat) u (w.heap.size+1) _ hu s1 (by simp<;>omega) h1).mono ?_
 rintro e w2 ⟨v2,rfl,h2,b2⟩
 go_wp2_with fail
 go_ret
 refine ⟨_,rfl,?_,?_⟩
 ·have e:jao 1 [t,c,u]=[(1:Int)]++jcy t.toNat++jcy c.toNat++jcy u.toNat:=by simp [jao]
  rw [e];exact jgo h2 (by omega)
 ·exact ((((show Below w.heap.size w _ from bL)).trans (b0.mono (by omega))).trans (b1.mono (by omega))).trans (b2.mono (by omega))
theorem qa1 (t c u o:Int) (w:World) (hc:c<9223372036854775808) (ho:o<9223372036854775808) :
 Calls Tryz.prog 34 #[.agg #[iv 4,iv t,iv c,iv u,iv o]] w fun e w'=>∃ v,e=.returned v/\w'.ownsRow w.heap.size 5 1 v (jao 4 [c,o]).length ((jao 4 [c,o]).map (Value.int .u8))/\Below w.heap.size w w':=by
 have lc:=jdc (show c.toNat<9223372036854775808 by omega)
 have lo:=jdc (show o.toNat<9223372036854775808 by omega)
 go_enter Tryz.func34,Tryz.ntmps34
 go_wp2_with fail
 refine (jej _ ([(4:Int)]) c (w.heap.size+1) _ hc (by simp) (by simp<;>omega) (ji0 (by simp) (.int .u8 4))).mono ?_
 rintro e w0 ⟨v0,rfl,h0,b0⟩
 have s0:w.heap.size+1<=w0.heap.size:=Nat.le_trans (by simp) b0.size
 have k00:w0.cell? (aq w.heap.size 0)=some (iv 4):=(jbv b0 _ _ (by omega)).trans (by simp [go_sem])
 have k01:w0.cell? (aq w.heap.size 1)=some (iv t):=(jbv b0 _ _ (by omega)).trans (by simp [go_sem])
 have k02:w0.cell? (aq w.heap.size 2)=some (iv c):=(jbv b0 _ _ (by omega)).trans (by simp [go_sem])
 have k03:w0.cell? (aq w.heap.size 3)=some (iv u):=(jbv b0 _ _ (by omega)).trans (by simp [go_sem])
 have k04:w0.cell? (aq w.heap.size 4)=some (iv o):=(jbv b0 _ _ (by omega)).trans (by simp [go_sem])
 go_wp2_with fail
 refine (jej _ ([(4:Int)]++jcy c.toNat) o (w.heap.size+1) _ ho s0 (by simp<;>omega) h0).mono ?_
 rintro e w1 ⟨v1,rfl,h1,b1⟩
 go_wp2_with fail
 go_ret
 refine ⟨_,rfl,?_,?_⟩
 ·have e:jao 4 [c,o]=[(4:Int)]++jcy c.toNat++jcy o.toNat:=by simp [jao]
  rw [e];exact jgo h1 (by omega)
 ·exact (((show Below w.heap.size w _ from bL)).trans (b0.mono (by omega))).trans (b1.mono (by omega))
theorem jzw (k t c u o:Int) (w:World) (hk0:0<=k) (hk1:k<256) (hk2:k≠1) (hk3:k≠4) (ht:t<9223372036854775808) (hc:c<9223372036854775808) (ho:o<9223372036854775808) :
 Calls Tryz.prog 34 #[.agg #[iv k,iv t,iv c,iv u,iv o]] w fun e w'=>∃ v,e=.returned v/\w'.ownsRow w.heap.size 5 1 v (jao k [t,c,o]).length ((jao k [t,c,o]).map (Value.int .u8))/\Below w.heap.size w w':=by
 have lt:=jdc (show t.toNat<9223372036854775808 by omega)
 have lc:=jdc (show c.toNat<9223372036854775808 by omega)
 have lo:=jdc (show o.toNat<9223372036854775808 by omega)
 have hw8:IntKind.u8.wrap k=k:=by unfold IntKind.wrap;simp [IntKind.signed,IntKind.bits];omega
 have e1:(k==1)=false:=by simpa using hk2
 have e4:(k==4)=false:=by simpa using hk3
 go_enter Tryz.func34,Tryz.ntmps34
 go_wp2_with fail
 refine (jej _ ([(k:Int)]) t (w.heap.size+1) _ ht (by simp) (by simp<;>omega) (ji0 (by simp) (.int .u8 k))).mono ?_
 rintro e w0 ⟨v0,rfl,h0,b0⟩
 have s0:w.heap.size+1<=w0.heap.size:=Nat.le_trans (by simp) b0.size
 have k00:w0.cell? (aq w.heap.size 0)=some (iv k):=(jbv b0 _ _ (by omega)).trans (by simp [go_sem])
 have k01:w0.cell? (aq w.heap.size 1)=some (iv t):=(jbv b0 _ _ (by omega)).trans (by simp [go_sem])
 have k02:w0.cell? (aq w.heap.size 2)=some (iv c):=(jbv b0 _ _ (by omega)).trans (by simp [go_sem])
 have k03:w0.cell? (aq w.heap.size 3)=some (iv u):=(jbv b0 _ _ (by omega)).trans (by simp [go_sem])
 have k04:w0.cell? (aq w.heap.size 4)=some (iv o):=(jbv b0 _ _ (by omega)).trans (by simp [go_sem])
 go_wp2_with fail
 refine (jej _ ([(k:Int)]++jcy t.toNat) c (w.heap.size+1) _ hc s0 (by simp<;>omega) h0).mono ?_
 rintro e w1 ⟨v1,rfl,h1,b1⟩
 have s1:w.heap.size+1<=w1.heap.size:=Nat.le_trans s0 b1.size
 have k10:w1.cell? (aq w.heap.size 0)=some (iv k):=(jbv b1 _ _ (by omega)).trans k00
 have k11:w1.cell? (aq w.heap.size 1)=some (iv t):=(jbv b1 _ _ (by omega)).trans k01
 have k12:w1.cell? (aq w.heap.size 2)=some (iv c):=(jbv b1 _ _ (by omega)).trans k02
 have k13:w1.cell? (aq w.heap.size 3)=some (iv u):=(jbv b1 _ _ (by omega)).trans k03
 have k14:w1.cell? (aq w.heap.size 4)=some (iv o):=(jbv b1 _ _ (by omega)).trans k04
 clear k00 k01 k02 k03 k04
 go_wp2_with fail
 refine (jej _ ([(k:Int)]++jcy t.toNat++jcy c.toNat) o (w.heap.size+1) _ ho s1 (by simp<;>omega) h1).mono ?_
 rintro e w2 ⟨v2,rfl,h2,b2⟩
 go_wp2_with fail
 go_ret
 refine ⟨_,rfl,?_,?_⟩
 ·have e:jao k [t,c,o]=[(k:Int)]++jcy t.toNat++jcy c.toNat++jcy o.toNat:=by simp [jao]
  rw [e];exact jgo h2 (by omega)
 ·exact ((((show Below w.heap.size w _ from bL)).trans (b0.mono (by omega))).trans (b1.mono (by omega))).trans (b2.mono (by omega))
def jl1 (k t c u o:Int):List Int:=if k=4 then [c,o] else if k=1 then [t,c,u] else [t,c,o]
theorem jy9 (k t c u o:Int) (w:World) (hk0:0<=k) (hk1:k<256) (ht:t<9223372036854775808) (hc:c<9223372036854775808) (hu:u<9223372036854775808) (ho:o<9223372036854775808) :
 Calls Tryz.prog 34 #[.agg #[iv k,iv t,iv c,iv u,iv o]] w fun e w'=>∃ v,e=.returned v/\w'.ownsRow w.heap.size 5 1 v (jao k (jl1 k t c u o)).length ((jao k (jl1 k t c u o)).map (Value.int .u8))/\Below w.heap.size w w':=by
 unfold jl1
 by_cases h4:k=4
 ·subst h4;exact qa1 t c u o w hc ho
 ·rw [if_neg h4]
  by_cases h1:k=1
  ·subst h1;exact jxd t c u o w ht hc hu
  ·rw [if_neg h1];exact jzw k t c u o w hk0 hk1 h1 h4 ht hc ho
def jcn (k t:Int):Int:=if k=4 then 0 else t
def jcs (k u:Int):Int:=if k=1 then u else 0
def jcg (k o:Int):Int:=if k=1 then 0 else o
theorem jhg (k t c u o:Int) (w:World) :
 Calls Tryz.prog 39 #[.agg #[iv k,iv t,iv c,iv u,iv o]] w fun e w'=>e=.returned (.agg #[iv k,iv (jcn k t),iv c,iv (jcs k u),iv (jcg k o)])/\Below w.heap.size w w':=by
 by_cases h4:k=4
 ·subst h4
  rw [show jcn 4 t=0 from rfl,show jcs 4 u=0 from rfl,show jcg 4 o=o from rfl]
  go_enter Tryz.func39,Tryz.ntmps39
  go_wp2
  refine bodyPost_ret (v:=.agg #[iv 4,iv 0,iv c,iv 0,iv o]) (by simp [results,Tryz.results39,go_sem]) rfl ⟨rfl,bL⟩
 ·by_cases h1:k=1
  ·subst h1
   rw [show jcn 1 t=t from rfl,show jcs 1 u=u from rfl,show jcg 1 o=0 from rfl]
   go_enter Tryz.func39,Tryz.ntmps39
   go_wp2
   refine bodyPost_ret (v:=.agg #[iv 1,iv t,iv c,iv u,iv 0]) (by simp [results,Tryz.results39,go_sem]) rfl ⟨rfl,bL⟩
  ·rw [show jcn k t=t from if_neg h4,show jcs k u=0 from if_neg h1,show jcg k o=o from if_neg h1]
   have e4:(k==4)=false:=by simpa using h4
   have e1:(k==1)=false:=by simpa using h1
   go_enter Tryz.func39,Tryz.ntmps39
   go_wp2
   refine bodyPost_ret (v:=.agg #[iv k,iv t,iv c,iv 0,iv o]) (by simp [results,Tryz.results39,go_sem]) rfl ⟨rfl,bL⟩
theorem jrv (k t c u o:Int) (w:World) :
 Calls Tryz.prog 32 #[.agg #[iv k,iv t,iv c,iv u,iv o]] w fun e w'=>e=.returned (.bool (decide (0<=k) && decide (k<256)))/\Below w.heap.size w w':=by
 by_cases h0:0<=k
 ·by_cases h1:k<256
  ·have d0:decide (0<=k)=true:=decide_eq_true h0
   have d1:decide (k<256)=true:=decide_eq_true h1
   rw [d0,d1]
   go_enter Tryz.func32,Tryz.ntmps32
   go_wp2
   refine bodyPost_ret (v:=.bool true) (by simp [results,Tryz.results32,go_sem]) rfl ⟨rfl,bL⟩
  ·have d0:decide (0<=k)=true:=decide_eq_true h0
   have d1:decide (k<256)=false:=decide_eq_false h1
   rw [d0,d1]
   go_enter Tryz.func32,Tryz.ntmps32
   go_wp2
   refine bodyPost_ret (v:=.bool false) (by simp [results,Tryz.results32,go_sem]) rfl ⟨rfl,bL⟩
 ·have d0:decide (0<=k)=false:=decide_eq_false h0
  rw [d0]
  go_enter Tryz.func32,Tryz.ntmps32
  go_wp2
  refine bodyPost_ret (v:=.bool false) (by simp [results,Tryz.results32,go_sem]) rfl ⟨rfl,bL⟩
def jxy (k o pk po pc pu:Int):Prop :=
 (k=1/\((pk=2/\0<po/\0<pc/\0<pu)\/(pk=3/\0<po/\pc=0/\0<pu)\/((pk=4\/pk=5\/pk=6\/pk=10\/pk=11)/\po=0/\pc=0/\pu=0))) ∨
 (k=2/\((pk=7/\o=po/\0<o/\0<pc/\pu=0)\/((pk=9\/pk=10\/pk=11)/\po=0/\pc=0/\pu=0))) ∨
 (k=3/\((pk=8/\o=po/\0<o/\pc=0/\pu=0)\/((pk=9\/pk=10\/pk=11)/\po=0/\pc=0/\pu=0))) ∨
 (k=4/\((pk=12/\o=po/\0<o/\pc=0/\0<pu)\/(pk=13/\o=po/\0<o/\0<pc/\0<pu)\/(pk=14/\o=po/\0<o/\0<pc/\pu=0)\/((pk=15\/pk=16\/pk=17\/pk=18)/\o=po/\0<o/\pc=0/\pu=0)\/(pk=19/\po=0/\pc=0/\pu=0)))
theorem jf0 {k t c u o:Int} (h:isB k t c u o=true):∀ x∈jao k (jay k t c u o),0<=x/\x<256:=by
 intro x hx
 obtain ⟨_,_,hp⟩:=jl8 h
 rcases List.mem_cons.1 hx with rfl|hx
 ·unfold cnt at hp
  split at hp
  ·omega
  ·split at hp
   ·omega
   ·split at hp
    ·omega
    ·omega
 ·obtain ⟨n,_,hx⟩:=List.mem_flatMap.1 hx
  exact jq9 _ x hx
theorem jik {w:World} {B:Nat} {v:Value} {l:List Int} (h:bytesAt w B v l) (hb:∀ x∈l,0<=x/\x<256):∃ g cap,v=.slice (some (aq g 0)) l.length cap/\jai w (some (aq g 0)) l.length cap l:=by
 obtain ⟨g,cap,rfl,_,hg,hn,hm,hc⟩:=h
 exact ⟨g,cap,rfl,rfl,hn,hm,hb,fun _=>⟨g,0,rfl,hg,hc⟩⟩
theorem jjb {k t c u o k' t' c' u' o':Int} (h:isB k t c u o=true) (h':isB k' t' c' u' o'=true) (e:jao k (jay k t c u o)=jao k' (jay k' t' c' u' o')):k=k'/\t=t'/\c=c'/\u=u'/\o=o':=by
 obtain ⟨ha,hl,hp⟩:=jl8 h
 obtain ⟨ha',hl',_⟩:=jl8 h'
 rw [jco,jco] at e
 simp only [List.cons.injEq] at e
 obtain ⟨rfl,e⟩:=e
 obtain ⟨ms,e1,e2⟩:=jek ((jay k t c u o).map Int.toNat) ((jay k t' c' u' o').map Int.toNat) [] (by rw [List.length_map,List.length_map,hl,hl'];exact Nat.le_refl _) (by rw [List.append_nil];exact e)
 have hms:ms=[]:=List.eq_nil_of_length_eq_zero (by have:=congrArg List.length e1;rw [List.length_append,List.length_map,List.length_map,hl,hl'] at this;omega)
 subst hms
 have en:jay k t c u o=jay k t' c' u' o':=by
  rw [← jhj _ ha,← jhj _ ha']
  rw [e1];simp
 unfold jay at en
 unfold isB at h h'
 split at en
 ·next hk=>simp [hk] at en h h';simp [en,h,h']
 ·next hk1 =>
  split at en
  ·next hk=>simp [hk1,hk] at en h h';simp [en,h,h']
  ·next hk2 =>
   split at en
   ·next hk=>simp [hk] at en h h';simp [en,h,h']
   ·next hk4=>simp [hk1,hk2,hk4] at h
theorem qf7 {k t c u o k' t' c' u' o' err:Int} (h:isB k t c u o=true) (hu:UN (jao k (jay k t c u o)) k' t' c' u' o' err):k'=k/\t'=t/\c'=c/\u'=u/\o'=o/\err=0:=by
 rcases hu with ⟨h0,h1,h2⟩|⟨_,_,_,_,_,_,h2⟩
 ·obtain ⟨e1,e2,e3,e4,e5⟩:=jjb h h1 h2
  exact ⟨e1.symm,e2.symm,e3.symm,e4.symm,e5.symm,h0⟩
 ·exact absurd rfl (h2 k t c u o h)
structure OpV where
 k:Int
 a:Int
 b:Int
 c:Int
 d:Int
 e:Int
 s:ByteArray
def OpV.val (o:OpV):Value:=.agg #[iv o.k,iv o.a,iv o.b,iv o.c,iv o.d,iv o.e,.string o.s]
def opAt (w:World) (b i:Nat) (o:OpV):Prop :=
 w.cell? (aq b i)=some (iv o.k)/\w.cell? (aq b (i+1))=some (iv o.a)/\w.cell? (aq b (i+2))=some (iv o.b)/\w.cell? (aq b (i+3))=some (iv o.c) ∧
 w.cell? (aq b (i+4))=some (iv o.d)/\w.cell? (aq b (i+5))=some (iv o.e)/\w.cell? (aq b (i+6))=some (.string o.s)
def rowAt (w:World) (b:Nat) (ns:List Int):Prop:=ns.length<=100/\b<w.heap.size/\∀ i,i<ns.length->w.cell? (aq b (0+i))=some (iv (ns.getD i 0))
theorem rowAt.below {w w':World} {b B:Nat} {ns:List Int} (h:rowAt w b ns) (hb:Below B w w') (hB:w.heap.size<=B):rowAt w' b ns :=
 ⟨h.1,Nat.lt_of_lt_of_le h.2.1 hb.size,fun i hi=>(hb.cell (p:=(aq b (0+i))) (Nat.lt_of_lt_of_le h.2.1 hB)).trans (h.2.2 i hi)⟩
theorem opAt.below {w w':World} {b i B:Nat} {o:OpV} (h:opAt w b i o) (hb:Below B w w') (hB:b<B):opAt w' b i o:=by
 obtain ⟨h0,h1,h2,h3,h4,h5,h6⟩:=h
 exact ⟨(hb.cell (p:=(aq b i)) hB).trans h0,(hb.cell (p:=(aq b (i+1))) hB).trans h1,(hb.cell (p:=(aq b (i+2))) hB).trans h2,(hb.cell (p:=(aq b (i+3))) hB).trans h3,(hb.cell (p:=(aq b (i+4))) hB).trans h4,(hb.cell (p:=(aq b (i+5))) hB).trans h5,(hb.cell (p:=(aq b (i+6))) hB).trans h6⟩
section
structure salJ (S:Sal):Prop where
 I:salI S
 cap:S.C.cap<=4294967296
 queue:1<=S.C.queue
 len:S.os.length<=4294967296
 ats:∀ a∈S.ansL,0<=a.at'/\a.at'<=4611686018427387904
def jsj (PS:World->Nat->(Nat->Prop)->Sal->Prop) (w w':World) (x:Nat) (own:Nat->Prop) (S':Sal):Prop :=
 ∃ own',PS w' x own' S'/\Same own w w'/\∀ k,own' k->own k\/w.heap.size<=k
structure SendOK (PS:World->Nat->(Nat->Prop)->Sal->Prop):Prop where
 lt:∀ {w x own S},PS w x own S->∀ k,own k->k<w.heap.size
 keep:∀ {w w' x own S},PS w x own S->w.heap.size<=w'.heap.size->(∀ k,own k->w'.heap[k]?=w.heap[k]?)->PS w' x own S
 send:∀ {w x own S ba bl bc bs k t c u o err},PS w x own S->salJ S->jai w ba bl bc bs->UN bs k t c u o err->Calls Tryz.prog 33 #[pt x 0,.slice ba bl bc] w fun e w'=>e=.returned (S.send bs ⟨k,t,c,u,o⟩ err).1.val/\jsj PS w w' x own (S.send bs ⟨k,t,c,u,o⟩ err).2
theorem qdn (S:Sal) (r:Req) (h:S.os.length<=4294967296):(S.ask r).2.os.length<=4294967296:=by
 unfold Sal.ask
 split
 ·exact h
 split
 ·exact h
 split
 ·exact h
 ·next g3 =>
  split
  ·show ((S.more ⟨r.cust,r.units,0,0,0,0⟩).holds S.os.length).os.length<=_
   rw [(jcw S r.cust r.units).1]
   simp [Sal.more];omega
  split
  ·exact h
  ·simp [Sal.more];omega
theorem jk7:∀ (qs:List Nat) (S:Sal),(jd2 S qs).os.length=S.os.length
 | [],_=>rfl
 | q :: qs,S=>by
   have e:jd2 S (q :: qs)=jd2 (if S.left<(S.os.getD q ja3).units then S.ends q 18 else S) qs:=rfl
   rw [e,jk7]
   split
   ·exact jd6 S q 18
   ·rfl
theorem qej (S:Sal) (r:Req) (h:S.os.length<=4294967296):(S.doS r).2.os.length<=4294967296:=by
 unfold Sal.doS
 split
 ·exact qdn S r h
 split
 ·unfold Sal.confirm
  split
  ·exact h
  ·split
   ·exact h
   ·show (Sal.promote _).os.length<=_
    rw [je5,jk7,jd6]
    exact h
 ·unfold Sal.cancel
  split
  ·exact h
  ·split
   ·exact h
   ·show (Sal.promote _).os.length<=_
    rw [je5,jd6]
    exact h
theorem jlh (S:Sal) (bs:List Int) (r:Req) (err:Int):(S.send bs r err).2.C=S.C/\(S.send bs r err).2.now=S.now/\(S.send bs r err).2.ansL.length<=S.ansL.length+1:=by
 unfold Sal.send
 split
 ·exact ⟨rfl,rfl,by simp⟩
 split
 ·exact ⟨rfl,rfl,by simp⟩
 split
 ·split<;>exact ⟨rfl,rfl,by simp⟩
 ·split
  ·exact ⟨rfl,rfl,by simp⟩
  ·obtain ⟨a,b,c⟩:=jew S r
   exact ⟨a,b,by simp [c]⟩
theorem qa0 {S:Sal} (h:salJ S) (bs:List Int) (r:Req) (err:Int) (hI:salI (S.send bs r err).2):salJ (S.send bs r err).2:=by
 obtain ⟨a,b,c⟩:=jlh S bs r err
 refine ⟨hI,by rw [a];exact h.cap,by rw [a];exact h.queue,?_,?_⟩
 ·unfold Sal.send
  split
  ·exact h.len
  split
  ·exact h.len
  split
  ·split<;>exact h.len
  ·split
   ·exact h.len
   ·exact qej S r h.len
 ·unfold Sal.send
  split
  ·exact h.ats
  split
  ·exact h.ats
  split
  ·split<;>exact h.ats
  ·split
   ·exact h.ats
   ·intro x hx
    have hx':x∈(S.doS r).2.ansL++[⟨strOfNums bs,r.token,(S.doS r).1,S.now⟩]:=hx
    rw [(jew S r).2.2] at hx'
    rcases List.mem_append.1 hx' with hx'|hx'
    ·exact h.ats x hx'
    ·simp at hx';subst hx';exact h.I.now
structure SE where
 x:Nat
 R:Nat
 own:Nat->Prop
 ap:Option Addr
 lp:Nat
 cp:Nat
 vo:Value
 va:Value
 S:Sal
def SE.fp (e:SE) (b:Nat):Prop:=e.own b\/b=e.R\/e.vo.ownBlock=some b\/e.va.ownBlock=some b
def SE.then (e e2:SE) (w:World):Prop:=e2.x=e.x/\e2.R=e.R/\∀ k,e2.fp k->e.fp k\/w.heap.size<=k
section
variable {PS:World->Nat->(Nat->Prop)->Sal->Prop} {w w':World} {B j:Nat} {e:SE}
end
end
section
open Go.ChangeShapes Go.WideShapes Go.ChangeAt Go.RowKit
def wOK {H:Type} (t:TypeId) (d:DataW H):Prop:=∀ x∈DataW.weights Tryz.prog t d,x<=reachBytes
theorem jhr {H:Type} {P:Program} {e:TypeId} {d:DataW H} {n:Nat} (hn:n∈d.weights P e):∀ (el:List (DataW H)),d∈el->n∈DataW.weightsAll P e el
 | [],h=>by simp at h
 | d' :: el,h=>by
   simp only [DataW.weightsAll,List.mem_append]
   rcases List.mem_cons.1 h with rfl|h
   ·exact .inl hn
   ·exact .inr (jhr hn el h)
theorem jxm {H:Type} {t e:TypeId} {el sp:List (DataW H)} (hu:Tryz.prog.underlying t=some (.slice e)) (h:wOK t (.slice el sp)):(el.length+sp.length) * Tryz.prog.bytesOf e<=reachBytes/\∀ d∈el,wOK e d:=by
 unfold wOK at h
 simp only [DataW.weights,hu] at h
 exact ⟨h _ (by simp),fun d hd x hx=>h x (by simp [jhr hx el hd])⟩
theorem jys {H:Type} {t:TypeId} {fs:Array Field} {parts:List (DataW H)} (hu:Tryz.prog.underlying t=some (.struct fs)) (h:wOK t (.agg parts)) {i:Nat} {f:Field} {d:DataW H} (hf:fs[i]?=some f) (hd:parts[i]?=some d):wOK f.type d:=by
 unfold wOK at h
 simp only [DataW.weights,hu] at h
 exact fun x hx=>h x (DataW.weights_mem_each (j:=i) (by simp [hf]) hd x hx)
theorem jqq {H:Type} {enc:TypeId × Value->H} {w:World} {held:Bool} {t e:TypeId} {fs:Array Field} {c fuel:Nat} {a:Option Addr} {len cap:Nat} {x:DataW H × List MemPlace}
 (ht:Tryz.prog.underlying t=some (.slice e)) (he:Tryz.prog.underlying e=some (.struct fs)) (hc:Tryz.prog.cellsOf e=c) (h:DataW.trod enc Tryz.prog w 0 (fun _=>true) held fuel t [.slice a len cap]=some x) (hw:wOK t x.1) :
 (a=none/\len=0/\cap=0)\/∃ ad,a=some ad/\len<=cap/\cap * Tryz.prog.bytesOf e<=reachBytes/\∀ i,i<len->∃ (cs:List Value) (xs:List (DataW H × List MemPlace)) (n:Nat),
   cs.length=c/\(∀ j,j<c->w.cell? (ad.add (i * c+j))=cs[j]?)/\xs.length=fs.size ∧
   (∀ (k:Nat) (f:Field),fs[k]?=some f->DataW.trod enc Tryz.prog w 0 (fun _=>true) held n f.type ((cs.drop f.offset).take (Tryz.prog.cellsOf f.type))=xs[k]?)/\(∀ (k:Nat) (f:Field) y,fs[k]?=some f->xs[k]?=some y->wOK f.type y.1):=by
 rcases DataW.trod_slice ht h with ⟨hcs,_⟩|⟨ad,l,cp,elems,rest,n,_,hcs,hx,_,hlc,_,hel,hcell,hsp,_⟩
 ·simp at hcs
  exact .inl hcs
 ·simp at hcs
  obtain ⟨rfl,rfl,rfl⟩:=hcs
  subst hx
  obtain ⟨hb,hwe⟩:=jxm ht hw
  simp only [List.length_map] at hb
  have hr:=(hsp rfl).1
  rw [hel,hr,show len+(cap - len)=cap by omega] at hb
  refine .inr ⟨ad,rfl,hlc,hb,fun i hi=>?_⟩
  have h1:=hcell i hi
  rw [hc,List.getElem?_eq_getElem (by omega:i<elems.length)] at h1
  obtain ⟨cs,hcs,htr⟩:=Option.bind_eq_some_iff.1 h1
  obtain ⟨_,hcl,hcc⟩:=World.cells?_some hcs
  obtain ⟨xs,m,_,hy,_,hxl,hxf⟩:=DataW.trod_struct he htr
  refine ⟨cs,xs,m,hcl,fun j hj=>?_,hxl,hxf,fun k f y hf hy'=>?_⟩
  ·rw [← Deep.add_add];exact hcc j hj
  ·have hwi:=hwe elems[i].1 (List.mem_map.2 ⟨elems[i],List.getElem_mem _,rfl⟩)
   rw [hy] at hwi
   exact jys he hwi hf (by simp [hy'])
theorem qbq {cs:List Value} {k:Nat} (h:k<cs.length):(cs.drop k).take 1=[cs[k]]:=by
 rw [List.drop_eq_getElem_cons h];rfl
theorem jc6 {H:Type} {enc:TypeId × Value->H} {w:World} {held:Bool} {n:Nat} {cs:List Value} {k:Nat} {y:Option (DataW H × List MemPlace)} (hk:k<cs.length)
 (h:DataW.trod enc Tryz.prog w 0 (fun _=>true) held n 3 ((cs.drop k).take (Tryz.prog.cellsOf 3))=y) (hy:y.isSome=true):∃ m:Int,cs[k]?=some (iv m)/\(-9223372036854775808<=m/\m<=9223372036854775807):=by
 obtain ⟨z,rfl⟩:=Option.isSome_iff_exists.1 hy
 rw [Tryz.cellsInt,qbq hk] at h
 obtain ⟨m,e,_,hm⟩:=DataW.trod_int Tryz.underlying3 h
 simp at e
 have hb:=bounds_i64 hm
 exact ⟨m,by rw [List.getElem?_eq_getElem hk,e],hb.1,hb.2⟩
theorem jc8 {α:Type} {xs:List α} {i n:Nat} (h:xs.length=n) (hi:i<n):(xs[i]?).isSome=true:=by
 rw [List.getElem?_eq_getElem (by omega)];rfl
theorem jol {w:World} {ad:Addr} {v:Value} (h:w.cell? (ad.add 0)=some v):∃ b off,ad=(aq b off):=by
 obtain ⟨b,off,spot⟩:=ad
 have hs:=World.cell?_spot h
 cases spot with
 | none=>exact ⟨b,off,rfl⟩
 | some s=>simp [Addr.add] at hs
theorem jua {α:Type} (f:Nat->α) (d:α) {i len:Nat} (h:i<len):((List.range len).map f).getD i d=f i:=by simp [List.getD,h]
end
end Go.Proofs.YtfhncfghblkgeaaGreat
