import Derived.Test.YtfhncfghblkgeaaGreatL20
import Derived.Test.YtfhncfghblkgeaaGreatL21
set_option maxRecDepth 100000
set_option maxHeartbeats 2000000
namespace Go.Proofs.YtfhncfghblkgeaaGreat
open Go.RowKit
section
def Sal.acc (S:Sal) (c:Int):Int × Int × Int × Int:=if jby c then ((S.account c).1,(S.account c).2.1,(S.account c).2.2,0) else (0,0,0,3)
structure BookOK (PS:World->Nat->(Nat->Prop)->Sal->Prop):Prop where
 books:∀ {w x own S},PS w x own S->salJ S->Calls Tryz.prog 29 #[pt x 0] w fun e w'=>e=.returned (.agg #[iv S.free,iv (ja3 S.os 13 0),iv (ja3 S.os 14 0),iv (ja5 S.os).length,iv S.answers])/\jqv PS w w' x own S
 account:∀ {w x own S} (c:Int),PS w x own S->salJ S->Calls Tryz.prog 31 #[pt x 0,iv c] w fun e w'=>e=.returned (.tuple #[.agg #[iv (S.acc c).1,iv (S.acc c).2.1,iv (S.acc c).2.2.1],iv (S.acc c).2.2.2])/\jqv PS w w' x own S
structure TickOK (PS:World->Nat->(Nat->Prop)->Sal->Prop):Prop where
 tick:∀ {w x own S} (n:Int),-9223372036854775808<=n->n<=9223372036854775807->PS w x own S->salJ S->Calls Tryz.prog 36 #[pt x 0,iv n] w fun e w'=>e=.returned (.tuple #[iv (S.tick n).1.1,iv (S.tick n).1.2])/\jqv PS w w' x own (S.tick n).2
 clock:∀ {w x own S},PS w x own S->salJ S->Calls Tryz.prog 19 #[pt x 0] w fun e w'=>e=.returned (iv S.now)/\jqv PS w w' x own S
theorem jeo (S:Sal) (st en:Int):(S.past st en).C=S.C/\(S.past st en).now=S.now/\(S.past st en).ansL=S.ansL:=by
 obtain ⟨a,b,c⟩:=je6 (jbq S st en S.os.length)
 obtain ⟨d,e,f⟩:=jdw S st en S.os.length
 exact ⟨a.trans d,b.trans e,c.trans f⟩
theorem jnf (S:Sal) (t:Int):(S.round t).C=S.C/\(S.round t).ansL=S.ansL/\(S.round t).os.length=S.os.length:=by
 obtain ⟨a,_,c⟩:=jeo (({ S with now:=t }:Sal).past 13 15) 12 17
 obtain ⟨d,_,f⟩:=jeo ({ S with now:=t }:Sal) 13 15
 exact ⟨a.trans d,c.trans f,(jhp _ 12 17).trans (jhp _ 13 15)⟩
theorem jiu:∀ (n:Nat) (S:Sal) (to:Int),(jdv n S to).C=S.C/\(jdv n S to).ansL=S.ansL/\(jdv n S to).os.length=S.os.length
 | 0,_,_=>⟨rfl,rfl,rfl⟩
 | n+1,S,to=>by
   unfold jdv
   split
   ·exact ⟨rfl,rfl,rfl⟩
   ·obtain ⟨a,b,c⟩:=jiu n (S.round (S.due to)) to
    obtain ⟨d,e,f⟩:=jnf S (S.due to)
    exact ⟨a.trans d,b.trans e,c.trans f⟩
theorem ji8 (S:Sal) (n:Int):(S.tick n).2.C=S.C/\(S.tick n).2.ansL=S.ansL/\(S.tick n).2.os.length=S.os.length:=by
 unfold Sal.tick
 split
 ·exact ⟨rfl,rfl,rfl⟩
 split<;>exact jiu _ _ _
theorem jy0 {S:Sal} (h:salJ S) (n:Int) (hI:salI (S.tick n).2):salJ (S.tick n).2:=by
 obtain ⟨a,b,c⟩:=ji8 S n
 exact ⟨hI,by rw [a];exact h.cap,by rw [a];exact h.queue,by rw [c];exact h.len,by rw [b];exact h.ats⟩
section
variable {PS:World->Nat->(Nat->Prop)->Sal->Prop} {w:World} {B j:Nat} {e:SE}
end
end
def jfh (n K j m:Nat) (g:List Int):Prop:=K=(jcn n).length/\g.length=j/\(j<K->jcn n=g++jcn m)/\(j=K->jcn n=g)
theorem joc (n:Nat):jfh n (jcn n).length 0 n []:=⟨rfl,rfl,fun _=>rfl,fun h=>by have:=jde n;omega⟩
theorem jpu {n K j m:Nat} {g:List Int} (h:jfh n K j m g) (hj:j<K) (hm:m<128):j+1=K/\jfh n K (j+1) (m / 128) (g++[(m:Int)]):=by
 obtain ⟨hK,hg,h1,_⟩:=h
 have h1:=h1 hj
 rw [jc1 hm] at h1
 have e:K=j+1:=by rw [hK,h1];simp [hg]
 exact ⟨e.symm,hK,by simp [hg],fun h=>by omega,fun _=>h1⟩
theorem jqb {n K j m:Nat} {g:List Int} (h:jfh n K j m g) (hj:j<K) (hm:¬ m<128):j+1<K/\jfh n K (j+1) (m / 128) (g++[((m % 128+128:Nat):Int)]):=by
 obtain ⟨hK,hg,h1,_⟩:=h
 have h1:=jk4 (h1 hj) hm
 have hp:=jde (m / 128)
 have e:j+1<K:=by rw [hK,h1];simp [hg];omega
 exact ⟨e,hK,by simp [hg],fun _=>h1,fun h=>by omega⟩
theorem jw4 (xs g:List Int) (x:Int):(xs++(g++[x])).map (Value.int .u8)=(xs++g).map (Value.int .u8)++[.int .u8 x]:=by simp
theorem jvk (v:Value) (xs:List Int) (n B:Nat) (w:World) (hn:n<9223372036854775808) (hB:B<=w.heap.size) (hx:xs.length<=1000) (hv:w.ownsRow B 5 1 v xs.length (xs.map (Value.int .u8))) :
 Calls Tryz.prog 65 #[v,iv n] w fun e w'=>∃ v',e=.returned v'/\w'.ownsRow B 5 1 v' (xs++jcn n).length ((xs++jcn n).map (Value.int .u8))/\Below B w w':=by
 obtain ⟨i0,hi,hz0,hz1,hz2⟩:=info_parts Tryz.infoU8
 have hl:=jd3 hn
 have hp:=jde n
 have hA:=joc n
 generalize hK:(jcn n).length=K at hl hp hA
 have HK:Hid ((jcn n).length=K):=hK
 have HA:Hid (jfh n K 0 n []):=hA
 go_enter Tryz.func65,Tryz.ntmps65
 go_wp2_with (go_at_call 103;refine (jms n _ hn).mono ?_;rintro e w' ⟨rfl,rfl⟩;rw [HK.out])
 clear hK hA
 go_loopw [0,1,6] (fun b x i wr=>∃ (j m:Nat) (g:List Int),j<=K/\m<=n/\x=iv m/\i=iv j/\Hid (jfh n K j m g)/\wr.ownsRow B 5 1 b (xs++g).length ((xs++g).map (Value.int .u8))/\Below B w wr) (fun _ _ i _=>K - (intOf i).toNat)
 case atStart=>exact ⟨0,n,[],Nat.zero_le _,Nat.le_refl _,rfl,rfl,HA,by simpa using hv,Below.refl _ _⟩
 case round =>
  obtain ⟨j,m,g,hj,hm,rfl,rfl,hc,hown,hbel⟩:=hrel
  clear hv
  have hsz:B<=wr.heap.size:=Nat.le_trans hB hbel.size
  have hgl:g.length<=9:=by have:=hc.out.2.1;omega
  have hxg:(xs++g).length<=1009:=by simp;omega
  have HO:Hid (∀ k,u0.ownBlock=some k->B<=k/\k<wr.heap.size):=World.ownsRow.lt hown
  by_cases hjk:j<K
  ·by_cases hlt:m<128
   ·obtain ⟨hlast,hc'⟩:=jpu hc hjk hlt
    have HC:Hid (jfh n K (j+1) (m / 128) (g++[(m:Int)])):=hc'
    have HE:Hid ((m:Int) % 128=m):=by unfold Hid;omega
    have hnot:¬ j<K - 1:=by omega
    clear hc' hc hlast
    go_wp2_with (at_builtin;refine wpList_append_own _ rfl _ _ 92 rfl B 5 i0 (.int .u8 0) 1 1 Tryz.underlying92 hi hz0 hz1 hz2 rfl (by decide) _ _ _ rfl (hown.alloc _) (aq wr.heap.size 0) 1 1 [.int .u8 (↑m % 128)] rfl rfl ?c1 ?c2 ?c3 ?c4 ?c5 ?_)
    case c1=>exact cell_one_new _ _ _
    case c2=>intro u hu;simp at hu;subst hu;rfl
    case c3=>unfold maxLen;omega
    case c4=>omega
    case c5=>simp;omega
    intro v' w1 hown' hgrow _
    clear hown
    go_wp2
    go_roundw
    case rel =>
     refine ⟨j+1,m / 128,g++[(m:Int)],by omega,by omega,by go_num,by go_num,HC,?_,?_⟩
     ·rw [jw4];rw [HE.out] at hown';simpa [Nat.add_assoc] using hown'
     ·exact (hbel.alloc hsz _).grown hgrow (by simp;omega) (fun k hk=>(HO.out k hk).1)
    case measure=>simp [intOf];omega
   ·obtain ⟨hmore,hc'⟩:=jqb hc hjk hlt
    have HC:Hid (jfh n K (j+1) (m / 128) (g++[((m % 128+128:Nat):Int)])):=hc'
    have hyes:(j:Int)<(K:Int) - 1:=by omega
    clear hc' hc hmore
    go_wp2_with (at_builtin;refine wpList_append_own _ rfl _ _ 92 rfl B 5 i0 (.int .u8 0) 1 1 Tryz.underlying92 hi hz0 hz1 hz2 rfl (by decide) _ _ _ rfl (hown.alloc _) (aq wr.heap.size 0) 1 1 [.int .u8 (↑m % 128+128)] rfl rfl ?c1 ?c2 ?c3 ?c4 ?c5 ?_)
    case c1=>exact cell_one_new _ _ _
    case c2=>intro u hu;simp at hu;subst hu;rfl
    case c3=>unfold maxLen;omega
    case c4=>omega
    case c5=>simp;omega
    intro v' w1 hown' hgrow _
    clear hown
    go_wp2
    go_roundw
    case rel =>
     refine ⟨j+1,m / 128,g++[((m % 128+128:Nat):Int)],by omega,by omega,by go_num,by go_num,HC,?_,?_⟩
     ·rw [jw4];simpa [Nat.add_assoc] using hown'
     ·exact (hbel.alloc hsz _).grown hgrow (by simp;omega) (fun k hk=>(HO.out k hk).1)
    case measure=>simp [intOf];omega
  ·have HE:Hid (jcn n=g):=hc.out.2.2.2 (by omega)
   go_wp2
   go_ret
   exact ⟨_,rfl,by rw [HE.out];exact hown,hbel⟩
theorem jbn {B:Nat} {W w1:World} (hb:Below B W w1) (b o:Nat) (h:b<B):w1.cell? (aq b o)=W.cell? (aq b o):=hb.cell (p:=(aq b o)) h
theorem jow:jcn 0=[0]:=by first|rfl|(simp [jcn,jm8])
theorem jxf (v:Value) (xs:List Int) (z:Int) (B:Nat) (w:World) (hz:z<0) (hB:B<=w.heap.size) (hx:xs.length<=1000) (hv:w.ownsRow B 5 1 v xs.length (xs.map (Value.int .u8))) :
 Calls Tryz.prog 65 #[v,iv z] w fun e w'=>∃ v',e=.returned v'/\w'.ownsRow B 5 1 v' (xs++[0]).length ((xs++[0]).map (Value.int .u8))/\Below B w w':=by
 obtain ⟨i0,hi,hz0,hz1,hz2⟩:=info_parts Tryz.infoU8
 have hG:Hid (∀ W,Calls Tryz.prog 103 #[iv 0] W fun e w'=>e=.returned (iv 1)/\W=w'):=fun W=>by
  have:=jms 0 W (by omega)
  rw [jow] at this
  exact this
 go_enter Tryz.func65,Tryz.ntmps65
 go_wp2_with (go_at_call 103;refine (hG.out _).mono ?_;rintro e w' ⟨rfl,rfl⟩)
 go_loopw [0,1,6] (fun b x i wr=>∃ (j:Nat) (g:List Int),x=iv 0/\i=iv j/\((j=0/\g=[])\/(j=1/\g=[0]))/\wr.ownsRow B 5 1 b (xs++g).length ((xs++g).map (Value.int .u8))/\Below B w wr) (fun _ _ i _=>1 - (intOf i).toNat)
 case atStart=>exact ⟨0,[],rfl,rfl,.inl ⟨rfl,rfl⟩,by simpa using hv,Below.refl _ _⟩
 case round =>
  obtain ⟨j,g,rfl,rfl,hjg,hown,hbel⟩:=hrel
  clear hv
  have hsz:B<=wr.heap.size:=Nat.le_trans hB hbel.size
  have HO:Hid (∀ k,u0.ownBlock=some k->B<=k/\k<wr.heap.size):=World.ownsRow.lt hown
  rcases hjg with ⟨rfl,rfl⟩|⟨rfl,rfl⟩
  ·rw [List.append_nil] at hown
   go_wp2_with (at_builtin;refine wpList_append_own _ rfl _ _ 92 rfl B 5 i0 (.int .u8 0) 1 1 Tryz.underlying92 hi hz0 hz1 hz2 rfl (by decide) _ _ _ rfl (hown.alloc _) (aq wr.heap.size 0) 1 1 [.int .u8 0] rfl rfl ?c1 ?c2 ?c3 ?c4 ?c5 ?_)
   case c1=>exact cell_one_new _ _ _
   case c2=>intro u hu;simp at hu;subst hu;rfl
   case c3=>unfold maxLen;omega
   case c4=>omega
   case c5=>simp;omega
   intro v' w1 hown' hgrow _
   clear hown
   go_wp2
   go_roundw
   case rel =>
    refine ⟨1,[0],rfl,by go_num,.inr ⟨rfl,rfl⟩,?_,?_⟩
    ·simpa [Nat.add_assoc] using hown'
    ·exact (hbel.alloc hsz _).grown hgrow (by simp;omega) (fun k hk=>(HO.out k hk).1)
   case measure=>simp [intOf]
  ·go_wp2
   go_ret
   exact ⟨_,rfl,hown,hbel⟩
theorem je7 (v:Value) (xs:List Int) (z:Int) (B:Nat) (w:World) (hz:z<9223372036854775808) (hB:B<=w.heap.size) (hx:xs.length<=1000) (hv:w.ownsRow B 5 1 v xs.length (xs.map (Value.int .u8))) :
 Calls Tryz.prog 65 #[v,iv z] w fun e w'=>∃ v',e=.returned v'/\w'.ownsRow B 5 1 v' (xs++jcn z.toNat).length ((xs++jcn z.toNat).map (Value.int .u8))/\Below B w w':=by
 by_cases h0:z<0
 ·have e:z.toNat=0:=by omega
  rw [e,jow]
  exact jxf v xs z B w h0 hB hx hv
 ·have:=jvk v xs z.toNat B w (by omega) hB hx hv
  rw [show ((z.toNat:Nat):Int)=z by omega] at this
  exact this
theorem jxi (t c u o:Int) (w:World) (ht:t<9223372036854775808) (hc:c<9223372036854775808) (hu:u<9223372036854775808) :
 Calls Tryz.prog 34 #[.agg #[iv 1,iv t,iv c,iv u,iv o]] w fun e w'=>∃ v,e=.returned v/\w'.ownsRow w.heap.size 5 1 v (jak 1 [t,c,u]).length ((jak 1 [t,c,u]).map (Value.int .u8))/\Below w.heap.size w w':=by
 have lt:=jd3 (show t.toNat<9223372036854775808 by omega)
 have lc:=jd3 (show c.toNat<9223372036854775808 by omega)
 have lu:=jd3 (show u.toNat<9223372036854775808 by omega)
 go_enter Tryz.func34,Tryz.ntmps34
 go_wp2_with fail
 refine (je7 _ ([(1:Int)]) t (w.heap.size+1) _ ht (by simp) (by simp<;>omega) (jh8 (by simp) (.int .u8 1))).mono ?_
 rintro e w0 ⟨v0,rfl,h0,b0⟩
 have s0:w.heap.size+1<=w0.heap.size:=Nat.le_trans (by simp) b0.size
 have k00:w0.cell? (aq w.heap.size 0)=some (iv 1):=(jbn b0 _ _ (by omega)).trans (by simp [go_sem])
 have k01:w0.cell? (aq w.heap.size 1)=some (iv t):=(jbn b0 _ _ (by omega)).trans (by simp [go_sem])
 have k02:w0.cell? (aq w.heap.size 2)=some (iv c):=(jbn b0 _ _ (by omega)).trans (by simp [go_sem])
 have k03:w0.cell? (aq w.heap.size 3)=some (iv u):=(jbn b0 _ _ (by omega)).trans (by simp [go_sem])
 have k04:w0.cell? (aq w.heap.size 4)=some (iv o):=(jbn b0 _ _ (by omega)).trans (by simp [go_sem])
 go_wp2_with fail
 refine (je7 _ ([(1:Int)]++jcn t.toNat) c (w.heap.size+1) _ hc s0 (by simp<;>omega) h0).mono ?_
 rintro e w1 ⟨v1,rfl,h1,b1⟩
 have s1:w.heap.size+1<=w1.heap.size:=Nat.le_trans s0 b1.size
 have k10:w1.cell? (aq w.heap.size 0)=some (iv 1):=(jbn b1 _ _ (by omega)).trans k00
 have k11:w1.cell? (aq w.heap.size 1)=some (iv t):=(jbn b1 _ _ (by omega)).trans k01
 have k12:w1.cell? (aq w.heap.size 2)=some (iv c):=(jbn b1 _ _ (by omega)).trans k02
 have k13:w1.cell? (aq w.heap.size 3)=some (iv u):=(jbn b1 _ _ (by omega)).trans k03
 have k14:w1.cell? (aq w.heap.size 4)=some (iv o):=(jbn b1 _ _ (by omega)).trans k04
 clear k00 k01 k02 k03 k04
 go_wp2_with fail
 refine (je7 _ ([(1:Int)]++jcn t.toNat++jcn c.toNat) u (w.heap.size+1) _ hu s1 (by simp<;>omega) h1).mono ?_
 rintro e w2 ⟨v2,rfl,h2,b2⟩
 go_wp2_with fail
 go_ret
 refine ⟨_,rfl,?_,?_⟩
 ·have e:jak 1 [t,c,u]=[(1:Int)]++jcn t.toNat++jcn c.toNat++jcn u.toNat:=by simp [jak]
  rw [e];exact jg5 h2 (by omega)
 ·exact ((((show Below w.heap.size w _ from bL)).trans (b0.mono (by omega))).trans (b1.mono (by omega))).trans (b2.mono (by omega))
theorem juy (t c u o:Int) (w:World) (hc:c<9223372036854775808) (ho:o<9223372036854775808) :
 Calls Tryz.prog 34 #[.agg #[iv 4,iv t,iv c,iv u,iv o]] w fun e w'=>∃ v,e=.returned v/\w'.ownsRow w.heap.size 5 1 v (jak 4 [c,o]).length ((jak 4 [c,o]).map (Value.int .u8))/\Below w.heap.size w w':=by
 have lc:=jd3 (show c.toNat<9223372036854775808 by omega)
 have lo:=jd3 (show o.toNat<9223372036854775808 by omega)
 go_enter Tryz.func34,Tryz.ntmps34
 go_wp2_with fail
 refine (je7 _ ([(4:Int)]) c (w.heap.size+1) _ hc (by simp) (by simp<;>omega) (jh8 (by simp) (.int .u8 4))).mono ?_
 rintro e w0 ⟨v0,rfl,h0,b0⟩
 have s0:w.heap.size+1<=w0.heap.size:=Nat.le_trans (by simp) b0.size
 have k00:w0.cell? (aq w.heap.size 0)=some (iv 4):=(jbn b0 _ _ (by omega)).trans (by simp [go_sem])
 have k01:w0.cell? (aq w.heap.size 1)=some (iv t):=(jbn b0 _ _ (by omega)).trans (by simp [go_sem])
 have k02:w0.cell? (aq w.heap.size 2)=some (iv c):=(jbn b0 _ _ (by omega)).trans (by simp [go_sem])
 have k03:w0.cell? (aq w.heap.size 3)=some (iv u):=(jbn b0 _ _ (by omega)).trans (by simp [go_sem])
 have k04:w0.cell? (aq w.heap.size 4)=some (iv o):=(jbn b0 _ _ (by omega)).trans (by simp [go_sem])
 go_wp2_with fail
 refine (je7 _ ([(4:Int)]++jcn c.toNat) o (w.heap.size+1) _ ho s0 (by simp<;>omega) h0).mono ?_
 rintro e w1 ⟨v1,rfl,h1,b1⟩
 go_wp2_with fail
 go_ret
 refine ⟨_,rfl,?_,?_⟩
 ·have e:jak 4 [c,o]=[(4:Int)]++jcn c.toNat++jcn o.toNat:=by simp [jak]
  rw [e];exact jg5 h1 (by omega)
 ·exact (((show Below w.heap.size w _ from bL)).trans (b0.mono (by omega))).trans (b1.mono (by omega))
theorem jv2 (k t c u o:Int) (w:World) (hk0:0<=k) (hk1:k<256) (hk2:k≠1) (hk3:k≠4) (ht:t<9223372036854775808) (hc:c<9223372036854775808) (ho:o<9223372036854775808) :
 Calls Tryz.prog 34 #[.agg #[iv k,iv t,iv c,iv u,iv o]] w fun e w'=>∃ v,e=.returned v/\w'.ownsRow w.heap.size 5 1 v (jak k [t,c,o]).length ((jak k [t,c,o]).map (Value.int .u8))/\Below w.heap.size w w':=by
 have lt:=jd3 (show t.toNat<9223372036854775808 by omega)
 have lc:=jd3 (show c.toNat<9223372036854775808 by omega)
 have lo:=jd3 (show o.toNat<9223372036854775808 by omega)
 have hw8:IntKind.u8.wrap k=k:=by unfold IntKind.wrap;simp [IntKind.signed,IntKind.bits];omega
 have e1:(k==1)=false:=by simpa using hk2
 have e4:(k==4)=false:=by simpa using hk3
 go_enter Tryz.func34,Tryz.ntmps34
 go_wp2_with fail
 refine (je7 _ ([(k:Int)]) t (w.heap.size+1) _ ht (by simp) (by simp<;>omega) (jh8 (by simp) (.int .u8 k))).mono ?_
 rintro e w0 ⟨v0,rfl,h0,b0⟩
 have s0:w.heap.size+1<=w0.heap.size:=Nat.le_trans (by simp) b0.size
 have k00:w0.cell? (aq w.heap.size 0)=some (iv k):=(jbn b0 _ _ (by omega)).trans (by simp [go_sem])
 have k01:w0.cell? (aq w.heap.size 1)=some (iv t):=(jbn b0 _ _ (by omega)).trans (by simp [go_sem])
 have k02:w0.cell? (aq w.heap.size 2)=some (iv c):=(jbn b0 _ _ (by omega)).trans (by simp [go_sem])
 have k03:w0.cell? (aq w.heap.size 3)=some (iv u):=(jbn b0 _ _ (by omega)).trans (by simp [go_sem])
 have k04:w0.cell? (aq w.heap.size 4)=some (iv o):=(jbn b0 _ _ (by omega)).trans (by simp [go_sem])
 go_wp2_with fail
 refine (je7 _ ([(k:Int)]++jcn t.toNat) c (w.heap.size+1) _ hc s0 (by simp<;>omega) h0).mono ?_
 rintro e w1 ⟨v1,rfl,h1,b1⟩
 have s1:w.heap.size+1<=w1.heap.size:=Nat.le_trans s0 b1.size
 have k10:w1.cell? (aq w.heap.size 0)=some (iv k):=(jbn b1 _ _ (by omega)).trans k00
 have k11:w1.cell? (aq w.heap.size 1)=some (iv t):=(jbn b1 _ _ (by omega)).trans k01
 have k12:w1.cell? (aq w.heap.size 2)=some (iv c):=(jbn b1 _ _ (by omega)).trans k02
 have k13:w1.cell? (aq w.heap.size 3)=some (iv u):=(jbn b1 _ _ (by omega)).trans k03
 have k14:w1.cell? (aq w.heap.size 4)=some (iv o):=(jbn b1 _ _ (by omega)).trans k04
 clear k00 k01 k02 k03 k04
 go_wp2_with fail
 refine (je7 _ ([(k:Int)]++jcn t.toNat++jcn c.toNat) o (w.heap.size+1) _ ho s1 (by simp<;>omega) h1).mono ?_
 rintro e w2 ⟨v2,rfl,h2,b2⟩
 go_wp2_with fail
 go_ret
 refine ⟨_,rfl,?_,?_⟩
 ·have e:jak k [t,c,o]=[(k:Int)]++jcn t.toNat++jcn c.toNat++jcn o.toNat:=by simp [jak]
  rw [e];exact jg5 h2 (by omega)
 ·exact ((((show Below w.heap.size w _ from bL)).trans (b0.mono (by omega))).trans (b1.mono (by omega))).trans (b2.mono (by omega))
def jk3 (k t c u o:Int):List Int:=if k=4 then [c,o] else if k=1 then [t,c,u] else [t,c,o]
theorem jwp (k t c u o:Int) (w:World) (hk0:0<=k) (hk1:k<256) (ht:t<9223372036854775808) (hc:c<9223372036854775808) (hu:u<9223372036854775808) (ho:o<9223372036854775808) :
 Calls Tryz.prog 34 #[.agg #[iv k,iv t,iv c,iv u,iv o]] w fun e w'=>∃ v,e=.returned v/\w'.ownsRow w.heap.size 5 1 v (jak k (jk3 k t c u o)).length ((jak k (jk3 k t c u o)).map (Value.int .u8))/\Below w.heap.size w w':=by
 unfold jk3
 by_cases h4:k=4
 ·subst h4;exact juy t c u o w hc ho
 ·rw [if_neg h4]
  by_cases h1:k=1
  ·subst h1;exact jxi t c u o w ht hc hu
  ·rw [if_neg h1];exact jv2 k t c u o w hk0 hk1 h1 h4 ht hc ho
def jdr (k t:Int):Int:=if k=4 then 0 else t
def jdl (k u:Int):Int:=if k=1 then u else 0
def jdc (k o:Int):Int:=if k=1 then 0 else o
theorem jhv (k t c u o:Int) (w:World) :
 Calls Tryz.prog 39 #[.agg #[iv k,iv t,iv c,iv u,iv o]] w fun e w'=>e=.returned (.agg #[iv k,iv (jdr k t),iv c,iv (jdl k u),iv (jdc k o)])/\Below w.heap.size w w':=by
 by_cases h4:k=4
 ·subst h4
  rw [show jdr 4 t=0 from rfl,show jdl 4 u=0 from rfl,show jdc 4 o=o from rfl]
  go_enter Tryz.func39,Tryz.ntmps39
  go_wp2
  refine bodyPost_ret (v:=.agg #[iv 4,iv 0,iv c,iv 0,iv o]) (by simp [results,Tryz.results39,go_sem]) rfl ⟨rfl,bL⟩
 ·by_cases h1:k=1
  ·subst h1
   rw [show jdr 1 t=t from rfl,show jdl 1 u=u from rfl,show jdc 1 o=0 from rfl]
   go_enter Tryz.func39,Tryz.ntmps39
   go_wp2
   refine bodyPost_ret (v:=.agg #[iv 1,iv t,iv c,iv u,iv 0]) (by simp [results,Tryz.results39,go_sem]) rfl ⟨rfl,bL⟩
  ·rw [show jdr k t=t from if_neg h4,show jdl k u=0 from if_neg h1,show jdc k o=o from if_neg h1]
   have e4:(k==4)=false:=by simpa using h4
   have e1:(k==1)=false:=by simpa using h1
   go_enter Tryz.func39,Tryz.ntmps39
   go_wp2
   refine bodyPost_ret (v:=.agg #[iv k,iv t,iv c,iv 0,iv o]) (by simp [results,Tryz.results39,go_sem]) rfl ⟨rfl,bL⟩
theorem jpf (k t c u o:Int) (w:World) :
 Calls Tryz.prog 32 #[.agg #[iv k,iv t,iv c,iv u,iv o]] w fun e w'=>e=.returned (.bool (decide (0<=k) && decide (k<256)))/\Below w.heap.size w w':=by
 by_cases h0:0<=k
 ·by_cases h1:k<256
  ·have d0:decide (0<=k)=true:=decide_eq_true h0
   have d1:decide (k<256)=true:=decide_eq_true h1
   rw [d0,d1]
   go_enter Tryz.func32,Tryz.ntmps32
   go_wp2
   refine bodyPost_ret (v:=.bool true) (by simp [results,Tryz.results32,go_sem]) rfl ⟨rfl,bL⟩
  ·have d0:decide (0<=k)=true:=decide_eq_true h0
   have d1:decide (k<256)=false:=decide_eq_false h1
   rw [d0,d1]
   go_enter Tryz.func32,Tryz.ntmps32
   go_wp2
   refine bodyPost_ret (v:=.bool false) (by simp [results,Tryz.results32,go_sem]) rfl ⟨rfl,bL⟩
 ·have d0:decide (0<=k)=false:=decide_eq_false h0
  rw [d0]
  go_enter Tryz.func32,Tryz.ntmps32
  go_wp2
  refine bodyPost_ret (v:=.bool false) (by simp [results,Tryz.results32,go_sem]) rfl ⟨rfl,bL⟩
def juw (k o pk po pc pu:Int):Prop :=
 (k=1/\((pk=2/\0<po/\0<pc/\0<pu)\/(pk=3/\0<po/\pc=0/\0<pu)\/((pk=4\/pk=5\/pk=6\/pk=10\/pk=11)/\po=0/\pc=0/\pu=0))) ∨
 (k=2/\((pk=7/\o=po/\0<o/\0<pc/\pu=0)\/((pk=9\/pk=10\/pk=11)/\po=0/\pc=0/\pu=0))) ∨
 (k=3/\((pk=8/\o=po/\0<o/\pc=0/\pu=0)\/((pk=9\/pk=10\/pk=11)/\po=0/\pc=0/\pu=0))) ∨
 (k=4/\((pk=12/\o=po/\0<o/\pc=0/\0<pu)\/(pk=13/\o=po/\0<o/\0<pc/\0<pu)\/(pk=14/\o=po/\0<o/\0<pc/\pu=0)\/((pk=15\/pk=16\/pk=17\/pk=18)/\o=po/\0<o/\pc=0/\pu=0)\/(pk=19/\po=0/\pc=0/\pu=0)))
end Go.Proofs.YtfhncfghblkgeaaGreat
