import Derived.Test.YtfhncfghblkgeabGreatL14
set_option maxRecDepth 100000
set_option maxHeartbeats 2000000
namespace Go.Proofs.YtfhncfghblkgeabGreat
open Go.RowKit
def qJ (w:World) (a:Option Addr) (len cap:Nat) (l:List Int):Prop :=
 l.length=len/\len<=cap/\cap<=maxLen/\(∀ x∈l,0<=x/\x<256)/\(l≠[]->∃ b off,a=some (aq b off)/\b<w.heap.size/\∀ i,i<len->w.cell? (aq b (off+i))=some (.int .u8 (l.getD i 0)))
theorem Pn {k:Nat} (h:k<5):128 ^ k<=268435456:=uX (Nat.pow_le_pow_right uO (show k<=4 by omega)) vO
theorem Sm {a b c d:Int} (h:a=c) (h':b=d):Ending.returned (.tuple #[iv a,iv b])=.returned (.tuple #[iv c,iv d]):=by rw [h,h']
theorem eY (b off len cap:Nat) (l:List Int) (w:World) (hl:l.length=len) (hb:∀ x∈l,0<=x/\x<256) (hcell:∀ i,i<len->w.cell? (aq b (off+i))=some (.int .u8 (l.getD i 0))) :
 Ca 94 #[.slice (some (aq b off)) len cap] w fun e w'=>∃ n k:Nat,e=.returned (.tuple #[iv n,iv k])/\RN l n k/\w=w':=by
 go_enter Tryz.func94,Tryz.ntmps94
 go_wp2
 go_loop [4,5,6] (fun n wt i=>∃ k v W:Nat,k<=len/\k<=5/\n=iv v/\wt=iv W/\i=iv k/\Hid (v=gU (l.take k))/\Hid (W=128 ^ k)/\Hid (Fl (l.take k))) (fun _ _ i=>len - (intOf i).toNat)
 case atStart=>exact ⟨0,0,1,Nat.zero_le _,uO,rfl,rfl,rfl,by simp [Hid,gU],rfl,fun _ h=>by simp at h⟩
 case round =>
  obtain ⟨k,v,W,hk,hk5,rfl,rfl,rfl,hv,hW,hg⟩:=hrel
  by_cases hlt:k<len
  ·by_cases h5:k<5
   ·have hc:=hcell k hlt
    have hxb:=hb (l.getD k 0) (by simp [List.getD,uD (show k<l.length by omega)])
    generalize hx:l.getD k 0=x at hc hxb
    have HX:Hid (l.getD k 0=x):=hx
    clear hx hcell hb
    obtain ⟨hx0,hx1⟩:=hxb
    have hWb:W<=268435456:=by rw [hW.out];exact Pn h5
    have hvb:v<34359738368:=by
     rw [hv.out]
     exact uB (Zm _) (uX (Nat.pow_le_pow_right uO (show (l.take k).length<=5 by simp;omega)) vO)
    obtain ⟨X,rfl⟩:=Int.eq_ofNat_of_zero_le hx0
    have hp0:(0:Int)<=(X:Int) % 128 * (W:Int):=Int.mul_nonneg uO uO
    have hp1:(X:Int) % 128 * (W:Int)<=127 * 268435456:=Int.mul_le_mul uO uO uO uO
    by_cases hz:X=0
    ·subst hz
     by_cases hk0:k=0
     ·subst hk0
      have hv0:v=0:=by rw [hv.out];rfl
      have hW1:W=1:=hW.out
      subst hv0 hW1
      have HR:Hid (RN l (0+0 % 128 * 1) 1):=Tj hv.out hW.out hg.out uO uO HX.out uO (.inl rfl)
      have hc':w.cell? (aq b off)=some (.int .u8 0):=hc
      clear hc hp0 hp1 hvb hWb hx0 hx1 hk hk5 h5
      have hlt':(0:Int)<(len:Int):=uO
      go_wp2
      go_ret2
      exact ⟨0,1,rfl,HR.out,rfl⟩
     ·have hkp:(0:Int)<(k:Int):=uO
      go_wp2
      go_ret2
      exact ⟨0,0,rfl,Sr hg.out uO uO HX.out,rfl⟩
    ·have hz':((X:Int)==0)=false:=by simp;omega
     by_cases h128:X<128
     ·go_wp2
      go_ret2
      exact ⟨v+X % 128 * W,k+1,Sm (by rw [Int.natCast_add,Int.natCast_mul,Int.natCast_emod];rfl) vN,Tj hv.out hW.out hg.out uO h5 HX.out h128 (.inr hz),rfl⟩
     ·go_wp2
      go_round
      case rel=>exact ⟨k+1,v+X % 128 * W,W * 128,uO,uO,by rw [Int.natCast_add,Int.natCast_mul,Int.natCast_emod];rfl,vN,vN,(sI hv.out hW.out uO HX.out).1,(sI hv.out hW.out uO HX.out).2,Tb hg.out uO HX.out uO uO⟩
      case measure=>simp [intOf];omega
   ·have hk5':k=5:=uO
    subst hk5'
    go_wp2
    go_ret2
    exact ⟨0,0,rfl,Vg hg.out (.inr rfl),rfl⟩
  ·have hke:k=len:=uO
   subst hke
   go_wp2
   go_ret2
   exact ⟨0,0,rfl,Vg hg.out (.inl hl.symm),rfl⟩
theorem nI (b off cap:Nat) (x y z:Int) (w:World) (h0:w.cell? (aq b off)=some (iv x)) (h1:w.cell? (aq b (off+1))=some (iv y)) (h2:w.cell? (aq b (off+2))=some (iv z)) :
 Ca 65 #[iv 1,.slice (some (aq b off)) 3 cap] w fun e w'=>e=.returned (.agg #[iv 1,iv x,iv y,iv z,iv 0])/\Below w.heap.size w w':=by
 have hb:b<w.heap.size:=uC w _ h0
 go_enter Tryz.func65,Tryz.ntmps65
 go_wp2
 go_region
 go_wp2
 exact uK (v:=.agg #[iv 1,iv x,iv y,iv z,iv 0]) (by simp [results,Tryz.results65,go_sem]) rfl ⟨rfl,bL⟩
theorem nN (b off cap:Nat) (x y z:Int) (w:World) (h0:w.cell? (aq b off)=some (iv x)) (h1:w.cell? (aq b (off+1))=some (iv y)) (h2:w.cell? (aq b (off+2))=some (iv z)) :
 Ca 65 #[iv 2,.slice (some (aq b off)) 3 cap] w fun e w'=>e=.returned (.agg #[iv 2,iv x,iv y,iv 0,iv z])/\Below w.heap.size w w':=by
 have hb:b<w.heap.size:=uC w _ h0
 go_enter Tryz.func65,Tryz.ntmps65
 go_wp2
 go_region
 go_wp2
 exact uK (v:=.agg #[iv 2,iv x,iv y,iv 0,iv z]) (by simp [results,Tryz.results65,go_sem]) rfl ⟨rfl,bL⟩
theorem nJ (b off cap:Nat) (x y z:Int) (w:World) (h0:w.cell? (aq b off)=some (iv x)) (h1:w.cell? (aq b (off+1))=some (iv y)) (h2:w.cell? (aq b (off+2))=some (iv z)) :
 Ca 65 #[iv 3,.slice (some (aq b off)) 3 cap] w fun e w'=>e=.returned (.agg #[iv 3,iv x,iv y,iv 0,iv z])/\Below w.heap.size w w':=by
 have hb:b<w.heap.size:=uC w _ h0
 go_enter Tryz.func65,Tryz.ntmps65
 go_wp2
 go_region
 go_wp2
 exact uK (v:=.agg #[iv 3,iv x,iv y,iv 0,iv z]) (by simp [results,Tryz.results65,go_sem]) rfl ⟨rfl,bL⟩
theorem gK (b off cap:Nat) (x y:Int) (w:World) (h0:w.cell? (aq b off)=some (iv x)) (h1:w.cell? (aq b (off+1))=some (iv y)) :
 Ca 65 #[iv 4,.slice (some (aq b off)) 2 cap] w fun e w'=>e=.returned (.agg #[iv 4,iv 0,iv x,iv 0,iv y])/\Below w.heap.size w w':=by
 have hb:b<w.heap.size:=uC w _ h0
 go_enter Tryz.func65,Tryz.ntmps65
 go_wp2
 go_region
 go_wp2
 exact uK (v:=.agg #[iv 4,iv 0,iv x,iv 0,iv y]) (by simp [results,Tryz.results65,go_sem]) rfl ⟨rfl,bL⟩
theorem Tryz.infoU8:(Tryz.prog.info? 5).map (fun i=>(i.zero,i.size,i.bytes))=some (some (.int .u8 0),1,1):=by kernel_rfl
theorem jG {w:World} {base base':Nat} {e:TypeId} {size:Nat} {v:Value} {n:Nat} {xs:List Value} (h:w.ownsRow base e size v n xs) (hb:base'<=base):w.ownsRow base' e size v n xs:=by
 refine ⟨h.1,?_⟩
 rcases h.2 with h|⟨g,cap,cur,h1,h2,h3⟩
 ·exact .inl h
 ·exact .inr ⟨g,cap,cur,h1,uX hb h2,h3⟩
theorem rO (w:World) (base:Nat) (e:TypeId) (hb:base<=w.heap.size):(w.alloc (.cells #[] e)).ownsRow base e 1 (.slice (some (aq w.heap.size 0)) 0 0) 0 [] :=
 World.ownsRow_made w #[] 0 hb (Nat.zero_le _) rfl
theorem cM {n m:Nat} {g:List Int} (h:jJ n=g++jJ m) (hm:m<128):jJ n=g++[(m:Int)]:=by rw [h,jC hm]
theorem cK {n m:Nat} {g:List Int} (h:jJ n=g++jJ m) (hm:¬ m<128):jJ n=(g++[((m % 128+128:Nat):Int)])++jJ (m / 128):=by
 rw [h,kK (n:=m) uO];simp
theorem Da (g:List Int) (x:Int):(g++[x]).map (Value.int .u8)=g.map (Value.int .u8)++[.int .u8 x]:=by simp
theorem Kk (n:Nat) (w:World) (hn:n<9223372036854775808) :
 Ca 106 #[iv n] w fun e w'=>∃ v,e=.returned v/\w'.ownsRow w.heap.size 5 1 v (jJ n).length ((jJ n).map (Value.int .u8))/\Below w.heap.size w w':=by
 obtain ⟨i0,hi,hz0,hz1,hz2⟩:=info_parts Tryz.infoU8
 have hl:=kY hn
 generalize hB:w.heap.size=B
 have HB:Hid (w.heap.size=B):=hB
 go_enter Tryz.func106,Tryz.ntmps106
 go_wp2_with fail
 clear hB
 go_loopw [0,3] (fun x v wr=>∃ (m:Nat) (g:List Int),m<=n/\x=iv m/\Hid (jJ n=g++jJ m)/\wr.ownsRow B 5 1 v g.length (g.map (Value.int .u8))/\Below B w wr) (fun x _ _=>(intOf x).toNat)
 case atStart=>exact ⟨n,[],uA _,rfl,rfl,by have:=rO w B 5 (by rw [HB.out];exact uA _);rw [HB.out] at this;exact this,(uM _ _).alloc (by rw [HB.out];exact uA _) _⟩
 case round =>
  obtain ⟨m,g,hm,rfl,hc,hown,hbel⟩:=hrel
  have hsz:B<=wr.heap.size:=by have:=hbel.size;rw [HB.out] at this;exact this
  have hgl:g.length<=9:=by have:=hc.out;rw [this] at hl;simp at hl;omega
  have HO:Hid (∀ k,u3.ownBlock=some k->B<=k/\k<wr.heap.size):=uJ hown
  by_cases hlt:m<128
  ·have hc':Hid (jJ n=g++[(m:Int)]):=cM hc hlt
   clear hc hl
   go_wp2_with (at_builtin;refine wpList_append_own _ rfl _ _ 70 rfl B 5 i0 (.int .u8 0) 1 1 Tryz.underlying70 hi hz0 hz1 hz2 rfl vO _ _ _ rfl (hown.alloc _) (aq wr.heap.size 0) 1 1 [.int .u8 m] rfl rfl ?c1 ?c2 ?c3 ?c4 ?c5 ?_)
   case c1=>exact cell_one_new _ _ _
   case c2=>intro u hu;simp at hu;subst hu;rfl
   case c3=>unfold maxLen;omega
   case c4=>omega
   case c5=>simp;omega
   intro v' w1 hown' hgrow _
   clear hown
   go_wp2
   go_ret
   refine ⟨_,rfl,?_,?_⟩
   ·rw [hc'.out,Da];simpa using hown'
   ·exact (hbel.alloc hsz _).grown hgrow uT (fun k hk=>(HO.out k hk).1)
  ·have hc':Hid (jJ n=(g++[((m % 128+128:Nat):Int)])++jJ (m / 128)):=cK hc hlt
   clear hc hl
   go_wp2_with (at_builtin;refine wpList_append_own _ rfl _ _ 70 rfl B 5 i0 (.int .u8 0) 1 1 Tryz.underlying70 hi hz0 hz1 hz2 rfl vO _ _ _ rfl (hown.alloc _) (aq wr.heap.size 0) 1 1 [.int .u8 (m % 128+128)] rfl rfl ?c1 ?c2 ?c3 ?c4 ?c5 ?_)
   case c1=>exact cell_one_new _ _ _
   case c2=>intro u hu;simp at hu;subst hu;rfl
   case c3=>unfold maxLen;omega
   case c4=>omega
   case c5=>simp;omega
   intro v' w1 hown' hgrow _
   clear hown
   go_wp2
   go_roundw
   case rel =>
    refine ⟨m / 128,g++[((m % 128+128:Nat):Int)],uO,vN,hc',?_,?_⟩
    ·rw [Da];simpa using hown'
    ·exact (hbel.alloc hsz _).grown hgrow uT (fun k hk=>(HO.out k hk).1)
   case measure=>simp [intOf];omega
theorem Yn {W w1:World} (hb:Below W.heap.size W w1):(∀ b o,b<W.heap.size->w1.cell? (aq b o)=W.cell? (aq b o))/\(∀ b o,b<W.heap.size->w1.frozen? (aq b o)=W.frozen? (aq b o)) :=
 ⟨fun b o h=>hb.cell (p:=(aq b o)) h,fun b o h=>hb.frozen (p:=(aq b o)) h⟩
theorem jV (b cap:Nat) (x y z:Int) (w:World) (h0:w.cell? (aq b 0)=some (iv x)) (h1:w.cell? (aq b 1)=some (iv y)) (h2:w.cell? (aq b 2)=some (iv z)) :
 Ca 57 #[.slice (some (aq b 0)) 3 cap] w fun e w'=>e=.returned (.bool ([x,y,z].all yU))/\w=w' :=
 fH b 0 cap [x,y,z] w vS (fun i hi=>by
  match i,hi with
  | 0,_=>simpa using h0
  | 1,_=>simpa using h1
  | 2,_=>simpa using h2)
theorem jF (b:Nat) (x y z:Int) (w:World) (h0:w.cell? (aq b 0)=some (iv x)) (h1:w.cell? (aq b 1)=some (iv y)) (h2:w.cell? (aq b 2)=some (iv z)) :
 Ca 57 #[.slice (some (aq b 0)) 3 3] w fun e w'=>e=.returned (.bool ([x,y,z].all yU))/\w=w':=jV b 3 x y z w h0 h1 h2
theorem gP (b cap:Nat) (x y:Int) (w:World) (h0:w.cell? (aq b 0)=some (iv x)) (h1:w.cell? (aq b 1)=some (iv y)) :
 Ca 57 #[.slice (some (aq b 0)) 2 cap] w fun e w'=>e=.returned (.bool ([x,y].all yU))/\w=w' :=
 fH b 0 cap [x,y] w vS (fun i hi=>by
  match i,hi with
  | 0,_=>simpa using h0
  | 1,_=>simpa using h1)
theorem fA (b:Nat) (x y:Int) (w:World) (h0:w.cell? (aq b 0)=some (iv x)) (h1:w.cell? (aq b 1)=some (iv y)) :
 Ca 57 #[.slice (some (aq b 0)) 2 2] w fun e w'=>e=.returned (.bool ([x,y].all yU))/\w=w':=gP b 2 x y w h0 h1
theorem oO (n:Nat) (w:World) (hn:n<9223372036854775808) :
 Ca 106 #[iv n] w fun e w'=>∃ g cap,e=.returned (.slice (some (aq g 0)) (jJ n).length cap)/\(∀ j u,((jJ n).map (Value.int .u8))[j]?=some u->w'.cell? (((aq g 0):Addr).add j)=some u)/\Below w.heap.size w w':=by
 refine (Kk n w hn).mono ?_
 rintro e w' ⟨v,rfl,hown,hb⟩
 have hp:=dZ n
 rcases hown.2 with ⟨_,h⟩|⟨g,cap,cur,rfl,_⟩
 ·omega
 ·exact ⟨g,cap,rfl,hown.cells rfl,hb⟩
def cE (w:World) (b:Nat) (ns:List Int):Prop:=∀ j,j<ns.length->∃ n:Nat,ns.getD j 0=n/\n<9223372036854775808/\w.cell? (aq b j)=some (iv n)
theorem mJ {x:Int} (h:yU x=true):∃ n:Nat,x=n/\1<=n/\n<=4294967296:=by
 simp [yU] at h
 exact ⟨x.toNat,uO,uO,uO⟩
theorem mG {w:World} {b:Nat} {x y z:Int} (h:[x,y,z].all yU=true) (h0:w.cell? (aq b 0)=some (iv x)) (h1:w.cell? (aq b 1)=some (iv y)) (h2:w.cell? (aq b 2)=some (iv z)):cE w b [x,y,z]:=by
 simp at h
 obtain ⟨n0,e0,_,l0⟩:=mJ h.1
 obtain ⟨n1,e1,_,l1⟩:=mJ h.2.1
 obtain ⟨n2,e2,_,l2⟩:=mJ h.2.2
 intro j hj
 match j,hj with
 | 0,_=>exact ⟨n0,e0,uO,by rw [← e0];exact h0⟩
 | 1,_=>exact ⟨n1,e1,uO,by rw [← e1];exact h1⟩
 | 2,_=>exact ⟨n2,e2,uO,by rw [← e2];exact h2⟩
theorem Of {w:World} {b:Nat} {x y:Int} (h:[x,y].all yU=true) (h0:w.cell? (aq b 0)=some (iv x)) (h1:w.cell? (aq b 1)=some (iv y)):cE w b [x,y]:=by
 simp at h
 obtain ⟨n0,e0,_,l0⟩:=mJ h.1
 obtain ⟨n1,e1,_,l1⟩:=mJ h.2
 intro j hj
 match j,hj with
 | 0,_=>exact ⟨n0,e0,uO,by rw [← e0];exact h0⟩
 | 1,_=>exact ⟨n1,e1,uO,by rw [← e1];exact h1⟩
theorem kC (k:Int) (ns:List Int) (j n:Nat) (h:j<ns.length) (hx:ns.getD j 0=n):qE k (ns.take (j+1))=qE k (ns.take j)++jJ n:=by
 rw [List.take_succ_eq_append_getElem h,Vi]
 simp [List.getD,uD h] at hx
 simp [hx]
theorem xQ (k:Int):∀ (ns:List Int),(∀ j,j<ns.length->∃ n:Nat,ns.getD j 0=n/\n<9223372036854775808)->∀ m,m<=ns.length->(qE k (ns.take m)).length<=1+9 * m
 | ns,h,0,_=>by simp [qE]
 | ns,h,m+1,hm=>by
   obtain ⟨n,hn,hl⟩:=h m uO
   rw [kC k ns m n uO hn,List.length_append]
   have:=xQ k ns h m uO
   have:=kY hl
   omega
theorem xH {w:World} {B:Nat} {e:TypeId} (h:w.heap.size=B) (x:Value):(w.alloc (.cells #[x] e)).ownsRow B e 1 (.slice (some (aq B 0)) 1 1) 1 [x]:=by
 subst h
 exact ⟨rfl,.inr ⟨w.heap.size,1,#[x],rfl,uA _,uF w _,uA _,by unfold maxLen;omega,rfl,rfl⟩⟩
theorem oS {B R:Nat} {W wr w2 w3:World} {fr fr':Value} {xs ys:List Int} (hR:R=wr.heap.size) (hown:wr.ownsRow B 5 1 fr xs.length (xs.map (Value.int .u8))) (hbel:Below B W wr) (hb2:Below R wr w2) (hB:B<=wr.heap.size)
 (hown3:w3.ownsRow B 5 1 fr' (xs.length+ys.length) (xs.map (Value.int .u8)++ys.map (Value.int .u8))) (hg:w2.grownBy w3 fr.ownBlock) :
 w3.ownsRow B 5 1 fr' (xs++ys).length ((xs++ys).map (Value.int .u8))/\Below B W w3:=by
 subst hR
 refine ⟨by simpa using hown3,?_⟩
 exact (hbel.trans (hb2.mono hB)).grown hg (uX hB hb2.size) (fun k hk=>(uJ hown k hk).1)
theorem Tryz.infoInt:(Tryz.prog.info? 3).map (fun i=>(i.zero,i.size,i.bytes))=some (some (iv 0),1,8):=by kernel_rfl
theorem YK:RN [] 0 0:=Vg (k:=0) (fun _ h=>by simp at h) (.inl rfl)
theorem pP (a:Option Addr) (cap:Nat) (w:World) :
 Ca 94 #[.slice a 0 cap] w fun e w'=>∃ n k:Nat,e=.returned (.tuple #[iv n,iv k])/\RN [] n k/\w=w':=by
 go_enter Tryz.func94,Tryz.ntmps94
 go_wp2
 go_loop [4,5,6] (fun _ _ i=>i=iv 0) (fun _ _ _=>0)
 case atStart=>rfl
 case round =>
  subst hrel
  go_wp2
  go_ret2
  exact ⟨0,0,rfl,YK,rfl⟩
theorem pM (a:Option Addr) (len cap:Nat) (l:List Int) (w:World) (h:qJ w a len cap l) :
 Ca 94 #[.slice a len cap] w fun e w'=>∃ n k:Nat,e=.returned (.tuple #[iv n,iv k])/\RN l n k/\w=w':=by
 obtain ⟨hl,hlc,hm,hb,hc⟩:=h
 by_cases h0:l=[]
 ·subst h0
  simp at hl
  subst hl
  exact pP a cap w
 ·obtain ⟨b,off,rfl,_,hcell⟩:=hc h0
  exact eY b off len cap l w hl hb hcell
def yZ (ns:List Nat):List Int:=ns.flatMap jJ
theorem oI:∀ (ns ms:List Nat) (rest:List Int),ns.length<=ms.length->yZ ns++rest=yZ ms->∃ ms',ms=ns++ms'/\rest=yZ ms'
 | [],ms,rest,_,h=>⟨ms,rfl,by simpa [yZ] using h⟩
 | n :: ns,[],rest,hl,_=>by simp at hl
 | n :: ns,m :: ms,rest,hl,h=>by
   have h':jJ n++(yZ ns++rest)=jJ m++yZ ms:=by simpa [yZ,List.append_assoc] using h
   obtain ⟨rfl,h2⟩:=Cj h'
   obtain ⟨ms',rfl,hr⟩:=oI ns ms rest (by simpa using hl) h2
   exact ⟨ms',rfl,hr⟩
theorem wD (ns:List Nat) (n:Nat):yZ (ns++[n])=yZ ns++jJ n:=by simp [yZ]
theorem qM {w w':World} {a:Option Addr} {len cap:Nat} {l:List Int} (h:qJ w a len cap l) (hb:Below w.heap.size w w'):qJ w' a len cap l:=by
 obtain ⟨h1,h2,h3,h4,h5⟩:=h
 refine ⟨h1,h2,h3,h4,fun hn=>?_⟩
 obtain ⟨b,off,ha,hb',hc⟩:=h5 hn
 exact ⟨b,off,ha,uB hb' hb.size,fun i hi=>(hb.cell (p:=(aq b (off+i))) hb').trans (hc i hi)⟩
theorem bT {w:World} {b off len cap k:Nat} {g r:List Int} (h:qJ w (some (aq b off)) len cap (g++r)) (hk:g.length=k):qJ w (if cap=k then some (aq b off) else some (aq b (off+k))) (len - k) (cap - k) r:=by
 obtain ⟨h1,h2,h3,h4,h5⟩:=h
 simp at h1
 refine ⟨uO,uO,uO,fun x hx=>h4 x (by simp [hx]),fun hn=>?_⟩
 have hrl:0<r.length:=List.length_pos_iff.2 hn
 obtain ⟨b',off',ha,hb',hc⟩:=h5 (by simp [hn])
 simp at ha
 obtain ⟨rfl,rfl⟩:=ha
 refine ⟨b,off+k,by rw [uP uO],hb',fun i hi=>?_⟩
 have:=hc (k+i) uO
 rw [Nat.add_assoc,this]
 congr 2
 simp [List.getD,List.getElem?_append_right (show g.length<=k+i by omega)]
 congr 2
 omega
def Ze (ns:List Nat):List Value:=ns.map fun n:Nat=>Value.int .i64 (n:Int)
theorem bF (ns:List Nat) (n:Nat):Ze (ns++[n])=Ze ns++[iv (n:Int)]:=by simp [Ze]
def eH (w':World) (B count:Nat) (l:List Int) (v:Value) (ok:Bool):Prop :=
 (ok=true->∃ ns:List Nat,ns.length=count/\(∀ n∈ns,n<34359738368)/\l=yZ ns/\w'.ownsRow B 3 1 v ns.length (Ze ns)) ∧
 (ok=false->∀ ns:List Nat,ns.length=count->(∀ n∈ns,n<34359738368)->l≠yZ ns)
theorem Se {ns:List Nat} {count:Nat} {l rest:List Int} (hl:l=yZ ns++rest) (hn:ns.length<count) (h:∀ (m:Nat) (r:List Int),m<34359738368->rest≠jJ m++r) :
 ∀ ms:List Nat,ms.length=count->(∀ n∈ms,n<34359738368)->l≠yZ ms:=by
 intro ms hms hb e
 obtain ⟨ms',rfl,hr⟩:=oI ns ms rest uO (hl.symm.trans e)
 match ms' with
 | []=>simp at hms;omega
 | m :: ms'=>exact h m (yZ ms') (hb m vS) (by rw [hr];simp [yZ])
theorem Wa {ns:List Nat} {count:Nat} {l rest:List Int} (hl:l=yZ ns++rest) (hn:ns.length=count) (h:rest≠[]) :
 ∀ ms:List Nat,ms.length=count->(∀ n∈ms,n<34359738368)->l≠yZ ms:=by
 intro ms hms _ e
 obtain ⟨ms',rfl,hr⟩:=oI ns ms rest uO (hl.symm.trans e)
 match ms' with
 | []=>exact h (by rw [hr];rfl)
 | m :: ms'=>simp at hms;omega
theorem gW (a:Option Addr) (len cap count:Nat) (l:List Int) (w:World) (hc:count<=3) (h:qJ w a len cap l) :
 Ca 64 #[.slice a len cap,iv count] w fun e w'=>∃ v ok,e=.returned (.tuple #[v,.bool ok])/\eH w' w.heap.size count l v ok/\Below w.heap.size w w':=by
 obtain ⟨i0,hi,hz0,hz1,hz2⟩:=info_parts Tryz.infoInt
 have HS:Hid (qJ w a len cap l):=h
 clear h
 generalize hB:w.heap.size=B
 have HB:Hid (w.heap.size=B):=hB
 go_enter Tryz.func64,Tryz.ntmps64
 go_wp2_with fail
 clear hB
 go_loopw [0,6,7] (fun b v i wr=>∃ (ns:List Nat) (a':Option Addr) (len' cap':Nat) (rest:List Int),ns.length<=count/\b=.slice a' len' cap'/\i=iv ns.length/\Hid (qJ w a' len' cap' rest)/\Hid (l=yZ ns++rest)/\Hid (∀ n∈ns,n<34359738368)/\wr.ownsRow B 3 1 v ns.length (Ze ns)/\Below B w wr) (fun _ _ i _=>count - (intOf i).toNat)
 case atStart =>
  exact ⟨[],a,len,cap,l,Nat.zero_le _,rfl,rfl,HS,rfl,fun _ h=>by simp at h,by have:=rO w B 3 (by rw [HB.out];exact uA _);rw [HB.out] at this;exact this,(uM _ _).alloc (by rw [HB.out];exact uA _) _⟩
 case round =>
  obtain ⟨ns,a',len',cap',rest,hns,rfl,rfl,hs,hl,hnb,hown,hbel⟩:=hrel
  have hsz:B<=wr.heap.size:=by have:=hbel.size;rw [HB.out] at this;exact this
  by_cases hlt:ns.length<count
  ·go_wp2_with fail
   refine (pM a' len' cap' rest _ (qM hs.out (by rw [HB.out];exact hbel))).mono ?_
   rintro e w1 ⟨n,k,rfl,hrn,rfl⟩
   rcases hrn with ⟨rfl,rfl,hno⟩|⟨r,hn,hk,hr⟩
   ·have HN:Hid (∀ ms:List Nat,ms.length=count->(∀ n∈ms,n<34359738368)->l≠yZ ms):=Se hl hlt hno
    clear hno
    go_wp2
    go_ret2
    exact ⟨_,_,rfl,⟨fun h=>by simp at h,fun _=>HN.out⟩,hbel⟩
   ·have hkp:1<=k:=by rw [hk];exact dZ n
    obtain ⟨hrl,hlc,_,_,hcl⟩:=hs.out
    obtain ⟨b,off,rfl,_,_⟩:=hcl (by rw [hr];have:=dZ n;intro e;have:=congrArg List.length e;simp at this;simp [this.1] at *)
    have hkl:k<=len':=by rw [hr] at hrl;simp at hrl;omega
    have HD:Hid (qJ w (if cap'=k then some (aq b off) else some (aq b (off+k))) (len' - k) (cap' - k) r):=bT (by rw [← hr];exact hs.out) hk.symm
    have HL:Hid (l=yZ (ns++[n])++r):=by unfold Hid;rw [wD,List.append_assoc,← hr];exact hl
    have HNB:Hid (∀ m∈ns++[n],m<34359738368):=by
     intro m hm
     rcases List.mem_append.1 hm with h|h
     ·exact hnb.out m h
     ·simp at h;omega
    have HO:Hid (∀ k,u6.ownBlock=some k->B<=k/\k<wr.heap.size):=uJ hown
    have hcap0:(k:Int)<=(len':Int):=uO
    clear hs hl hr hk hcl hnb hrl
    by_cases hcap:cap'=k
    ·subst hcap
     rw [uQ rfl,show len' - cap'=0 by omega,Nat.sub_self] at HD
     go_wp2_with (at_builtin;refine wpList_append_own _ rfl _ _ 53 rfl B 3 i0 (iv 0) 1 8 Tryz.underlying53 hi hz0 hz1 hz2 rfl vO _ _ _ rfl (hown.alloc _) (aq wr.heap.size 0) 1 1 [iv n] rfl rfl ?c1 ?c2 ?c3 ?c4 ?c5 ?_)
     case c1=>exact cell_one_new _ _ _
     case c2=>intro u hu;simp at hu;subst hu;rfl
     case c3=>unfold maxLen;omega
     case c4=>omega
     case c5=>simp;omega
     intro v' w1 hown' hgrow _
     clear hown
     go_wp2
     go_roundw
     case rel =>
      refine ⟨ns++[n],_,_,_,r,by simp<;>omega,rfl,by simp,HD,HL,HNB,?_,?_⟩
      ·rw [bF];simpa using hown'
      ·exact (hbel.alloc hsz _).grown hgrow uT (fun k hk=>(HO.out k hk).1)
     case measure=>simp [intOf];omega
    ·rw [uP hcap] at HD
     go_wp2_with (at_builtin;refine wpList_append_own _ rfl _ _ 53 rfl B 3 i0 (iv 0) 1 8 Tryz.underlying53 hi hz0 hz1 hz2 rfl vO _ _ _ rfl (hown.alloc _) (aq wr.heap.size 0) 1 1 [iv n] rfl rfl ?c1 ?c2 ?c3 ?c4 ?c5 ?_)
     case c1=>exact cell_one_new _ _ _
     case c2=>intro u hu;simp at hu;subst hu;rfl
     case c3=>unfold maxLen;omega
     case c4=>omega
     case c5=>simp;omega
     intro v' w1 hown' hgrow _
     clear hown
     go_wp2
     go_roundw
     case rel =>
      refine ⟨ns++[n],_,_,_,r,by simp<;>omega,rfl,by simp,HD,HL,HNB,?_,?_⟩
      ·rw [bF];simpa using hown'
      ·exact (hbel.alloc hsz _).grown hgrow uT (fun k hk=>(HO.out k hk).1)
     case measure=>simp [intOf];omega
  ·have hce:ns.length=count:=uO
   have hrl:rest.length=len':=hs.out.1
   by_cases h0:len'=0
   ·have hr0:rest=[]:=List.eq_nil_of_length_eq_zero uO
    subst hr0
    have HL:Hid (l=yZ ns):=by unfold Hid;have:=hl.out;simpa using this
    clear hl hs
    subst h0
    go_wp2
    go_ret2
    exact ⟨_,_,rfl,⟨fun _=>⟨ns,hce,hnb.out,HL.out,hown⟩,fun h=>by simp at h⟩,hbel⟩
   ·have HN:Hid (∀ ms:List Nat,ms.length=count->(∀ n∈ms,n<34359738368)->l≠yZ ms):=Wa hl hce (fun e=>h0 (by rw [← hrl,e];rfl))
    have h0':((len':Int)==0)=false:=by simp;omega
    clear hl hs
    go_wp2
    go_ret2
    exact ⟨_,_,rfl,⟨fun h=>by simp at h,fun _=>HN.out⟩,hbel⟩
