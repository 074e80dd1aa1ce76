import Derived.Test.YtfhncfghblkgeabGreatL16
set_option maxRecDepth 100000
set_option maxHeartbeats 2000000
namespace Go.Proofs.YtfhncfghblkgeabGreat
open Go.RowKit
theorem Md {cur:List Int} {c:Nat} (h:cur.length<=c):gU cur<128 ^ c:=uB (Zm cur) (Nat.pow_le_pow_right uO h)
theorem Rv (b off len cap:Nat) (x0:Int) (tl:List Int) (w:World) (h:qJ w (some (aq b off)) len cap (x0 :: tl)) :
 Ca 109 #[.slice (some (aq b off)) len cap] w fun e w'=>∃ v ms,e=.returned v/\w'.ownsRow w.heap.size 3 1 v ms.length (Ze ms)/\(∀ m∈ms,m<34359738368)/\QG tl ms/\Below w.heap.size w w':=by
 obtain ⟨i0,hi,hz0,hz1,hz2⟩:=info_parts Tryz.infoInt
 have HS:Hid (qJ w (some (aq b off)) len cap (x0 :: tl)):=h
 have hl:tl.length+1=len:=by have:=h.1;simpa using this
 have hlc:len<=cap:=h.2.1
 clear h
 generalize hB:w.heap.size=B
 have HB:Hid (w.heap.size=B):=hB
 go_enter Tryz.func109,Tryz.ntmps109
 go_wp2_with fail
 clear hB
 go_loopw [3,4,5,6] (fun l n f i wr=>∃ (p:Nat) (ms:List Nat) (cur:List Int) (v W:Nat),p<=tl.length/\p<=19/\ms.length<=p/\n=iv v/\f=iv W/\i=iv ((p:Int)+1)/\cur.length<=5/\Hid (v=gU cur)/\Hid (W=128 ^ cur.length)/\Hid (NP tl p ms cur)/\Hid (∀ m∈ms,m<34359738368)/\wr.ownsRow B 3 1 l ms.length (Ze ms)/\Below B w wr) (fun _ _ _ i _=>len+20 - (intOf i).toNat)
 case atStart=>exact ⟨0,[],[],0,1,Nat.zero_le _,uO,uA _,rfl,rfl,rfl,by simp,rfl,rfl,Ci tl,fun _ h=>by simp at h,World.ownsRow_nil _ _ _ _,uM _ _⟩
 case round =>
  obtain ⟨p,ms,cur,v,W,hp,hp19,hmp,rfl,rfl,rfl,hc5,hv,hW,hnp,hmb,hown,hbel⟩:=hrel
  have hBr:B<=wr.heap.size:=by have:=hbel.size;rw [HB.out] at this;exact this
  by_cases hlt:p<tl.length
  ·by_cases h19:p<19
   ·by_cases hc:cur.length<5
    ·have hWb:W<=268435456:=by rw [hW.out];exact Pn hc
     have hvb:v<268435456:=by rw [hv.out];exact uB (Md (c:=4) uO) vO
     have hsl:=qM HS.out (by rw [HB.out];exact hbel)
     have hxb:=hsl.2.2.2.1 (tl.getD p 0) (by simp [List.getD,uD hlt])
     have hcx:wr.cell? (aq b (off+(p+1)))=some (.int .u8 (tl.getD p 0)):=by
      obtain ⟨b',off',hbo,_,hcell⟩:=hsl.2.2.2.2 vS
      simp at hbo
      obtain ⟨rfl,rfl⟩:=hbo
      have:=hcell (p+1) uO
      simpa using this
     generalize hx:tl.getD p 0=x at hcx hxb
     have HX:Hid (tl.getD p 0=x):=hx
     clear hx hsl
     obtain ⟨hx0,hx1⟩:=hxb
     obtain ⟨X,rfl⟩:=Int.eq_ofNat_of_zero_le hx0
     have hp0:(0:Int)<=(X:Int) % 128 * (W:Int):=Int.mul_nonneg uO uO
     have hp1:(X:Int) % 128 * (W:Int)<=127 * 268435456:=Int.mul_le_mul uO uO uO uO
     have HVX:Hid (v+X % 128 * W=gU (cur++[(X:Int)])):=by
      unfold Hid
      rw [lN,hv.out,hW.out]
      have:((X:Int) % 128).toNat=X % 128:=uO
      rw [this]
     have HO:Hid (∀ k,u3.ownBlock=some k->B<=k/\k<wr.heap.size):=uJ hown
     by_cases hlow:X<128
     ·have HNP:Hid (NP tl (p+1) (ms++[v+X % 128 * W]) []):=by unfold Hid;rw [HVX.out];exact YQ hnp.out hlt HX.out uO
      have hnew:v+X % 128 * W<34359738368:=by rw [HVX.out];exact uB (Md (c:=5) uT) vO
      clear hnp
      go_wp2_with (at_builtin;refine wpList_append_own _ rfl _ _ 53 rfl B 3 i0 (iv 0) 1 8 Tryz.underlying53 hi hz0 hz1 hz2 rfl vO _ _ _ rfl (hown.alloc _) (aq wr.heap.size 0) 1 1 [iv (v+X % 128 * W)] rfl rfl ?c1 ?c2 ?c3 ?c4 ?c5 ?_)
      case c1=>exact cell_one_new _ _ _
      case c2=>intro u hu;simp at hu;subst hu;rfl
      case c3=>unfold maxLen;omega
      case c4=>omega
      case c5=>simp;omega
      intro v' w1 hown' hgrow _
      clear hown
      go_wp2
      go_roundw
      case rel =>
       refine ⟨p+1,ms++[v+X % 128 * W],[],0,1,uO,uO,by simp<;>omega,rfl,rfl,vN,by simp,rfl,rfl,HNP,?_,?_,?_⟩
       ·intro m hm
        rcases List.mem_append.1 hm with h|h
        ·exact hmb.out m h
        ·simp at h;omega
       ·rw [bF];simpa using hown'
       ·exact (hbel.alloc hBr _).grown hgrow uT (fun k hk=>(HO.out k hk).1)
      case measure=>simp [intOf];omega
     ·have HNP:Hid (NP tl (p+1) ms (cur++[(X:Int)])):=Sj hnp.out hlt HX.out uO uO
      clear hnp
      go_wp2
      go_roundw
      case rel =>
       exact ⟨p+1,ms,cur++[(X:Int)],v+X % 128 * W,W * 128,uO,uO,uO,by rw [Int.natCast_add,Int.natCast_mul,Int.natCast_emod];rfl,vN,vN,by simp<;>omega,HVX,by unfold Hid;rw [hW.out];simp [Nat.pow_succ],HNP,hmb,hown,hbel⟩
      case measure=>simp [intOf];omega
    ·have hce:cur.length=5:=uO
     have hWe:(268435456:Int)<(W:Int):=by rw [hW.out,hce];decide
     have HR:Hid (QG tl ms):=Sc hnp.out uO
     clear hW hv hnp
     go_wp2
     go_ret
     exact ⟨_,ms,rfl,hown,hmb.out,HR.out,hbel⟩
   ·have HR:Hid (QG tl ms):=ZD uO
    have hpe:p=19:=uO
    subst hpe
    go_wp2
    go_ret
    exact ⟨_,ms,rfl,hown,hmb.out,HR.out,hbel⟩
  ·have hpe:p=tl.length:=uO
   subst hpe
   have HR:Hid (QG tl ms):=YB hnp.out
   have hge:¬ ((tl.length:Int)+1<(len:Int)):=uO
   go_wp2
   go_ret
   first|exact ⟨_,ms,rfl,hown,hmb.out,HR.out,hbel⟩|exact ⟨_,rfl,ms,hown,hmb.out,HR.out,hbel⟩
def iS (w w':World) (n:Nat) (v:Value):Prop :=
 ∃ g cap,v=.slice (some (aq g 0)) (jJ n).length cap/\w'.ownsRow w.heap.size 5 1 v (jJ n).length ((jJ n).map (Value.int .u8))/\Below w.heap.size w w'
theorem sA {w w':World} {n:Nat} {v:Value} (h:w'.ownsRow w.heap.size 5 1 v (jJ n).length ((jJ n).map (Value.int .u8))) (hb:Below w.heap.size w w'):iS w w' n v:=by
 have hp:=dZ n
 rcases h.2 with ⟨_,h0⟩|⟨g,cap,cur,rfl,_⟩
 ·omega
 ·exact ⟨g,cap,rfl,h,hb⟩
theorem wW (n:Nat) (w:World) (hn:n<9223372036854775808) (ih:∀ m,m<n->∀ w',Ca 141 #[iv m] w' fun e w2=>∃ v,e=.returned v/\iS w' w2 m v) :
 Ca 141 #[iv n] w fun e w'=>∃ v,e=.returned v/\iS w w' n v:=by
 have IH:Hid (∀ m,m<n->∀ w',Ca 141 #[iv m] w' fun e w2=>∃ v,e=.returned v/\iS w' w2 m v):=ih
 clear ih
 obtain ⟨i0,hi,hz0,hz1,hz2⟩:=info_parts Tryz.infoU8
 by_cases hlt:n<128
 ·have HC:Hid (jJ n=[(n:Int)]):=jC hlt
  go_enter Tryz.func141,Tryz.ntmps141
  go_wp2
  go_ret
  refine ⟨_,rfl,sA ?_ ((uM _ _).alloc (uA _) _)⟩
  rw [HC.out]
  exact xH rfl _
 ·have HC:Hid (jJ n=((n % 128+128:Nat):Int) :: jJ (n / 128)):=kK uO
  have hl9:(jJ (n / 128)).length<=9:=kY uO
  go_enter Tryz.func141,Tryz.ntmps141
  go_wp2_with fail
  have e128:((n:Int) / 128)=((n / 128:Nat):Int):=uO
  rw [e128]
  refine (IH.out (n / 128) uO _).mono ?_
  rintro e w1 ⟨v1,rfl,g,cap,rfl,hown,b1⟩
  have hg1:=uJ hown g rfl
  have hcells:Hid (∀ j u,((jJ (n / 128)).map (Value.int .u8))[j]?=some u->(w1.alloc (.cells #[.int .u8 ((n:Int) % 128+128)] 5)).cell? (((aq g 0):Addr).add j)=some u):=fun j u hu=>by
   have:=hown.cells (g:=g) rfl j u hu
   rw [Addr.add_lit] at this ⊢
   rw [← this]
   exact uV (a:=(aq g (0+j))) (uE w1 _ g hg1.2)
  have hone:Hid ((w1.alloc (.cells #[.int .u8 ((n:Int) % 128+128)] 5)).ownsRow w.heap.size 5 1 (.slice (some (aq w1.heap.size 0)) 1 1) 1 [.int .u8 ((n:Int) % 128+128)]):=jG (xH rfl _) b1.size
  clear hown e128
  go_wp2_with (at_builtin;refine wpList_append_own _ rfl _ _ 70 rfl w.heap.size 5 i0 (.int .u8 0) 1 1 Tryz.underlying70 hi hz0 hz1 hz2 rfl vO _ _ _ rfl hone.out (aq g 0) _ _ ((jJ (n / 128)).map (Value.int .u8)) rfl vS hcells.out (ints_oneCell _ _) (by unfold maxLen;omega) uO (by have:=b1.size;simp;omega) ?_)
  intro v' w3 hown3 hgrow _
  have hbel:Below w.heap.size w w3:=(b1.alloc b1.size _).grown hgrow (by have:=b1.size;simp;omega) (fun k hk=>by simp [Value.ownBlock] at hk;have:=b1.size;omega)
  clear hgrow hcells hone
  go_wp2
  go_ret
  refine ⟨_,rfl,sA ?_ hbel⟩
  rw [HC.out]
  have e1:1+(jJ (n / 128)).length=(((n % 128+128:Nat):Int) :: jJ (n / 128)).length:=by simp;omega
  rw [← e1]
  simpa using hown3
theorem Xj:∀ (k n:Nat) (w:World),n<=k->n<9223372036854775808->Ca 141 #[iv n] w fun e w'=>∃ v,e=.returned v/\iS w w' n v
 | 0,n,w,h,hn=>wW n w hn (fun m hm=>uO)
 | k+1,n,w,h,hn=>wW n w hn (fun m hm w'=>Xj k m w' uO uO)
theorem wG (n:Nat) (w:World) (hn:n<9223372036854775808) :
 Ca 141 #[iv n] w fun e w'=>∃ g cap,e=.returned (.slice (some (aq g 0)) (jJ n).length cap)/\(∀ j u,((jJ n).map (Value.int .u8))[j]?=some u->w'.cell? (((aq g 0):Addr).add j)=some u)/\Below w.heap.size w w':=by
 refine (Xj n n w (uA _) hn).mono ?_
 rintro e w' ⟨v,rfl,g,cap,rfl,hown,hb⟩
 exact ⟨g,cap,rfl,hown.cells rfl,hb⟩
theorem mN (k:Int) (hk0:0<=k) (hk1:k<256) (ns:List Int) (b cap:Nat) (w:World) (hl:ns.length<=3) (hbw:b<w.heap.size) (hnum:cE w b ns) :
 Ca 108 #[iv k,.slice (some (aq b 0)) ns.length cap] w fun e w'=>∃ v,e=.returned v/\w'.ownsRow w.heap.size 5 1 v (qE k ns).length ((qE k ns).map (Value.int .u8))/\Below w.heap.size w w':=by
 have HNUM:Hid (cE w b ns):=hnum
 clear hnum
 obtain ⟨i0,hi,hz0,hz1,hz2⟩:=info_parts Tryz.infoU8
 generalize hB:w.heap.size=B at *
 have HB:Hid (w.heap.size=B):=hB
 go_enter Tryz.func108,Tryz.ntmps108
 go_wp2_with fail
 clear hB
 go_loopw [5,6] (fun fr i wr=>∃ j:Nat,j<=ns.length/\i=iv j/\wr.ownsRow B 5 1 fr (qE k (ns.take j)).length ((qE k (ns.take j)).map (Value.int .u8))/\Below B w wr) (fun _ i _=>ns.length - (intOf i).toNat)
 case atStart=>exact ⟨0,Nat.zero_le _,rfl,by simpa [qE] using xH HB.out (.int .u8 k),(uM _ _).alloc (Nat.le_of_eq HB.out.symm) _⟩
 case round =>
  obtain ⟨j,hj,rfl,hown,hbel⟩:=hrel
  have hBr:B<=wr.heap.size:=by have:=hbel.size;rw [HB.out] at this;exact this
  by_cases hlt:j<ns.length
  ·obtain ⟨m,hm,hml,hmc⟩:=HNUM.out j hlt
   have hcx:wr.cell? (aq b j)=some (iv m):=(hbel.cell (p:=(aq b j)) hbw).trans hmc
   have hfl:(qE k (ns.take j)).length<=100:=by
    have:=xQ k ns (fun j hj=>let ⟨n,h1,h2,_⟩:=HNUM.out j hj;⟨n,h1,h2⟩) j uO
    omega
   have hcl:=kY hml
   have HF:Hid (qE k (ns.take (j+1))=qE k (ns.take j)++jJ m):=kC k ns j m hlt hm
   clear hm hmc
   generalize hX:qE k (ns.take j)=X at *
   clear hX
   generalize hR:wr.heap.size=R at *
   have HR:Hid (wr.heap.size=R):=hR
   clear hR
   go_wp2_with (first
    | (go_at_call 141;refine (wG m _ hml).mono ?_;rintro e w2 ⟨g,cap,rfl,hgc,hb2⟩)
    | (at_builtin;refine wpList_append_own _ rfl _ _ 70 rfl B 5 i0 (.int .u8 0) 1 1 Tryz.underlying70 hi hz0 hz1 hz2 rfl vO _ _ _ rfl (qH hown hb2 (uA _)) (aq g 0) _ _ ((jJ m).map (Value.int .u8)) rfl vS hgc (ints_oneCell _ _) (by unfold maxLen;omega) uO (by have:=hb2.size;rw [HR.out] at this;omega) ?_))
   intro v' w3 hown3 hgrow _
   have HP:Hid (w3.ownsRow B 5 1 v' (X++jJ m).length ((X++jJ m).map (Value.int .u8))/\Below B w w3):=oS rfl hown hbel hb2 (by rw [HR.out];exact hBr) hown3 hgrow
   clear hown3 hgrow hgc hb2 hown hcx
   go_wp2
   go_roundw
   case rel=>exact ⟨j+1,uO,vN,by rw [HF.out];exact HP.out.1,HP.out.2⟩
   case measure=>simp [intOf];omega
  ·have HE:Hid (ns.take j=ns):=List.take_of_length_le uO
   rw [HE.out] at hown
   go_wp2
   go_ret
   exact ⟨_,rfl,hown,hbel⟩
theorem Ix (n:Int) (w:World) :
 Ca 140 #[iv n,.bool true] w fun e w'=>e=.returned (.bool (yU n))/\w=w':=by
 go_enter Tryz.func140,Tryz.ntmps140
 go_wp2_with (go_at_call 59;refine (dL _ _).mono ?_;rintro e w' ⟨rfl,rfl⟩)
 go_ret
 exact ⟨rfl,rfl⟩
theorem Px (n:Int) (w:World) :
 Ca 140 #[iv n,.bool false] w fun e w'=>e=.returned (.bool (n==0))/\w=w':=by
 go_enter Tryz.func140,Tryz.ntmps140
 go_wp2
 go_ret
 exact ⟨rfl,rfl⟩
def Cl (k:Int):Bool:=decide (1<=k) && decide (k<=3)
def Br (k:Int):Bool:=decide (1<=k) && decide (k<=4)
def Ee (k:Int):Bool:=decide (2<=k) && decide (k<=4)
theorem Bt (k:Int) (w:World) :
 Ca 139 #[iv k] w fun e w'=>e=.returned (.tuple #[.bool (Cl k),.bool (Br k),.bool (k==1),.bool (Ee k)])/\w=w':=by
 by_cases h1:1<=k
 ·by_cases h2:2<=k
  ·go_enter Tryz.func139,Tryz.ntmps139
   go_wp2
   refine uK (v:=.tuple #[.bool (Cl k),.bool (Br k),.bool (k==1),.bool (Ee k)]) (by simp [results,Tryz.results139,go_sem,Cl,Br,Ee,h1,h2]) rfl ⟨rfl,rfl⟩
  ·have d2:decide (2<=k)=false:=by simpa using h2
   go_enter Tryz.func139,Tryz.ntmps139
   go_wp2
   refine uK (v:=.tuple #[.bool (Cl k),.bool (Br k),.bool (k==1),.bool (Ee k)]) (by simp [results,Tryz.results139,go_sem,Cl,Br,Ee,h1,d2]) rfl ⟨rfl,rfl⟩
 ·have d1:decide (1<=k)=false:=by simpa using h1
  have d2:decide (2<=k)=false:=by simp;omega
  go_enter Tryz.func139,Tryz.ntmps139
  go_wp2
  refine uK (v:=.tuple #[.bool (Cl k),.bool (Br k),.bool (k==1),.bool (Ee k)]) (by simp [results,Tryz.results139,go_sem,Cl,Br,Ee,d1,d2]) rfl ⟨rfl,rfl⟩
def ZL (n:Int) (h:Bool):Bool:=if h then yU n else n==0
theorem tA (n:Int):ZL n true=yU n:=rfl
theorem mL (n:Int):ZL n false=(n==0):=rfl
theorem cT (n:Int) (h:Bool) (w:World):Ca 140 #[iv n,.bool h] w fun e w'=>e=.returned (.bool (ZL n h))/\w=w':=by
 cases h
 ·exact Px n w
 ·exact Ix n w
theorem eE (k:Int) (a b c d:Bool) (w:World) (ha:Cl k=a) (hb:Br k=b) (hc:(k==1)=c) (hd:Ee k=d) :
 Ca 139 #[iv k] w fun e w'=>e=.returned (.tuple #[.bool a,.bool b,.bool c,.bool d])/\w=w':=by
 subst ha hb hc hd
 exact Bt k w
theorem eO (k t c u o:Int) (w:World) :
 Ca 107 #[.agg #[iv k,iv t,iv c,iv u,iv o]] w fun e w'=>e=.returned (.bool (QH k t c u o))/\Below w.heap.size w w':=by
 by_cases h1:k=1
 ·subst h1
  go_enter Tryz.func107,Tryz.ntmps107
  go_wp2_with (first
   | (go_at_call 139;refine (eE 1 true true true false _ rfl rfl rfl rfl).mono ?_;rintro e w' ⟨rfl,rfl⟩)
   | (go_at_call 140;refine (cT _ _ _).mono ?_;rintro e w' ⟨rfl,rfl⟩;simp only [tA,mL]))
  all_goals
   go_ret
   refine ⟨?_,(uM _ _).alloc (uA _) _⟩
   simp [QH, *]
 by_cases h2:k=2
 ·subst h2
  go_enter Tryz.func107,Tryz.ntmps107
  go_wp2_with (first
   | (go_at_call 139;refine (eE 2 true true false true _ rfl rfl rfl rfl).mono ?_;rintro e w' ⟨rfl,rfl⟩)
   | (go_at_call 140;refine (cT _ _ _).mono ?_;rintro e w' ⟨rfl,rfl⟩;simp only [tA,mL]))
  all_goals
   go_ret
   refine ⟨?_,(uM _ _).alloc (uA _) _⟩
   simp [QH, *]
 by_cases h3:k=3
 ·subst h3
  go_enter Tryz.func107,Tryz.ntmps107
  go_wp2_with (first
   | (go_at_call 139;refine (eE 3 true true false true _ rfl rfl rfl rfl).mono ?_;rintro e w' ⟨rfl,rfl⟩)
   | (go_at_call 140;refine (cT _ _ _).mono ?_;rintro e w' ⟨rfl,rfl⟩;simp only [tA,mL]))
  all_goals
   go_ret
   refine ⟨?_,(uM _ _).alloc (uA _) _⟩
   simp [QH, *]
 by_cases h4:k=4
 ·subst h4
  go_enter Tryz.func107,Tryz.ntmps107
  go_wp2_with (first
   | (go_at_call 139;refine (eE 4 false true false true _ rfl rfl rfl rfl).mono ?_;rintro e w' ⟨rfl,rfl⟩)
   | (go_at_call 140;refine (cT _ _ _).mono ?_;rintro e w' ⟨rfl,rfl⟩;simp only [tA,mL]))
  all_goals
   go_ret
   refine ⟨?_,(uM _ _).alloc (uA _) _⟩
   simp [QH, *]
 have hb:QH k t c u o=false:=by simp [QH,h1,h2,h3,h4]
 have hC:Hid (Br k=false):=by unfold Hid Br;simp;omega
 generalize hT:Cl k=a
 generalize hU:(k==1)=b
 generalize hO:Ee k=d
 have HH:Hid (∀ w',Ca 139 #[iv k] w' fun e w2=>e=.returned (.tuple #[.bool a,.bool false,.bool b,.bool d])/\w'=w2):=fun w'=>eE k a false b d w' hT hC.out hU hO
 clear hT hU hO
 go_enter Tryz.func107,Tryz.ntmps107
 go_wp2_with (go_at_call 139;refine (HH.out _).mono ?_;rintro e w' ⟨rfl,rfl⟩)
 go_ret
 exact ⟨by rw [hb];rfl,(uM _ _).alloc (uA _) _⟩
theorem Fm (t c u o:Int) (w:World) (hn:[t,c,u].all yU=false) :
 Ca 74 #[.agg #[iv 1,iv t,iv c,iv u,iv o]] w fun e w'=>e=.returned (.tuple #[.slice none 0 0,iv 2])/\Below w.heap.size w w':=by
 have HN:Hid ([t,c,u].all yU=false):=hn
 clear hn
 go_enter Tryz.func74,Tryz.ntmps74
 go_wp2_with (first
  | (go_at_call 63;refine (dF t c u o _).mono ?_;rintro e w' ⟨rfl,rfl⟩)
  | (go_at_call 57;refine (jF _ t c u _ uU uU uU).mono ?_;rintro e w' ⟨rfl,rfl⟩;rw [HN.out]))
 go_ret2
 exact ⟨rfl,bL⟩
theorem Ji (t c u o:Int) (w:World) (hn:[t,c,u].all yU=true) (ho:(o==0)=false) :
 Ca 74 #[.agg #[iv 1,iv t,iv c,iv u,iv o]] w fun e w'=>e=.returned (.tuple #[.slice none 0 0,iv 2])/\Below w.heap.size w w':=by
 have HN:Hid ([t,c,u].all yU=true):=hn
 have ho':(0==o)=false:=by simp at ho ⊢;omega
 clear hn
 go_enter Tryz.func74,Tryz.ntmps74
 go_wp2_with (first
  | (go_at_call 63;refine (dF t c u o _).mono ?_;rintro e w' ⟨rfl,rfl⟩)
  | (go_at_call 57;refine (jF _ t c u _ uU uU uU).mono ?_;rintro e w' ⟨rfl,rfl⟩;rw [HN.out]))
 go_region_held3 (fun w'=>w'.cell? (aq w.heap.size 0)=some (iv 1)/\w'.cell? (aq w.heap.size 1)=some (iv t)/\w'.cell? (aq w.heap.size 2)=some (iv c)/\w'.cell? (aq w.heap.size 3)=some (iv u)/\w'.cell? (aq w.heap.size 4)=some (iv o)) (simp [go_sem,World.cell?_alloc_past, *])
  (first
    | (go_at_call 65;refine (nI _ 0 3 t c u _ uU uU uU).mono ?_;rintro e w' ⟨rfl,hb⟩;obtain ⟨hc,hf⟩:=Yn hb))
 go_wp2
 go_ret2
 exact ⟨rfl,by repeat (first|exact uM _ _|refine Below.drew ?_|refine Below.alloc ?_ (by first|exact uA _|(simp<;>omega)) _|refine uL ?_ (hb.mono uS))⟩
theorem Lg (t c u:Int) (w:World) (hn:[t,c,u].all yU=true) :
 Ca 74 #[.agg #[iv 1,iv t,iv c,iv u,iv 0]] w fun e w'=>∃ v,e=.returned (.tuple #[v,iv 0])/\w'.ownsRow w.heap.size 5 1 v (qE 1 [t,c,u]).length ((qE 1 [t,c,u]).map (Value.int .u8))/\Below w.heap.size w w':=by
 have HN:Hid ([t,c,u].all yU=true):=hn
 clear hn
 obtain ⟨i0,hi,hz0,hz1,hz2⟩:=info_parts Tryz.infoU8
 go_enter Tryz.func74,Tryz.ntmps74
 go_wp2_with (first
  | (go_at_call 63;refine (dF t c u 0 _).mono ?_;rintro e w' ⟨rfl,rfl⟩)
  | (go_at_call 57;refine (jF _ t c u _ uU uU uU).mono ?_;rintro e w' ⟨rfl,rfl⟩;rw [HN.out]))
 go_region_held3 (fun w'=>w'.cell? (aq w.heap.size 0)=some (iv 1)/\w'.cell? (aq w.heap.size 1)=some (iv t)/\w'.cell? (aq w.heap.size 2)=some (iv c)/\w'.cell? (aq w.heap.size 3)=some (iv u)/\w'.cell? (aq w.heap.size 4)=some (iv 0)) (simp [go_sem,World.cell?_alloc_past, *])
  (first
    | (go_at_call 65;refine (nI _ 0 3 t c u _ uU uU uU).mono ?_;rintro e w' ⟨rfl,hb⟩;obtain ⟨hc,hf⟩:=Yn hb))
 have hnum:Hid (cE w' (w.heap.size+1+1) [t,c,u]):=mG HN.out (by rw [hc _ _ uS];simp [go_sem]) (by rw [hc _ _ uS];simp [go_sem]) (by rw [hc _ _ uS];simp [go_sem])
 have hk:w'.cell? (aq w.heap.size 0)=some (iv 1):=by rw [hc _ _ uS];simp [go_sem]
 have hsz:w.heap.size+2<w'.heap.size:=by have:=hb.size;simp at this;omega
 have hw0:Below w.heap.size w w':=by repeat (first|exact uM _ _|refine Below.drew ?_|refine Below.alloc ?_ (by first|exact uA _|(simp<;>omega)) _|refine uL ?_ (hb.mono uS))
 clear hb hc hf
 rename_i hHeld
 clear hHeld
 generalize hb0:w.heap.size=b0 at *
 have HB0:Hid (w.heap.size=b0):=hb0
 clear hb0
 go_wp2_with fail
 generalize hB:w'.heap.size=B at *
 have HB:Hid (w'.heap.size=B):=hB
 clear hB
 go_loopw [5,6] (fun fr i wr=>∃ j:Nat,j<=3/\i=iv j/\wr.ownsRow B 5 1 fr (qE 1 ([t,c,u].take j)).length ((qE 1 ([t,c,u].take j)).map (Value.int .u8))/\Below B w' wr) (fun _ i _=>3 - (intOf i).toNat)
 case atStart=>exact ⟨0,Nat.zero_le _,rfl,xH HB.out _,(uM _ _).alloc (Nat.le_of_eq HB.out.symm) _⟩
 case round =>
  obtain ⟨j,hj,rfl,hown,hbel⟩:=hrel
  have hBr:B<=wr.heap.size:=by have:=hbel.size;rw [HB.out] at this;exact this
  by_cases hlt:j<3
  ·obtain ⟨m,hm,hml,hmc⟩:=hnum.out j hlt
   have hcx:wr.cell? (aq (b0+1+1) j)=some (iv m):=(hbel.cell (p:=(aq (b0+1+1) j)) (by show b0+1+1<B;omega)).trans hmc
   have hfl:(qE 1 ([t,c,u].take j)).length<=100:=by
    have:=xQ 1 [t,c,u] (fun j hj=>let ⟨n,h1,h2,_⟩:=hnum.out j hj;⟨n,h1,h2⟩) j uT
    omega
   have hcl:=kY hml
   have HF:Hid (qE 1 ([t,c,u].take (j+1))=qE 1 ([t,c,u].take j)++jJ m):=kC 1 [t,c,u] j m hlt hm
   clear hm hmc
   generalize hX:qE 1 ([t,c,u].take j)=X at *
   clear hX
   generalize hR:wr.heap.size=R at *
   have HR:Hid (wr.heap.size=R):=hR
   clear hR
   go_wp2_with (first
    | (go_at_call 106;refine (oO m _ hml).mono ?_;rintro e w2 ⟨g,cap,rfl,hgc,hb2⟩)
    | (at_builtin;refine wpList_append_own _ rfl _ _ 70 rfl B 5 i0 (.int .u8 0) 1 1 Tryz.underlying70 hi hz0 hz1 hz2 rfl vO _ _ _ rfl (qH hown hb2 (uA _)) (aq g 0) _ _ ((jJ m).map (Value.int .u8)) rfl vS hgc (ints_oneCell _ _) (by unfold maxLen;omega) uO (by have:=hb2.size;rw [HR.out] at this;omega) ?_))
   intro v' w3 hown3 hgrow _
   have HP:Hid (w3.ownsRow B 5 1 v' (X++jJ m).length ((X++jJ m).map (Value.int .u8))/\Below B w' w3):=oS rfl hown hbel hb2 (by rw [HR.out];exact hBr) hown3 hgrow
   clear hown3 hgrow hgc hb2 hown hcx
   go_wp2
   go_roundw
   case rel=>exact ⟨j+1,uO,vN,by rw [HF.out];exact HP.out.1,HP.out.2⟩
   case measure=>simp [intOf];omega
  ·have hj3:j=3:=uO
   subst hj3
   go_wp2
   go_ret2
   rw [HB0.out]
   exact ⟨_,rfl,jG hown uO,hw0.trans (hbel.mono uO)⟩
