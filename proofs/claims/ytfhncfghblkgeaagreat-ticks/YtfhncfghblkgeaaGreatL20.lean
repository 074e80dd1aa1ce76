import Derived.Test.YtfhncfghblkgeaaGreatL19
set_option maxRecDepth 100000
set_option maxHeartbeats 2000000
namespace Go.Proofs.YtfhncfghblkgeaaGreat
open Go.RowKit
def UN (l:List Int) (k t c u o err:Int):Prop :=
 (err=0/\isB k t c u o=true/\l=ja8 k (jaj k t c u o)) ∨
 (err=2/\k=0/\t=0/\c=0/\u=0/\o=0/\∀ k t c u o:Int,isB k t c u o=true->l≠ja8 k (jaj k t c u o))
theorem je4 {w:World} {b off len cap:Nat} {x:Int} {tl:List Int} (h:ja6 w (some (aq b off)) len cap (x :: tl)) :
 1<=len/\len<=cap/\cap<=maxLen/\w.cell? (aq b off)=some (.int .u8 x)/\ja6 w (if cap=1 then some (aq b off) else some (aq b (off+1))) (len - 1) (cap - 1) tl:=by
 have hd:=jks (g:=[x]) (r:=tl) (k:=1) h rfl
 obtain ⟨h1,h2,h3,h4,h5⟩:=h
 simp at h1
 obtain ⟨b',off',ha,hb',hc⟩:=h5 (by simp)
 simp at ha
 obtain ⟨rfl,rfl⟩:=ha
 exact ⟨by omega,h2,h3,by simpa using hc 0 (by omega),hd⟩
theorem jcy (a:Option Addr) (len cap:Nat) (l:List Int) (w:World) (h:ja6 w a len cap l) :
 Calls Tryz.prog 97 #[.slice a len cap,iv 3] w fun e w'=>∃ v ok,e=.returned (.tuple #[v,.bool ok])/\jm3 w' w.heap.size 3 l v ok/\Below w.heap.size w w' :=
 jgl a len cap 3 l w (by omega) h
theorem jjk (a:Option Addr) (len cap:Nat) (l:List Int) (w:World) (h:ja6 w a len cap l) :
 Calls Tryz.prog 97 #[.slice a len cap,iv 2] w fun e w'=>∃ v ok,e=.returned (.tuple #[v,.bool ok])/\jm3 w' w.heap.size 2 l v ok/\Below w.heap.size w w' :=
 jgl a len cap 2 l w (by omega) h
theorem jab {B b:Nat} {w w2:World} {v0 v1 v2 v3 v4:Value} (h:Below B w w2) (hb:B<=b) :
 Below B w (((((w2.setCell (aq b 0) v0).setCell (aq b 1) v1).setCell (aq b 2) v2).setCell (aq b 3) v3).setCell (aq b 4) v4) :=
 ((((h.setCell (p:=(aq b 0)) hb v0).setCell (p:=(aq b 1)) hb v1).setCell (p:=(aq b 2)) hb v2).setCell (p:=(aq b 3)) hb v3).setCell (p:=(aq b 4)) hb v4
def cnt (k:Int):Nat:=if k=1 then 3 else if k=2\/k=3 then 3 else if k=4 then 2 else 0
theorem jit {k t c u o:Int} (h:isB k t c u o=true):(jaj k t c u o).all jc3=true/\(jaj k t c u o).length=cnt k/\0<cnt k:=by
 unfold isB at h
 unfold jaj cnt
 split at h
 ·next h1=>simp [h1] at h ⊢;simp [h]
 ·next h1 =>
  split at h
  ·next h2=>simp [h1,h2] at h ⊢;simp [h]
  ·next h2 =>
   split at h
   ·next h4=>simp [h4] at h ⊢;simp [h]
   ·simp at h
theorem jo7:∀ (ns:List Int),ns.flatMap (fun n=>jds n.toNat)=jb8 (ns.map Int.toNat)
 | []=>rfl
 | n :: ns=>by
   have:=jo7 ns
   simp only [List.flatMap_cons,List.map_cons,jb8] at this ⊢
   rw [this]
theorem jcd (k:Int) (ns:List Int):ja8 k ns=k :: jb8 (ns.map Int.toNat):=by
 unfold ja8;rw [jo7]
theorem jer:∀ (ns:List Int),ns.all jc3=true->((ns.map Int.toNat).map fun n:Nat=>(n:Int))=ns
 | [],_=>rfl
 | n :: ns,h=>by
   simp at h
   obtain ⟨m,rfl,_,_⟩:=jh3 h.1
   have:=jer ns (by simp;exact h.2)
   simp only [List.map_cons,this]
   simp
theorem jzm {k k' t c u o:Int} {tl:List Int} (h:isB k' t c u o=true) (e:k :: tl=ja8 k' (jaj k' t c u o)) :
 ∃ ns:List Nat,tl=jb8 ns/\ns.length=cnt k/\0<cnt k/\(ns.map fun n:Nat=>(n:Int)).all jc3=true:=by
 obtain ⟨ha,hl,hp⟩:=jit h
 rw [jcd] at e
 simp at e
 obtain ⟨rfl,rfl⟩:=e
 exact ⟨_,rfl,by simpa using hl,hp,by rw [jer _ ha];exact ha⟩
theorem qdc {ns:List Nat} (h:(ns.map fun n:Nat=>(n:Int)).all jc3=true):∀ n∈ns,n<34359738368:=by
 intro n hn
 have:=List.all_eq_true.1 h (n:Int) (List.mem_map.2 ⟨n,hn,rfl⟩)
 simp [jc3] at this
 omega
theorem jro {k:Int} {count:Nat} {tl:List Int} (hc:cnt k=count) (H:∀ ns:List Nat,ns.length=count->(∀ n∈ns,n<34359738368)->tl≠jb8 ns):UN (k :: tl) 0 0 0 0 0 2 :=
 .inr ⟨rfl,rfl,rfl,rfl,rfl,rfl,fun k' t c u o h e=>by
  obtain ⟨ns,h1,h2,_,h4⟩:=jzm h e
  exact H ns (h2.trans hc) (qdc h4) h1⟩
theorem qe0 {k:Int} {tl:List Int} (hc:cnt k=0):UN (k :: tl) 0 0 0 0 0 2 :=
 .inr ⟨rfl,rfl,rfl,rfl,rfl,rfl,fun k' t c u o h e=>by
  obtain ⟨ns,_,_,h3,_⟩:=jzm h e
  omega⟩
theorem qde:UN [] 0 0 0 0 0 2:=.inr ⟨rfl,rfl,rfl,rfl,rfl,rfl,fun k' t c u o _ e=>by simp [ja8] at e⟩
theorem ju6 {k:Int} {ms:List Nat} {tl:List Int} (hc:cnt k=ms.length) (ht:tl=jb8 ms) (hb:(ms.map fun n:Nat=>(n:Int)).all jc3=false):UN (k :: tl) 0 0 0 0 0 2 :=
 .inr ⟨rfl,rfl,rfl,rfl,rfl,rfl,fun k' t c u o h e=>by
  obtain ⟨ns,h1,h2,_,h4⟩:=jzm h e
  obtain ⟨ms',e1,e2⟩:=je8 ms ns [] (by omega) (by rw [← ht,h1];simp)
  have:ms'=[]:=List.eq_nil_of_length_eq_zero (by have:=congrArg List.length e1;simp at this;omega)
  subst this
  simp at e1
  subst e1
  rw [hb] at h4
  simp at h4⟩
theorem qcg {a b c:Nat} {tl:List Int} (ht:tl=jb8 [a,b,c]) (h:[(a:Int),(b:Int),(c:Int)].all jc3=true):UN (1 :: tl) 1 a b c 0 0:=by
 simp at h
 exact .inl ⟨rfl,by simp [isB,h],by rw [jcd,ht];simp [jaj]⟩
theorem qcz {a b c:Nat} {tl:List Int} (ht:tl=jb8 [a,b,c]) (h:[(a:Int),(b:Int),(c:Int)].all jc3=true):UN (2 :: tl) 2 a b 0 c 0:=by
 simp at h
 exact .inl ⟨rfl,by simp [isB,h],by rw [jcd,ht];simp [jaj]⟩
theorem qci {a b c:Nat} {tl:List Int} (ht:tl=jb8 [a,b,c]) (h:[(a:Int),(b:Int),(c:Int)].all jc3=true):UN (3 :: tl) 3 a b 0 c 0:=by
 simp at h
 exact .inl ⟨rfl,by simp [isB,h],by rw [jcd,ht];simp [jaj]⟩
theorem qbg {a b:Nat} {tl:List Int} (ht:tl=jb8 [a,b]) (h:[(a:Int),(b:Int)].all jc3=true):UN (4 :: tl) 4 0 a 0 b 0:=by
 simp at h
 exact .inl ⟨rfl,by simp [isB,h],by rw [jcd,ht];simp [jaj]⟩
theorem jof {w':World} {B:Nat} {l:List Int} {v:Value} (h:jm3 w' B 3 l v true) :
 ∃ (x y z g cap:Nat),l=jb8 [x,y,z]/\v=.slice (some (aq g 0)) 3 cap/\B<=g/\g<w'.heap.size/\w'.cell? (aq g 0)=some (iv x)/\w'.cell? (aq g 1)=some (iv y)/\w'.cell? (aq g 2)=some (iv z):=by
 obtain ⟨ns,hn,_,hl,ho⟩:=h.1 rfl
 match ns,hn with
 | [x,y,z],_ =>
   rcases ho.2 with ⟨_,h0⟩|⟨g,cap,cur,rfl,hg,hh,_⟩
   ·simp at h0
   ·have c0:=ho.cells (g:=g) rfl 0 (iv x) rfl
    have c1:=ho.cells (g:=g) rfl 1 (iv y) rfl
    have c2:=ho.cells (g:=g) rfl 2 (iv z) rfl
    exact ⟨x,y,z,g,cap,hl,rfl,hg,(blt hh),by simpa [Addr.add_lit] using c0,by simpa [Addr.add_lit] using c1,by simpa [Addr.add_lit] using c2⟩
theorem qdl {w':World} {B:Nat} {l:List Int} {v:Value} (h:jm3 w' B 2 l v true) :
 ∃ (x y g cap:Nat),l=jb8 [x,y]/\v=.slice (some (aq g 0)) 2 cap/\B<=g/\g<w'.heap.size/\w'.cell? (aq g 0)=some (iv x)/\w'.cell? (aq g 1)=some (iv y):=by
 obtain ⟨ns,hn,_,hl,ho⟩:=h.1 rfl
 match ns,hn with
 | [x,y],_ =>
   rcases ho.2 with ⟨_,h0⟩|⟨g,cap,cur,rfl,hg,hh,_⟩
   ·simp at h0
   ·have c0:=ho.cells (g:=g) rfl 0 (iv x) rfl
    have c1:=ho.cells (g:=g) rfl 1 (iv y) rfl
    exact ⟨x,y,g,cap,hl,rfl,hg,(blt hh),by simpa [Addr.add_lit] using c0,by simpa [Addr.add_lit] using c1⟩
theorem qag {cur:List Int} {c:Nat} (h:cur.length<=c):jgi cur<128 ^ c:=Nat.lt_of_lt_of_le (jp2 cur) (Nat.pow_le_pow_right (by omega) h)
theorem qaq (b off len cap:Nat) (x0:Int) (tl:List Int) (w:World) (h:ja6 w (some (aq b off)) len cap (x0 :: tl)) :
 Calls Tryz.prog 109 #[.slice (some (aq b off)) len cap] w fun e w'=>∃ v ms,e=.returned v/\w'.ownsRow w.heap.size 3 1 v ms.length (jpk ms)/\(∀ m∈ms,m<34359738368)/\RNS tl ms/\Below w.heap.size w w':=by
 obtain ⟨i0,hi,hz0,hz1,hz2⟩:=info_parts Tryz.infoInt
 have HS:Hid (ja6 w (some (aq b off)) len cap (x0 :: tl)):=h
 have hl:tl.length+1=len:=by have:=h.1;simpa using this
 have hlc:len<=cap:=h.2.1
 clear h
 generalize hB:w.heap.size=B
 have HB:Hid (w.heap.size=B):=hB
 go_enter Tryz.func109,Tryz.ntmps109
 go_wp2_with fail
 clear hB
 go_loopw [3,4,5,6] (fun l n f i wr=>∃ (p:Nat) (ms:List Nat) (cur:List Int) (v W:Nat),p<=tl.length/\p<=19/\ms.length<=p/\n=iv v/\f=iv W/\i=iv ((p:Int)+1)/\cur.length<=5/\Hid (v=jgi cur)/\Hid (W=128 ^ cur.length)/\Hid (NP tl p ms cur)/\Hid (∀ m∈ms,m<34359738368)/\wr.ownsRow B 3 1 l ms.length (jpk ms)/\Below B w wr) (fun _ _ _ i _=>len+20 - (intOf i).toNat)
 case atStart=>exact ⟨0,[],[],0,1,Nat.zero_le _,by omega,Nat.le_refl _,rfl,rfl,rfl,by simp,rfl,rfl,qb9 tl,fun _ h=>by simp at h,World.ownsRow_nil _ _ _ _,Below.refl _ _⟩
 case round =>
  obtain ⟨p,ms,cur,v,W,hp,hp19,hmp,rfl,rfl,rfl,hc5,hv,hW,hnp,hmb,hown,hbel⟩:=hrel
  have hBr:B<=wr.heap.size:=by have:=hbel.size;rw [HB.out] at this;exact this
  by_cases hlt:p<tl.length
  ·by_cases h19:p<19
   ·by_cases hc:cur.length<5
    ·have hWb:W<=268435456:=by rw [hW.out];exact qda hc
     have hvb:v<268435456:=by rw [hv.out];exact Nat.lt_of_lt_of_le (qag (c:=4) (by omega)) (by decide)
     have hsl:=jaa HS.out (by rw [HB.out];exact hbel)
     have hxb:=hsl.2.2.2.1 (tl.getD p 0) (by simp [List.getD,List.getElem?_eq_getElem hlt])
     have hcx:wr.cell? (aq b (off+(p+1)))=some (.int .u8 (tl.getD p 0)):=by
      obtain ⟨b',off',hbo,_,hcell⟩:=hsl.2.2.2.2 (by simp)
      simp at hbo
      obtain ⟨rfl,rfl⟩:=hbo
      have:=hcell (p+1) (by omega)
      simpa using this
     generalize hx:tl.getD p 0=x at hcx hxb
     have HX:Hid (tl.getD p 0=x):=hx
     clear hx hsl
     obtain ⟨hx0,hx1⟩:=hxb
     obtain ⟨X,rfl⟩:=Int.eq_ofNat_of_zero_le hx0
     have hp0:(0:Int)<=(X:Int) % 128 * (W:Int):=Int.mul_nonneg (by omega) (by omega)
     have hp1:(X:Int) % 128 * (W:Int)<=127 * 268435456:=Int.mul_le_mul (by omega) (by omega) (by omega) (by omega)
     have HVX:Hid (v+X % 128 * W=jgi (cur++[(X:Int)])):=by
      unfold Hid
      rw [jgw,hv.out,hW.out]
      have:((X:Int) % 128).toNat=X % 128:=by omega
      rw [this]
     have HO:Hid (∀ k,u3.ownBlock=some k->B<=k/\k<wr.heap.size):=World.ownsRow.lt hown
     by_cases hlow:X<128
     ·have HNP:Hid (NP tl (p+1) (ms++[v+X % 128 * W]) []):=by unfold Hid;rw [HVX.out];exact qfh hnp.out hlt HX.out (by omega)
      have hnew:v+X % 128 * W<34359738368:=by rw [HVX.out];exact Nat.lt_of_lt_of_le (qag (c:=5) (by simp;omega)) (by decide)
      clear hnp
      go_wp2_with (at_builtin;refine wpList_append_own _ rfl _ _ 25 rfl B 3 i0 (iv 0) 1 8 Tryz.underlying25 hi hz0 hz1 hz2 rfl (by decide) _ _ _ rfl (hown.alloc _) (aq wr.heap.size 0) 1 1 [iv (v+X % 128 * W)] rfl rfl ?c1 ?c2 ?c3 ?c4 ?c5 ?_)
      case c1=>exact cell_one_new _ _ _
      case c2=>intro u hu;simp at hu;subst hu;rfl
      case c3=>unfold maxLen;omega
      case c4=>omega
      case c5=>simp;omega
      intro v' w1 hown' hgrow _
      clear hown
      go_wp2
      go_roundw
      case rel =>
       refine ⟨p+1,ms++[v+X % 128 * W],[],0,1,by omega,by omega,by simp<;>omega,rfl,rfl,by go_num,by simp,rfl,rfl,HNP,?_,?_,?_⟩
       ·intro m hm
        rcases List.mem_append.1 hm with h|h
        ·exact hmb.out m h
        ·simp at h;omega
       ·rw [jk0];simpa using hown'
       ·exact (hbel.alloc hBr _).grown hgrow (by simp;omega) (fun k hk=>(HO.out k hk).1)
      case measure=>simp [intOf];omega
     ·have HNP:Hid (NP tl (p+1) ms (cur++[(X:Int)])):=qey hnp.out hlt HX.out (by omega) (by omega)
      clear hnp
      go_wp2
      go_roundw
      case rel =>
       exact ⟨p+1,ms,cur++[(X:Int)],v+X % 128 * W,W * 128,by omega,by omega,by omega,by rw [Int.natCast_add,Int.natCast_mul,Int.natCast_emod];rfl,by go_num,by go_num,by simp<;>omega,HVX,by unfold Hid;rw [hW.out];simp [Nat.pow_succ],HNP,hmb,hown,hbel⟩
      case measure=>simp [intOf];omega
    ·have hce:cur.length=5:=by omega
     have hWe:(268435456:Int)<(W:Int):=by rw [hW.out,hce];decide
     have HR:Hid (RNS tl ms):=qe6 hnp.out (by omega)
     clear hW hv hnp
     go_wp2
     go_ret
     exact ⟨_,ms,rfl,hown,hmb.out,HR.out,hbel⟩
   ·have HR:Hid (RNS tl ms):=qft (by omega)
    have hpe:p=19:=by omega
    subst hpe
    go_wp2
    go_ret
    exact ⟨_,ms,rfl,hown,hmb.out,HR.out,hbel⟩
  ·have hpe:p=tl.length:=by omega
   subst hpe
   have HR:Hid (RNS tl ms):=qfr hnp.out
   have hge:¬ ((tl.length:Int)+1<(len:Int)):=by omega
   go_wp2
   go_ret
   first|exact ⟨_,ms,rfl,hown,hmb.out,HR.out,hbel⟩|exact ⟨_,rfl,ms,hown,hmb.out,HR.out,hbel⟩
def jmc (w w':World) (n:Nat) (v:Value):Prop :=
 ∃ g cap,v=.slice (some (aq g 0)) (jds n).length cap/\w'.ownsRow w.heap.size 5 1 v (jds n).length ((jds n).map (Value.int .u8))/\Below w.heap.size w w'
theorem jnq {w w':World} {n:Nat} {v:Value} (h:w'.ownsRow w.heap.size 5 1 v (jds n).length ((jds n).map (Value.int .u8))) (hb:Below w.heap.size w w'):jmc w w' n v:=by
 have hp:=jgf n
 rcases h.2 with ⟨_,h0⟩|⟨g,cap,cur,rfl,_⟩
 ·omega
 ·exact ⟨g,cap,rfl,h,hb⟩
theorem jnz (n:Nat) (w:World) (hn:n<9223372036854775808) (ih:∀ m,m<n->∀ w',Calls Tryz.prog 141 #[iv m] w' fun e w2=>∃ v,e=.returned v/\jmc w' w2 m v) :
 Calls Tryz.prog 141 #[iv n] w fun e w'=>∃ v,e=.returned v/\jmc w w' n v:=by
 have IH:Hid (∀ m,m<n->∀ w',Calls Tryz.prog 141 #[iv m] w' fun e w2=>∃ v,e=.returned v/\jmc w' w2 m v):=ih
 clear ih
 obtain ⟨i0,hi,hz0,hz1,hz2⟩:=info_parts Tryz.infoU8
 by_cases hlt:n<128
 ·have HC:Hid (jds n=[(n:Int)]):=jcc hlt
  go_enter Tryz.func141,Tryz.ntmps141
  go_wp2
  go_ret
  refine ⟨_,rfl,jnq ?_ ((Below.refl _ _).alloc (Nat.le_refl _) _)⟩
  rw [HC.out]
  exact jg9 rfl _
 ·have HC:Hid (jds n=((n % 128+128:Nat):Int) :: jds (n / 128)):=je1 (by omega)
  have hl9:(jds (n / 128)).length<=9:=jje (by omega)
  go_enter Tryz.func141,Tryz.ntmps141
  go_wp2_with fail
  have e128:((n:Int) / 128)=((n / 128:Nat):Int):=by omega
  rw [e128]
  refine (IH.out (n / 128) (by omega) _).mono ?_
  rintro e w1 ⟨v1,rfl,g,cap,rfl,hown,b1⟩
  have hg1:=World.ownsRow.lt hown g rfl
  have hcells:Hid (∀ j u,((jds (n / 128)).map (Value.int .u8))[j]?=some u->(w1.alloc (.cells #[.int .u8 ((n:Int) % 128+128)] 5)).cell? (((aq g 0):Addr).add j)=some u):=fun j u hu=>by
   have:=hown.cells (g:=g) rfl j u hu
   rw [Addr.add_lit] at this ⊢
   rw [← this]
   exact World.cell?_of_block (a:=(aq g (0+j))) (Below.heap_alloc w1 _ g hg1.2)
  have hone:Hid ((w1.alloc (.cells #[.int .u8 ((n:Int) % 128+128)] 5)).ownsRow w.heap.size 5 1 (.slice (some (aq w1.heap.size 0)) 1 1) 1 [.int .u8 ((n:Int) % 128+128)]):=je9 (jg9 rfl _) b1.size
  clear hown e128
  go_wp2_with (at_builtin;refine wpList_append_own _ rfl _ _ 92 rfl w.heap.size 5 i0 (.int .u8 0) 1 1 Tryz.underlying92 hi hz0 hz1 hz2 rfl (by decide) _ _ _ rfl hone.out (aq g 0) _ _ ((jds (n / 128)).map (Value.int .u8)) rfl (by simp) hcells.out (ints_oneCell _ _) (by unfold maxLen;omega) (by omega) (by have:=b1.size;simp;omega) ?_)
  intro v' w3 hown3 hgrow _
  have hbel:Below w.heap.size w w3:=(b1.alloc b1.size _).grown hgrow (by have:=b1.size;simp;omega) (fun k hk=>by simp [Value.ownBlock] at hk;have:=b1.size;omega)
  clear hgrow hcells hone
  go_wp2
  go_ret
  refine ⟨_,rfl,jnq ?_ hbel⟩
  rw [HC.out]
  have e1:1+(jds (n / 128)).length=(((n % 128+128:Nat):Int) :: jds (n / 128)).length:=by simp;omega
  rw [← e1]
  simpa using hown3
theorem jqi:∀ (k n:Nat) (w:World),n<=k->n<9223372036854775808->Calls Tryz.prog 141 #[iv n] w fun e w'=>∃ v,e=.returned v/\jmc w w' n v
 | 0,n,w,h,hn=>jnz n w hn (fun m hm=>by omega)
 | k+1,n,w,h,hn=>jnz n w hn (fun m hm w'=>jqi k m w' (by omega) (by omega))
theorem jnj (n:Nat) (w:World) (hn:n<9223372036854775808) :
 Calls Tryz.prog 141 #[iv n] w fun e w'=>∃ g cap,e=.returned (.slice (some (aq g 0)) (jds n).length cap)/\(∀ j u,((jds n).map (Value.int .u8))[j]?=some u->w'.cell? (((aq g 0):Addr).add j)=some u)/\Below w.heap.size w w':=by
 refine (jqi n n w (Nat.le_refl _) hn).mono ?_
 rintro e w' ⟨v,rfl,g,cap,rfl,hown,hb⟩
 exact ⟨g,cap,rfl,hown.cells rfl,hb⟩
theorem jh6 (k:Int) (hk0:0<=k) (hk1:k<256) (ns:List Int) (b cap:Nat) (w:World) (hl:ns.length<=3) (hbw:b<w.heap.size) (hnum:jud w b ns) :
 Calls Tryz.prog 108 #[iv k,.slice (some (aq b 0)) ns.length cap] w fun e w'=>∃ v,e=.returned v/\w'.ownsRow w.heap.size 5 1 v (ja8 k ns).length ((ja8 k ns).map (Value.int .u8))/\Below w.heap.size w w':=by
 have HNUM:Hid (jud w b ns):=hnum
 clear hnum
 obtain ⟨i0,hi,hz0,hz1,hz2⟩:=info_parts Tryz.infoU8
 generalize hB:w.heap.size=B at *
 have HB:Hid (w.heap.size=B):=hB
 go_enter Tryz.func108,Tryz.ntmps108
 go_wp2_with fail
 clear hB
 go_loopw [5,6] (fun fr i wr=>∃ j:Nat,j<=ns.length/\i=iv j/\wr.ownsRow B 5 1 fr (ja8 k (ns.take j)).length ((ja8 k (ns.take j)).map (Value.int .u8))/\Below B w wr) (fun _ i _=>ns.length - (intOf i).toNat)
 case atStart=>exact ⟨0,Nat.zero_le _,rfl,by simpa [ja8] using jg9 HB.out (.int .u8 k),(Below.refl _ _).alloc (Nat.le_of_eq HB.out.symm) _⟩
 case round =>
  obtain ⟨j,hj,rfl,hown,hbel⟩:=hrel
  have hBr:B<=wr.heap.size:=by have:=hbel.size;rw [HB.out] at this;exact this
  by_cases hlt:j<ns.length
  ·obtain ⟨m,hm,hml,hmc⟩:=HNUM.out j hlt
   have hcx:wr.cell? (aq b j)=some (iv m):=(hbel.cell (p:=(aq b j)) hbw).trans hmc
   have hfl:(ja8 k (ns.take j)).length<=100:=by
    have:=jfn k ns (fun j hj=>let ⟨n,h1,h2,_⟩:=HNUM.out j hj;⟨n,h1,h2⟩) j (by omega)
    omega
   have hcl:=jje hml
   have HF:Hid (ja8 k (ns.take (j+1))=ja8 k (ns.take j)++jds m):=ji7 k ns j m hlt hm
   clear hm hmc
   generalize hX:ja8 k (ns.take j)=X at *
   clear hX
   generalize hR:wr.heap.size=R at *
   have HR:Hid (wr.heap.size=R):=hR
   clear hR
   go_wp2_with (first
    | (go_at_call 141;refine (jnj m _ hml).mono ?_;rintro e w2 ⟨g,cap,rfl,hgc,hb2⟩)
    | (at_builtin;refine wpList_append_own _ rfl _ _ 92 rfl B 5 i0 (.int .u8 0) 1 1 Tryz.underlying92 hi hz0 hz1 hz2 rfl (by decide) _ _ _ rfl (jam hown hb2 (Nat.le_refl _)) (aq g 0) _ _ ((jds m).map (Value.int .u8)) rfl (by simp) hgc (ints_oneCell _ _) (by unfold maxLen;omega) (by omega) (by have:=hb2.size;rw [HR.out] at this;omega) ?_))
   intro v' w3 hown3 hgrow _
   have HP:Hid (w3.ownsRow B 5 1 v' (X++jds m).length ((X++jds m).map (Value.int .u8))/\Below B w w3):=jnr rfl hown hbel hb2 (by rw [HR.out];exact hBr) hown3 hgrow
   clear hown3 hgrow hgc hb2 hown hcx
   go_wp2
   go_roundw
   case rel=>exact ⟨j+1,by omega,by go_num,by rw [HF.out];exact HP.out.1,HP.out.2⟩
   case measure=>simp [intOf];omega
  ·have HE:Hid (ns.take j=ns):=List.take_of_length_le (by omega)
   rw [HE.out] at hown
   go_wp2
   go_ret
   exact ⟨_,rfl,hown,hbel⟩
theorem qbo (n:Int) (w:World) :
 Calls Tryz.prog 140 #[iv n,.bool true] w fun e w'=>e=.returned (.bool (jc3 n))/\w=w':=by
 go_enter Tryz.func140,Tryz.ntmps140
 go_wp2_with (go_at_call 92;refine (jf0 _ _).mono ?_;rintro e w' ⟨rfl,rfl⟩)
 go_ret
 exact ⟨rfl,rfl⟩
theorem qep (n:Int) (w:World) :
 Calls Tryz.prog 140 #[iv n,.bool false] w fun e w'=>e=.returned (.bool (n==0))/\w=w':=by
 go_enter Tryz.func140,Tryz.ntmps140
 go_wp2
 go_ret
 exact ⟨rfl,rfl⟩
def qd2 (k:Int):Bool:=decide (1<=k) && decide (k<=3)
def qay (k:Int):Bool:=decide (1<=k) && decide (k<=4)
def qcy (k:Int):Bool:=decide (2<=k) && decide (k<=4)
theorem qbf (k:Int) (w:World) :
 Calls Tryz.prog 139 #[iv k] w fun e w'=>e=.returned (.tuple #[.bool (qd2 k),.bool (qay k),.bool (k==1),.bool (qcy k)])/\w=w':=by
 by_cases h1:1<=k
 ·by_cases h2:2<=k
  ·go_enter Tryz.func139,Tryz.ntmps139
   go_wp2
   refine bodyPost_ret (v:=.tuple #[.bool (qd2 k),.bool (qay k),.bool (k==1),.bool (qcy k)]) (by simp [results,Tryz.results139,go_sem,qd2,qay,qcy,h1,h2]) rfl ⟨rfl,rfl⟩
  ·have d2:decide (2<=k)=false:=by simpa using h2
   go_enter Tryz.func139,Tryz.ntmps139
   go_wp2
   refine bodyPost_ret (v:=.tuple #[.bool (qd2 k),.bool (qay k),.bool (k==1),.bool (qcy k)]) (by simp [results,Tryz.results139,go_sem,qd2,qay,qcy,h1,d2]) rfl ⟨rfl,rfl⟩
 ·have d1:decide (1<=k)=false:=by simpa using h1
  have d2:decide (2<=k)=false:=by simp;omega
  go_enter Tryz.func139,Tryz.ntmps139
  go_wp2
  refine bodyPost_ret (v:=.tuple #[.bool (qd2 k),.bool (qay k),.bool (k==1),.bool (qcy k)]) (by simp [results,Tryz.results139,go_sem,qd2,qay,qcy,d1,d2]) rfl ⟨rfl,rfl⟩
def qg9 (n:Int) (h:Bool):Bool:=if h then jc3 n else n==0
theorem jip (n:Int):qg9 n true=jc3 n:=rfl
theorem jhf (n:Int):qg9 n false=(n==0):=rfl
theorem jlb (n:Int) (h:Bool) (w:World):Calls Tryz.prog 140 #[iv n,.bool h] w fun e w'=>e=.returned (.bool (qg9 n h))/\w=w':=by
 cases h
 ·exact qep n w
 ·exact qbo n w
theorem jma (k:Int) (a b c d:Bool) (w:World) (ha:qd2 k=a) (hb:qay k=b) (hc:(k==1)=c) (hd:qcy k=d) :
 Calls Tryz.prog 139 #[iv k] w fun e w'=>e=.returned (.tuple #[.bool a,.bool b,.bool c,.bool d])/\w=w':=by
 subst ha hb hc hd
 exact qbf k w
theorem jmk (k t c u o:Int) (w:World) :
 Calls Tryz.prog 107 #[.agg #[iv k,iv t,iv c,iv u,iv o]] w fun e w'=>e=.returned (.bool (isB k t c u o))/\Below w.heap.size w w':=by
 by_cases h1:k=1
 ·subst h1
  go_enter Tryz.func107,Tryz.ntmps107
  go_wp2_with (first
   | (go_at_call 139;refine (jma 1 true true true false _ rfl rfl rfl rfl).mono ?_;rintro e w' ⟨rfl,rfl⟩)
   | (go_at_call 140;refine (jlb _ _ _).mono ?_;rintro e w' ⟨rfl,rfl⟩;simp only [jip,jhf]))
  all_goals
   go_ret
   refine ⟨?_,(Below.refl _ _).alloc (Nat.le_refl _) _⟩
   simp [isB, *]
 by_cases h2:k=2
 ·subst h2
  go_enter Tryz.func107,Tryz.ntmps107
  go_wp2_with (first
   | (go_at_call 139;refine (jma 2 true true false true _ rfl rfl rfl rfl).mono ?_;rintro e w' ⟨rfl,rfl⟩)
   | (go_at_call 140;refine (jlb _ _ _).mono ?_;rintro e w' ⟨rfl,rfl⟩;simp only [jip,jhf]))
  all_goals
   go_ret
   refine ⟨?_,(Below.refl _ _).alloc (Nat.le_refl _) _⟩
   simp [isB, *]
 by_cases h3:k=3
 ·subst h3
  go_enter Tryz.func107,Tryz.ntmps107
  go_wp2_with (first
   | (go_at_call 139;refine (jma 3 true true false true _ rfl rfl rfl rfl).mono ?_;rintro e w' ⟨rfl,rfl⟩)
   | (go_at_call 140;refine (jlb _ _ _).mono ?_;rintro e w' ⟨rfl,rfl⟩;simp only [jip,jhf]))
  all_goals
   go_ret
   refine ⟨?_,(Below.refl _ _).alloc (Nat.le_refl _) _⟩
   simp [isB, *]
 by_cases h4:k=4
 ·subst h4
  go_enter Tryz.func107,Tryz.ntmps107
  go_wp2_with (first
   | (go_at_call 139;refine (jma 4 false true false true _ rfl rfl rfl rfl).mono ?_;rintro e w' ⟨rfl,rfl⟩)
   | (go_at_call 140;refine (jlb _ _ _).mono ?_;rintro e w' ⟨rfl,rfl⟩;simp only [jip,jhf]))
  all_goals
   go_ret
   refine ⟨?_,(Below.refl _ _).alloc (Nat.le_refl _) _⟩
   simp [isB, *]
 have hb:isB k t c u o=false:=by simp [isB,h1,h2,h3,h4]
 have hC:Hid (qay k=false):=by unfold Hid qay;simp;omega
 generalize hT:qd2 k=a
 generalize hU:(k==1)=b
 generalize hO:qcy k=d
 have HH:Hid (∀ w',Calls Tryz.prog 139 #[iv k] w' fun e w2=>e=.returned (.tuple #[.bool a,.bool false,.bool b,.bool d])/\w'=w2):=fun w'=>jma k a false b d w' hT hC.out hU hO
 clear hT hU hO
 go_enter Tryz.func107,Tryz.ntmps107
 go_wp2_with (go_at_call 139;refine (HH.out _).mono ?_;rintro e w' ⟨rfl,rfl⟩)
 go_ret
 exact ⟨by rw [hb];rfl,(Below.refl _ _).alloc (Nat.le_refl _) _⟩
end Go.Proofs.YtfhncfghblkgeaaGreat
