import Derived.Test.YtfhncfghblkgeaaGreatL04
set_option maxRecDepth 100000
set_option maxHeartbeats 2000000
namespace Go.Proofs.YtfhncfghblkgeaaGreat
open Go.RowKit
theorem jtd (b off cap:Nat) (x y z:Int) (w:World) (h0:w.cell? (aq b off)=some (iv x)) (h1:w.cell? (aq b (off+1))=some (iv y)) (h2:w.cell? (aq b (off+2))=some (iv z)) :
 Calls Tryz.prog 98 #[iv 1,.slice (some (aq b off)) 3 cap] w fun e w'=>e=.returned (.agg #[iv 1,iv x,iv y,iv z,iv 0])/\Below w.heap.size w w':=by
 have hb:b<w.heap.size:=World.block_lt_of_cell? w _ h0
 go_enter Tryz.func98,Tryz.ntmps98
 go_wp2
 go_region
 go_wp2
 exact bodyPost_ret (v:=.agg #[iv 1,iv x,iv y,iv z,iv 0]) (by simp [results,Tryz.results98,go_sem]) rfl ⟨rfl,bL⟩
theorem jta (b off cap:Nat) (x y z:Int) (w:World) (h0:w.cell? (aq b off)=some (iv x)) (h1:w.cell? (aq b (off+1))=some (iv y)) (h2:w.cell? (aq b (off+2))=some (iv z)) :
 Calls Tryz.prog 98 #[iv 2,.slice (some (aq b off)) 3 cap] w fun e w'=>e=.returned (.agg #[iv 2,iv x,iv y,iv 0,iv z])/\Below w.heap.size w w':=by
 have hb:b<w.heap.size:=World.block_lt_of_cell? w _ h0
 go_enter Tryz.func98,Tryz.ntmps98
 go_wp2
 go_region
 go_wp2
 exact bodyPost_ret (v:=.agg #[iv 2,iv x,iv y,iv 0,iv z]) (by simp [results,Tryz.results98,go_sem]) rfl ⟨rfl,bL⟩
theorem jsy (b off cap:Nat) (x y z:Int) (w:World) (h0:w.cell? (aq b off)=some (iv x)) (h1:w.cell? (aq b (off+1))=some (iv y)) (h2:w.cell? (aq b (off+2))=some (iv z)) :
 Calls Tryz.prog 98 #[iv 3,.slice (some (aq b off)) 3 cap] w fun e w'=>e=.returned (.agg #[iv 3,iv x,iv y,iv 0,iv z])/\Below w.heap.size w w':=by
 have hb:b<w.heap.size:=World.block_lt_of_cell? w _ h0
 go_enter Tryz.func98,Tryz.ntmps98
 go_wp2
 go_region
 go_wp2
 exact bodyPost_ret (v:=.agg #[iv 3,iv x,iv y,iv 0,iv z]) (by simp [results,Tryz.results98,go_sem]) rfl ⟨rfl,bL⟩
theorem jt6 (b off cap:Nat) (x y:Int) (w:World) (h0:w.cell? (aq b off)=some (iv x)) (h1:w.cell? (aq b (off+1))=some (iv y)) :
 Calls Tryz.prog 98 #[iv 4,.slice (some (aq b off)) 2 cap] w fun e w'=>e=.returned (.agg #[iv 4,iv 0,iv x,iv 0,iv y])/\Below w.heap.size w w':=by
 have hb:b<w.heap.size:=World.block_lt_of_cell? w _ h0
 go_enter Tryz.func98,Tryz.ntmps98
 go_wp2
 go_region
 go_wp2
 exact bodyPost_ret (v:=.agg #[iv 4,iv 0,iv x,iv 0,iv y]) (by simp [results,Tryz.results98,go_sem]) rfl ⟨rfl,bL⟩
theorem jd8 (b cap:Nat) (x y z:Int) (w:World) (h0:w.cell? (aq b 0)=some (iv x)) (h1:w.cell? (aq b 1)=some (iv y)) (h2:w.cell? (aq b 2)=some (iv z)) :
 Calls Tryz.prog 90 #[.slice (some (aq b 0)) 3 cap] w fun e w'=>e=.returned (.bool ([x,y,z].all jbn))/\w=w' :=
 jfr b 0 cap [x,y,z] w (by simp) (fun i hi=>by
  match i,hi with
  | 0,_=>simpa using h0
  | 1,_=>simpa using h1
  | 2,_=>simpa using h2)
theorem jit (b cap:Nat) (x y:Int) (w:World) (h0:w.cell? (aq b 0)=some (iv x)) (h1:w.cell? (aq b 1)=some (iv y)) :
 Calls Tryz.prog 90 #[.slice (some (aq b 0)) 2 cap] w fun e w'=>e=.returned (.bool ([x,y].all jbn))/\w=w' :=
 jfr b 0 cap [x,y] w (by simp) (fun i hi=>by
  match i,hi with
  | 0,_=>simpa using h0
  | 1,_=>simpa using h1)
theorem qch {x:Int} (h:jbn x=true):∃ n:Nat,x=n/\1<=n/\n<=4294967296:=by
 simp [jbn] at h
 exact ⟨x.toNat,by omega,by omega,by omega⟩
theorem ji0 {w:World} {B:Nat} {e:TypeId} (h:w.heap.size=B) (x:Value):(w.alloc (.cells #[x] e)).ownsRow B e 1 (.slice (some (aq B 0)) 1 1) 1 [x]:=by
 subst h
 exact ⟨rfl,.inr ⟨w.heap.size,1,#[x],rfl,Nat.le_refl _,heap_alloc_new w _,Nat.le_refl _,by unfold maxLen;omega,rfl,rfl⟩⟩
def jai (w:World) (a:Option Addr) (len cap:Nat) (l:List Int):Prop :=
 l.length=len/\len<=cap/\cap<=maxLen/\(∀ x∈l,0<=x/\x<256)/\(l≠[]->∃ b off,a=some (aq b off)/\b<w.heap.size/\∀ i,i<len->w.cell? (aq b (off+i))=some (.int .u8 (l.getD i 0)))
theorem qgb {k:Nat} (h:k<5):128 ^ k<=268435456:=Nat.le_trans (Nat.pow_le_pow_right (by omega) (show k<=4 by omega)) (by decide)
theorem qez {a b c d:Int} (h:a=c) (h':b=d):Ending.returned (.tuple #[iv a,iv b])=.returned (.tuple #[iv c,iv d]):=by rw [h,h']
theorem jm3 (b off len cap:Nat) (l:List Int) (w:World) (hl:l.length=len) (hb:∀ x∈l,0<=x/\x<256) (hcell:∀ i,i<len->w.cell? (aq b (off+i))=some (.int .u8 (l.getD i 0))) :
 Calls Tryz.prog 130 #[.slice (some (aq b off)) len cap] w fun e w'=>∃ n k:Nat,e=.returned (.tuple #[iv n,iv k])/\RN l n k/\w=w':=by
 go_enter Tryz.func130,Tryz.ntmps130
 go_wp2
 go_loop [4,5,6] (fun n wt i=>∃ k v W:Nat,k<=len/\k<=5/\n=iv v/\wt=iv W/\i=iv k/\Hid (v=jhn (l.take k))/\Hid (W=128 ^ k)/\Hid (jx8 (l.take k))) (fun _ _ i=>len - (intOf i).toNat)
 case atStart=>exact ⟨0,0,1,Nat.zero_le _,by omega,rfl,rfl,rfl,by simp [Hid,jhn],rfl,fun _ h=>by simp at h⟩
 case round =>
  obtain ⟨k,v,W,hk,hk5,rfl,rfl,rfl,hv,hW,hg⟩:=hrel
  by_cases hlt:k<len
  ·by_cases h5:k<5
   ·have hc:=hcell k hlt
    have hxb:=hb (l.getD k 0) (by simp [List.getD,List.getElem?_eq_getElem (show k<l.length by omega)])
    generalize hx:l.getD k 0=x at hc hxb
    have HX:Hid (l.getD k 0=x):=hx
    clear hx hcell hb
    obtain ⟨hx0,hx1⟩:=hxb
    have hWb:W<=268435456:=by rw [hW.out];exact qgb h5
    have hvb:v<34359738368:=by
     rw [hv.out]
     exact Nat.lt_of_lt_of_le (jt5 _) (Nat.le_trans (Nat.pow_le_pow_right (by omega) (show (l.take k).length<=5 by simp;omega)) (by decide))
    obtain ⟨X,rfl⟩:=Int.eq_ofNat_of_zero_le hx0
    have hp0:(0:Int)<=(X:Int) % 128 * (W:Int):=Int.mul_nonneg (by omega) (by omega)
    have hp1:(X:Int) % 128 * (W:Int)<=127 * 268435456:=Int.mul_le_mul (by omega) (by omega) (by omega) (by omega)
    by_cases hz:X=0
    ·subst hz
     by_cases hk0:k=0
     ·subst hk0
      have hv0:v=0:=by rw [hv.out];rfl
      have hW1:W=1:=hW.out
      subst hv0 hW1
      have HR:Hid (RN l (0+0 % 128 * 1) 1):=jyp hv.out hW.out hg.out (by omega) (by omega) HX.out (by omega) (.inl rfl)
      have hc':w.cell? (aq b off)=some (.int .u8 0):=hc
      clear hc hp0 hp1 hvb hWb hx0 hx1 hk hk5 h5
      have hlt':(0:Int)<(len:Int):=by omega
      go_wp2
      go_ret2
      exact ⟨0,1,rfl,HR.out,rfl⟩
     ·have hkp:(0:Int)<(k:Int):=by omega
      go_wp2
      go_ret2
      exact ⟨0,0,rfl,qe4 hg.out (by omega) (by omega) HX.out,rfl⟩
    ·have hz':((X:Int)==0)=false:=by simp;omega
     by_cases h128:X<128
     ·go_wp2
      go_ret2
      exact ⟨v+X % 128 * W,k+1,qez (by rw [Int.natCast_add,Int.natCast_mul,Int.natCast_emod];rfl) (by go_num),jyp hv.out hW.out hg.out (by omega) h5 HX.out h128 (.inr hz),rfl⟩
     ·go_wp2
      go_round
      case rel=>exact ⟨k+1,v+X % 128 * W,W * 128,by omega,by omega,by rw [Int.natCast_add,Int.natCast_mul,Int.natCast_emod];rfl,by go_num,by go_num,(jnr hv.out hW.out (by omega) HX.out).1,(jnr hv.out hW.out (by omega) HX.out).2,jzk hg.out (by omega) HX.out (by omega) (by omega)⟩
      case measure=>simp [intOf];omega
   ·have hk5':k=5:=by omega
    subst hk5'
    go_wp2
    go_ret2
    exact ⟨0,0,rfl,jtf hg.out (.inr rfl),rfl⟩
  ·have hke:k=len:=by omega
   subst hke
   go_wp2
   go_ret2
   exact ⟨0,0,rfl,jtf hg.out (.inl hl.symm),rfl⟩
theorem Tryz.infoInt:(Tryz.prog.info? 3).map (fun i=>(i.zero,i.size,i.bytes))=some (some (iv 0),1,8):=by kernel_rfl
theorem qfw:RN [] 0 0:=jtf (k:=0) (fun _ h=>by simp at h) (.inl rfl)
theorem jn8 (a:Option Addr) (cap:Nat) (w:World) :
 Calls Tryz.prog 130 #[.slice a 0 cap] w fun e w'=>∃ n k:Nat,e=.returned (.tuple #[iv n,iv k])/\RN [] n k/\w=w':=by
 go_enter Tryz.func130,Tryz.ntmps130
 go_wp2
 go_loop [4,5,6] (fun _ _ i=>i=iv 0) (fun _ _ _=>0)
 case atStart=>rfl
 case round =>
  subst hrel
  go_wp2
  go_ret2
  exact ⟨0,0,rfl,qfw,rfl⟩
theorem jn9 (a:Option Addr) (len cap:Nat) (l:List Int) (w:World) (h:jai w a len cap l) :
 Calls Tryz.prog 130 #[.slice a len cap] w fun e w'=>∃ n k:Nat,e=.returned (.tuple #[iv n,iv k])/\RN l n k/\w=w':=by
 obtain ⟨hl,hlc,hm,hb,hc⟩:=h
 by_cases h0:l=[]
 ·subst h0
  simp at hl
  subst hl
  exact jn8 a cap w
 ·obtain ⟨b,off,rfl,_,hcell⟩:=hc h0
  exact jm3 b off len cap l w hl hb hcell
def jct (ns:List Nat):List Int:=ns.flatMap jcy
theorem jek:∀ (ns ms:List Nat) (rest:List Int),ns.length<=ms.length->jct ns++rest=jct ms->∃ ms',ms=ns++ms'/\rest=jct ms'
 | [],ms,rest,_,h=>⟨ms,rfl,by simpa [jct] using h⟩
 | n :: ns,[],rest,hl,_=>by simp at hl
 | n :: ns,m :: ms,rest,hl,h=>by
   have h':jcy n++(jct ns++rest)=jcy m++jct ms:=by simpa [jct,List.append_assoc] using h
   obtain ⟨rfl,h2⟩:=qc9 h'
   obtain ⟨ms',rfl,hr⟩:=jek ns ms rest (by simpa using hl) h2
   exact ⟨ms',rfl,hr⟩
theorem jvf (ns:List Nat) (n:Nat):jct (ns++[n])=jct ns++jcy n:=by simp [jct]
theorem jbm {w w':World} {a:Option Addr} {len cap:Nat} {l:List Int} (h:jai w a len cap l) (hb:Below w.heap.size w w'):jai w' a len cap l:=by
 obtain ⟨h1,h2,h3,h4,h5⟩:=h
 refine ⟨h1,h2,h3,h4,fun hn=>?_⟩
 obtain ⟨b,off,ha,hb',hc⟩:=h5 hn
 exact ⟨b,off,ha,Nat.lt_of_lt_of_le hb' hb.size,fun i hi=>(hb.cell (p:=(aq b (off+i))) hb').trans (hc i hi)⟩
theorem jkm {w:World} {b off len cap k:Nat} {g r:List Int} (h:jai w (some (aq b off)) len cap (g++r)) (hk:g.length=k):jai w (if cap=k then some (aq b off) else some (aq b (off+k))) (len - k) (cap - k) r:=by
 obtain ⟨h1,h2,h3,h4,h5⟩:=h
 simp at h1
 refine ⟨by omega,by omega,by omega,fun x hx=>h4 x (by simp [hx]),fun hn=>?_⟩
 have hrl:0<r.length:=List.length_pos_iff.2 hn
 obtain ⟨b',off',ha,hb',hc⟩:=h5 (by simp [hn])
 simp at ha
 obtain ⟨rfl,rfl⟩:=ha
 refine ⟨b,off+k,by rw [if_neg (by omega)],hb',fun i hi=>?_⟩
 have:=hc (k+i) (by omega)
 rw [Nat.add_assoc,this]
 congr 2
 simp [List.getD,List.getElem?_append_right (show g.length<=k+i by omega)]
 congr 2
 omega
def jyv (ns:List Nat):List Value:=ns.map fun n:Nat=>Value.int .i64 (n:Int)
theorem jnq (ns:List Nat) (n:Nat):jyv (ns++[n])=jyv ns++[iv (n:Int)]:=by simp [jyv]
def jlz (w':World) (B count:Nat) (l:List Int) (v:Value) (ok:Bool):Prop :=
 (ok=true->∃ ns:List Nat,ns.length=count/\(∀ n∈ns,n<34359738368)/\l=jct ns/\w'.ownsRow B 3 1 v ns.length (jyv ns)) ∧
 (ok=false->∀ ns:List Nat,ns.length=count->(∀ n∈ns,n<34359738368)->l≠jct ns)
theorem qdr {ns:List Nat} {count:Nat} {l rest:List Int} (hl:l=jct ns++rest) (hn:ns.length<count) (h:∀ (m:Nat) (r:List Int),m<34359738368->rest≠jcy m++r) :
 ∀ ms:List Nat,ms.length=count->(∀ n∈ms,n<34359738368)->l≠jct ms:=by
 intro ms hms hb e
 obtain ⟨ms',rfl,hr⟩:=jek ns ms rest (by omega) (hl.symm.trans e)
 match ms' with
 | []=>simp at hms;omega
 | m :: ms'=>exact h m (jct ms') (hb m (by simp)) (by rw [hr];simp [jct])
theorem qe5 {ns:List Nat} {count:Nat} {l rest:List Int} (hl:l=jct ns++rest) (hn:ns.length=count) (h:rest≠[]) :
 ∀ ms:List Nat,ms.length=count->(∀ n∈ms,n<34359738368)->l≠jct ms:=by
 intro ms hms _ e
 obtain ⟨ms',rfl,hr⟩:=jek ns ms rest (by omega) (hl.symm.trans e)
 match ms' with
 | []=>exact h (by rw [hr];rfl)
 | m :: ms'=>simp at hms;omega
theorem jgr (a:Option Addr) (len cap count:Nat) (l:List Int) (w:World) (hc:count<=3) (h:jai w a len cap l) :
 Calls Tryz.prog 97 #[.slice a len cap,iv count] w fun e w'=>∃ v ok,e=.returned (.tuple #[v,.bool ok])/\jlz w' w.heap.size count l v ok/\Below w.heap.size w w':=by
 obtain ⟨i0,hi,hz0,hz1,hz2⟩:=info_parts Tryz.infoInt
 have HS:Hid (jai w a len cap l):=h
 clear h
 generalize hB:w.heap.size=B
 have HB:Hid (w.heap.size=B):=hB
 go_enter Tryz.func97,Tryz.ntmps97
 go_wp2_with fail
 clear hB
 go_loopw [0,6,7] (fun b v i wr=>∃ (ns:List Nat) (a':Option Addr) (len' cap':Nat) (rest:List Int),ns.length<=count/\b=.slice a' len' cap'/\i=iv ns.length/\Hid (jai w a' len' cap' rest)/\Hid (l=jct ns++rest)/\Hid (∀ n∈ns,n<34359738368)/\wr.ownsRow B 3 1 v ns.length (jyv ns)/\Below B w wr) (fun _ _ i _=>count - (intOf i).toNat)
 case atStart =>
  exact ⟨[],a,len,cap,l,Nat.zero_le _,rfl,rfl,HS,rfl,fun _ h=>by simp at h,by have:=jpj w B 3 (by rw [HB.out];exact Nat.le_refl _);rw [HB.out] at this;exact this,(Below.refl _ _).alloc (by rw [HB.out];exact Nat.le_refl _) _⟩
 case round =>
  obtain ⟨ns,a',len',cap',rest,hns,rfl,rfl,hs,hl,hnb,hown,hbel⟩:=hrel
  have hsz:B<=wr.heap.size:=by have:=hbel.size;rw [HB.out] at this;exact this
  by_cases hlt:ns.length<count
  ·go_wp2_with fail
   refine (jn9 a' len' cap' rest _ (jbm hs.out (by rw [HB.out];exact hbel))).mono ?_
   rintro e w1 ⟨n,k,rfl,hrn,rfl⟩
   rcases hrn with ⟨rfl,rfl,hno⟩|⟨r,hn,hk,hr⟩
   ·have HN:Hid (∀ ms:List Nat,ms.length=count->(∀ n∈ms,n<34359738368)->l≠jct ms):=qdr hl hlt hno
    clear hno
    go_wp2
    go_ret2
    exact ⟨_,_,rfl,⟨fun h=>by simp at h,fun _=>HN.out⟩,hbel⟩
   ·have hkp:1<=k:=by rw [hk];exact jdy n
    obtain ⟨hrl,hlc,_,_,hcl⟩:=hs.out
    obtain ⟨b,off,rfl,_,_⟩:=hcl (by rw [hr];have:=jdy n;intro e;have:=congrArg List.length e;simp at this;simp [this.1] at *)
    have hkl:k<=len':=by rw [hr] at hrl;simp at hrl;omega
    have HD:Hid (jai w (if cap'=k then some (aq b off) else some (aq b (off+k))) (len' - k) (cap' - k) r):=jkm (by rw [← hr];exact hs.out) hk.symm
    have HL:Hid (l=jct (ns++[n])++r):=by unfold Hid;rw [jvf,List.append_assoc,← hr];exact hl
    have HNB:Hid (∀ m∈ns++[n],m<34359738368):=by
     intro m hm
     rcases List.mem_append.1 hm with h|h
     ·exact hnb.out m h
     ·simp at h;omega
    have HO:Hid (∀ k,u6.ownBlock=some k->B<=k/\k<wr.heap.size):=World.ownsRow.lt hown
    have hcap0:(k:Int)<=(len':Int):=by omega
    clear hs hl hr hk hcl hnb hrl
    by_cases hcap:cap'=k
    ·subst hcap
     rw [if_pos rfl,show len' - cap'=0 by omega,Nat.sub_self] at HD
     go_wp2_with (at_builtin;refine wpList_append_own _ rfl _ _ 25 rfl B 3 i0 (iv 0) 1 8 Tryz.underlying25 hi hz0 hz1 hz2 rfl (by decide) _ _ _ rfl (hown.alloc _) (aq wr.heap.size 0) 1 1 [iv n] rfl rfl ?c1 ?c2 ?c3 ?c4 ?c5 ?_)
     case c1=>exact cell_one_new _ _ _
     case c2=>intro u hu;simp at hu;subst hu;rfl
     case c3=>unfold maxLen;omega
     case c4=>omega
     case c5=>simp;omega
     intro v' w1 hown' hgrow _
     clear hown
     go_wp2
     go_roundw
     case rel =>
      refine ⟨ns++[n],_,_,_,r,by simp<;>omega,rfl,by simp,HD,HL,HNB,?_,?_⟩
      ·rw [jnq];simpa using hown'
      ·exact (hbel.alloc hsz _).grown hgrow (by simp;omega) (fun k hk=>(HO.out k hk).1)
     case measure=>simp [intOf];omega
    ·rw [if_neg hcap] at HD
     go_wp2_with (at_builtin;refine wpList_append_own _ rfl _ _ 25 rfl B 3 i0 (iv 0) 1 8 Tryz.underlying25 hi hz0 hz1 hz2 rfl (by decide) _ _ _ rfl (hown.alloc _) (aq wr.heap.size 0) 1 1 [iv n] rfl rfl ?c1 ?c2 ?c3 ?c4 ?c5 ?_)
     case c1=>exact cell_one_new _ _ _
     case c2=>intro u hu;simp at hu;subst hu;rfl
     case c3=>unfold maxLen;omega
     case c4=>omega
     case c5=>simp;omega
     intro v' w1 hown' hgrow _
     clear hown
     go_wp2
     go_roundw
     case rel =>
      refine ⟨ns++[n],_,_,_,r,by simp<;>omega,rfl,by simp,HD,HL,HNB,?_,?_⟩
      ·rw [jnq];simpa using hown'
      ·exact (hbel.alloc hsz _).grown hgrow (by simp;omega) (fun k hk=>(HO.out k hk).1)
     case measure=>simp [intOf];omega
  ·have hce:ns.length=count:=by omega
   have hrl:rest.length=len':=hs.out.1
   by_cases h0:len'=0
   ·have hr0:rest=[]:=List.eq_nil_of_length_eq_zero (by omega)
    subst hr0
    have HL:Hid (l=jct ns):=by unfold Hid;have:=hl.out;simpa using this
    clear hl hs
    subst h0
    go_wp2
    go_ret2
    exact ⟨_,_,rfl,⟨fun _=>⟨ns,hce,hnb.out,HL.out,hown⟩,fun h=>by simp at h⟩,hbel⟩
   ·have HN:Hid (∀ ms:List Nat,ms.length=count->(∀ n∈ms,n<34359738368)->l≠jct ms):=qe5 hl hce (fun e=>h0 (by rw [← hrl,e];rfl))
    have h0':((len':Int)==0)=false:=by simp;omega
    clear hl hs
    go_wp2
    go_ret2
    exact ⟨_,_,rfl,⟨fun h=>by simp at h,fun _=>HN.out⟩,hbel⟩
def UN (l:List Int) (k t c u o err:Int):Prop :=
 (err=0/\isB k t c u o=true/\l=jao k (jay k t c u o)) ∨
 (err=2/\k=0/\t=0/\c=0/\u=0/\o=0/\∀ k t c u o:Int,isB k t c u o=true->l≠jao k (jay k t c u o))
theorem jev {w:World} {b off len cap:Nat} {x:Int} {tl:List Int} (h:jai w (some (aq b off)) len cap (x :: tl)) :
 1<=len/\len<=cap/\cap<=maxLen/\w.cell? (aq b off)=some (.int .u8 x)/\jai w (if cap=1 then some (aq b off) else some (aq b (off+1))) (len - 1) (cap - 1) tl:=by
 have hd:=jkm (g:=[x]) (r:=tl) (k:=1) h rfl
 obtain ⟨h1,h2,h3,h4,h5⟩:=h
 simp at h1
 obtain ⟨b',off',ha,hb',hc⟩:=h5 (by simp)
 simp at ha
 obtain ⟨rfl,rfl⟩:=ha
 exact ⟨by omega,h2,h3,by simpa using hc 0 (by omega),hd⟩
theorem jd7 (a:Option Addr) (len cap:Nat) (l:List Int) (w:World) (h:jai w a len cap l) :
 Calls Tryz.prog 97 #[.slice a len cap,iv 3] w fun e w'=>∃ v ok,e=.returned (.tuple #[v,.bool ok])/\jlz w' w.heap.size 3 l v ok/\Below w.heap.size w w' :=
 jgr a len cap 3 l w (by omega) h
theorem jia (a:Option Addr) (len cap:Nat) (l:List Int) (w:World) (h:jai w a len cap l) :
 Calls Tryz.prog 97 #[.slice a len cap,iv 2] w fun e w'=>∃ v ok,e=.returned (.tuple #[v,.bool ok])/\jlz w' w.heap.size 2 l v ok/\Below w.heap.size w w' :=
 jgr a len cap 2 l w (by omega) h
theorem jb1 {B b:Nat} {w w2:World} {v0 v1 v2 v3 v4:Value} (h:Below B w w2) (hb:B<=b) :
 Below B w (((((w2.setCell (aq b 0) v0).setCell (aq b 1) v1).setCell (aq b 2) v2).setCell (aq b 3) v3).setCell (aq b 4) v4) :=
 ((((h.setCell (p:=(aq b 0)) hb v0).setCell (p:=(aq b 1)) hb v1).setCell (p:=(aq b 2)) hb v2).setCell (p:=(aq b 3)) hb v3).setCell (p:=(aq b 4)) hb v4
def cnt (k:Int):Nat:=if k=1 then 3 else if k=2\/k=3 then 3 else if k=4 then 2 else 0
theorem jl8 {k t c u o:Int} (h:isB k t c u o=true):(jay k t c u o).all jbn=true/\(jay k t c u o).length=cnt k/\0<cnt k:=by
 unfold isB at h
 unfold jay cnt
 split at h
 ·next h1=>simp [h1] at h ⊢;simp [h]
 ·next h1 =>
  split at h
  ·next h2=>simp [h1,h2] at h ⊢;simp [h]
  ·next h2 =>
   split at h
   ·next h4=>simp [h4] at h ⊢;simp [h]
   ·simp at h
theorem jot:∀ (ns:List Int),ns.flatMap (fun n=>jcy n.toNat)=jct (ns.map Int.toNat)
 | []=>rfl
 | n :: ns=>by
   have:=jot ns
   simp only [List.flatMap_cons,List.map_cons,jct] at this ⊢
   rw [this]
theorem jco (k:Int) (ns:List Int):jao k ns=k :: jct (ns.map Int.toNat):=by
 unfold jao;rw [jot]
theorem jhj:∀ (ns:List Int),ns.all jbn=true->((ns.map Int.toNat).map fun n:Nat=>(n:Int))=ns
 | [],_=>rfl
 | n :: ns,h=>by
   simp at h
   obtain ⟨m,rfl,_,_⟩:=qch h.1
   have:=jhj ns (by simp;exact h.2)
   simp only [List.map_cons,this]
   simp
theorem qai {k k' t c u o:Int} {tl:List Int} (h:isB k' t c u o=true) (e:k :: tl=jao k' (jay k' t c u o)) :
 ∃ ns:List Nat,tl=jct ns/\ns.length=cnt k/\0<cnt k/\(ns.map fun n:Nat=>(n:Int)).all jbn=true:=by
 obtain ⟨ha,hl,hp⟩:=jl8 h
 rw [jco] at e
 simp at e
 obtain ⟨rfl,rfl⟩:=e
 exact ⟨_,rfl,by simpa using hl,hp,by rw [jhj _ ha];exact ha⟩
theorem qfr {ns:List Nat} (h:(ns.map fun n:Nat=>(n:Int)).all jbn=true):∀ n∈ns,n<34359738368:=by
 intro n hn
 have:=List.all_eq_true.1 h (n:Int) (List.mem_map.2 ⟨n,hn,rfl⟩)
 simp [jbn] at this
 omega
theorem js7 {k:Int} {count:Nat} {tl:List Int} (hc:cnt k=count) (H:∀ ns:List Nat,ns.length=count->(∀ n∈ns,n<34359738368)->tl≠jct ns):UN (k :: tl) 0 0 0 0 0 2 :=
 .inr ⟨rfl,rfl,rfl,rfl,rfl,rfl,fun k' t c u o h e=>by
  obtain ⟨ns,h1,h2,_,h4⟩:=qai h e
  exact H ns (h2.trans hc) (qfr h4) h1⟩
theorem jzl {k:Int} {tl:List Int} (hc:cnt k=0):UN (k :: tl) 0 0 0 0 0 2 :=
 .inr ⟨rfl,rfl,rfl,rfl,rfl,rfl,fun k' t c u o h e=>by
  obtain ⟨ns,_,_,h3,_⟩:=qai h e
  omega⟩
theorem qgj:UN [] 0 0 0 0 0 2:=.inr ⟨rfl,rfl,rfl,rfl,rfl,rfl,fun k' t c u o _ e=>by simp [jao] at e⟩
theorem jms {k:Int} {ms:List Nat} {tl:List Int} (hc:cnt k=ms.length) (ht:tl=jct ms) (hb:(ms.map fun n:Nat=>(n:Int)).all jbn=false):UN (k :: tl) 0 0 0 0 0 2 :=
 .inr ⟨rfl,rfl,rfl,rfl,rfl,rfl,fun k' t c u o h e=>by
  obtain ⟨ns,h1,h2,_,h4⟩:=qai h e
  obtain ⟨ms',e1,e2⟩:=jek ms ns [] (by omega) (by rw [← ht,h1];simp)
  have:ms'=[]:=List.eq_nil_of_length_eq_zero (by have:=congrArg List.length e1;simp at this;omega)
  subst this
  simp at e1
  subst e1
  rw [hb] at h4
  simp at h4⟩
theorem qc7 {a b c:Nat} {tl:List Int} (ht:tl=jct [a,b,c]) (h:[(a:Int),(b:Int),(c:Int)].all jbn=true):UN (1 :: tl) 1 a b c 0 0:=by
 simp at h
 exact .inl ⟨rfl,by simp [isB,h],by rw [jco,ht];simp [jay]⟩
theorem qay {a b c:Nat} {tl:List Int} (ht:tl=jct [a,b,c]) (h:[(a:Int),(b:Int),(c:Int)].all jbn=true):UN (2 :: tl) 2 a b 0 c 0:=by
 simp at h
 exact .inl ⟨rfl,by simp [isB,h],by rw [jco,ht];simp [jay]⟩
theorem qaw {a b c:Nat} {tl:List Int} (ht:tl=jct [a,b,c]) (h:[(a:Int),(b:Int),(c:Int)].all jbn=true):UN (3 :: tl) 3 a b 0 c 0:=by
 simp at h
 exact .inl ⟨rfl,by simp [isB,h],by rw [jco,ht];simp [jay]⟩
theorem qau {a b:Nat} {tl:List Int} (ht:tl=jct [a,b]) (h:[(a:Int),(b:Int)].all jbn=true):UN (4 :: tl) 4 0 a 0 b 0:=by
 simp at h
 exact .inl ⟨rfl,by simp [isB,h],by rw [jco,ht];simp [jay]⟩
theorem jog {w':World} {B:Nat} {l:List Int} {v:Value} (h:jlz w' B 3 l v true) :
 ∃ (x y z g cap:Nat),l=jct [x,y,z]/\v=.slice (some (aq g 0)) 3 cap/\B<=g/\g<w'.heap.size/\w'.cell? (aq g 0)=some (iv x)/\w'.cell? (aq g 1)=some (iv y)/\w'.cell? (aq g 2)=some (iv z):=by
 obtain ⟨ns,hn,_,hl,ho⟩:=h.1 rfl
 match ns,hn with
 | [x,y,z],_ =>
   rcases ho.2 with ⟨_,h0⟩|⟨g,cap,cur,rfl,hg,hh,_⟩
   ·simp at h0
   ·have c0:=ho.cells (g:=g) rfl 0 (iv x) rfl
    have c1:=ho.cells (g:=g) rfl 1 (iv y) rfl
    have c2:=ho.cells (g:=g) rfl 2 (iv z) rfl
    exact ⟨x,y,z,g,cap,hl,rfl,hg,(blt hh),by simpa [Addr.add_lit] using c0,by simpa [Addr.add_lit] using c1,by simpa [Addr.add_lit] using c2⟩
theorem qdf {w':World} {B:Nat} {l:List Int} {v:Value} (h:jlz w' B 2 l v true) :
 ∃ (x y g cap:Nat),l=jct [x,y]/\v=.slice (some (aq g 0)) 2 cap/\B<=g/\g<w'.heap.size/\w'.cell? (aq g 0)=some (iv x)/\w'.cell? (aq g 1)=some (iv y):=by
 obtain ⟨ns,hn,_,hl,ho⟩:=h.1 rfl
 match ns,hn with
 | [x,y],_ =>
   rcases ho.2 with ⟨_,h0⟩|⟨g,cap,cur,rfl,hg,hh,_⟩
   ·simp at h0
   ·have c0:=ho.cells (g:=g) rfl 0 (iv x) rfl
    have c1:=ho.cells (g:=g) rfl 1 (iv y) rfl
    exact ⟨x,y,g,cap,hl,rfl,hg,(blt hh),by simpa [Addr.add_lit] using c0,by simpa [Addr.add_lit] using c1⟩
end Go.Proofs.YtfhncfghblkgeaaGreat
