import Derived.Test.YtfhncfghblkgeaaGreatL04
set_option maxRecDepth 100000
set_option maxHeartbeats 2000000
namespace Go.Proofs.YtfhncfghblkgeaaGreat
open Go.RowKit
def jah (w:World) (a:Option Addr) (len cap:Nat) (l:List Int):Prop :=
 l.length=len/\len<=cap/\cap<=maxLen/\(∀ x∈l,0<=x/\x<256)/\(l≠[]->∃ b off,a=some (aq b off)/\b<w.heap.size/\∀ i,i<len->w.cell? (aq b (off+i))=some (.int .u8 (l.getD i 0)))
theorem qcl {k:Nat} (h:k<5):128 ^ k<=268435456:=Nat.le_trans (Nat.pow_le_pow_right (by omega) (show k<=4 by omega)) (by decide)
theorem qaj {a b c d:Int} (h:a=c) (h':b=d):Ending.returned (.tuple #[iv a,iv b])=.returned (.tuple #[iv c,iv d]):=by rw [h,h']
theorem jls (b off len cap:Nat) (l:List Int) (w:World) (hl:l.length=len) (hb:∀ x∈l,0<=x/\x<256) (hcell:∀ i,i<len->w.cell? (aq b (off+i))=some (.int .u8 (l.getD i 0))) :
 Calls Tryz.prog 130 #[.slice (some (aq b off)) len cap] w fun e w'=>∃ n k:Nat,e=.returned (.tuple #[iv n,iv k])/\RN l n k/\w=w':=by
 go_enter Tryz.func130,Tryz.ntmps130
 go_wp2
 go_loop [4,5,6] (fun n wt i=>∃ k v W:Nat,k<=len/\k<=5/\n=iv v/\wt=iv W/\i=iv k/\Hid (v=jh0 (l.take k))/\Hid (W=128 ^ k)/\Hid (jxz (l.take k))) (fun _ _ i=>len - (intOf i).toNat)
 case atStart=>exact ⟨0,0,1,Nat.zero_le _,by omega,rfl,rfl,rfl,by simp [Hid,jh0],rfl,fun _ h=>by simp at h⟩
 case round =>
  obtain ⟨k,v,W,hk,hk5,rfl,rfl,rfl,hv,hW,hg⟩:=hrel
  by_cases hlt:k<len
  ·by_cases h5:k<5
   ·have hc:=hcell k hlt
    have hxb:=hb (l.getD k 0) (by simp [List.getD,List.getElem?_eq_getElem (show k<l.length by omega)])
    generalize hx:l.getD k 0=x at hc hxb
    have HX:Hid (l.getD k 0=x):=hx
    clear hx hcell hb
    obtain ⟨hx0,hx1⟩:=hxb
    have hWb:W<=268435456:=by rw [hW.out];exact qcl h5
    have hvb:v<34359738368:=by
     rw [hv.out]
     exact Nat.lt_of_lt_of_le (jro _) (Nat.le_trans (Nat.pow_le_pow_right (by omega) (show (l.take k).length<=5 by simp;omega)) (by decide))
    obtain ⟨X,rfl⟩:=Int.eq_ofNat_of_zero_le hx0
    have hp0:(0:Int)<=(X:Int) % 128 * (W:Int):=Int.mul_nonneg (by omega) (by omega)
    have hp1:(X:Int) % 128 * (W:Int)<=127 * 268435456:=Int.mul_le_mul (by omega) (by omega) (by omega) (by omega)
    by_cases hz:X=0
    ·subst hz
     by_cases hk0:k=0
     ·subst hk0
      have hv0:v=0:=by rw [hv.out];rfl
      have hW1:W=1:=hW.out
      subst hv0 hW1
      have HR:Hid (RN l (0+0 % 128 * 1) 1):=jv7 hv.out hW.out hg.out (by omega) (by omega) HX.out (by omega) (.inl rfl)
      have hc':w.cell? (aq b off)=some (.int .u8 0):=hc
      clear hc hp0 hp1 hvb hWb hx0 hx1 hk hk5 h5
      have hlt':(0:Int)<(len:Int):=by omega
      go_wp2
      go_ret2
      exact ⟨0,1,rfl,HR.out,rfl⟩
     ·have hkp:(0:Int)<(k:Int):=by omega
      go_wp2
      go_ret2
      exact ⟨0,0,rfl,qan hg.out (by omega) (by omega) HX.out,rfl⟩
    ·have hz':((X:Int)==0)=false:=by simp;omega
     by_cases h128:X<128
     ·go_wp2
      go_ret2
      exact ⟨v+X % 128 * W,k+1,qaj (by rw [Int.natCast_add,Int.natCast_mul,Int.natCast_emod];rfl) (by go_num),jv7 hv.out hW.out hg.out (by omega) h5 HX.out h128 (.inr hz),rfl⟩
     ·go_wp2
      go_round
      case rel=>exact ⟨k+1,v+X % 128 * W,W * 128,by omega,by omega,by rw [Int.natCast_add,Int.natCast_mul,Int.natCast_emod];rfl,by go_num,by go_num,(jna hv.out hW.out (by omega) HX.out).1,(jna hv.out hW.out (by omega) HX.out).2,jv1 hg.out (by omega) HX.out (by omega) (by omega)⟩
      case measure=>simp [intOf];omega
   ·have hk5':k=5:=by omega
    subst hk5'
    go_wp2
    go_ret2
    exact ⟨0,0,rfl,jre hg.out (.inr rfl),rfl⟩
  ·have hke:k=len:=by omega
   subst hke
   go_wp2
   go_ret2
   exact ⟨0,0,rfl,jre hg.out (.inl hl.symm),rfl⟩
theorem jru (b off cap:Nat) (x y z:Int) (w:World) (h0:w.cell? (aq b off)=some (iv x)) (h1:w.cell? (aq b (off+1))=some (iv y)) (h2:w.cell? (aq b (off+2))=some (iv z)) :
 Calls Tryz.prog 98 #[iv 1,.slice (some (aq b off)) 3 cap] w fun e w'=>e=.returned (.agg #[iv 1,iv x,iv y,iv z,iv 0])/\Below w.heap.size w w':=by
 have hb:b<w.heap.size:=World.block_lt_of_cell? w _ h0
 go_enter Tryz.func98,Tryz.ntmps98
 go_wp2
 go_region
 go_wp2
 exact bodyPost_ret (v:=.agg #[iv 1,iv x,iv y,iv z,iv 0]) (by simp [results,Tryz.results98,go_sem]) rfl ⟨rfl,bL⟩
theorem jra (b off cap:Nat) (x y z:Int) (w:World) (h0:w.cell? (aq b off)=some (iv x)) (h1:w.cell? (aq b (off+1))=some (iv y)) (h2:w.cell? (aq b (off+2))=some (iv z)) :
 Calls Tryz.prog 98 #[iv 2,.slice (some (aq b off)) 3 cap] w fun e w'=>e=.returned (.agg #[iv 2,iv x,iv y,iv 0,iv z])/\Below w.heap.size w w':=by
 have hb:b<w.heap.size:=World.block_lt_of_cell? w _ h0
 go_enter Tryz.func98,Tryz.ntmps98
 go_wp2
 go_region
 go_wp2
 exact bodyPost_ret (v:=.agg #[iv 2,iv x,iv y,iv 0,iv z]) (by simp [results,Tryz.results98,go_sem]) rfl ⟨rfl,bL⟩
theorem jql (b off cap:Nat) (x y z:Int) (w:World) (h0:w.cell? (aq b off)=some (iv x)) (h1:w.cell? (aq b (off+1))=some (iv y)) (h2:w.cell? (aq b (off+2))=some (iv z)) :
 Calls Tryz.prog 98 #[iv 3,.slice (some (aq b off)) 3 cap] w fun e w'=>e=.returned (.agg #[iv 3,iv x,iv y,iv 0,iv z])/\Below w.heap.size w w':=by
 have hb:b<w.heap.size:=World.block_lt_of_cell? w _ h0
 go_enter Tryz.func98,Tryz.ntmps98
 go_wp2
 go_region
 go_wp2
 exact bodyPost_ret (v:=.agg #[iv 3,iv x,iv y,iv 0,iv z]) (by simp [results,Tryz.results98,go_sem]) rfl ⟨rfl,bL⟩
theorem jrs (b off cap:Nat) (x y:Int) (w:World) (h0:w.cell? (aq b off)=some (iv x)) (h1:w.cell? (aq b (off+1))=some (iv y)) :
 Calls Tryz.prog 98 #[iv 4,.slice (some (aq b off)) 2 cap] w fun e w'=>e=.returned (.agg #[iv 4,iv 0,iv x,iv 0,iv y])/\Below w.heap.size w w':=by
 have hb:b<w.heap.size:=World.block_lt_of_cell? w _ h0
 go_enter Tryz.func98,Tryz.ntmps98
 go_wp2
 go_region
 go_wp2
 exact bodyPost_ret (v:=.agg #[iv 4,iv 0,iv x,iv 0,iv y]) (by simp [results,Tryz.results98,go_sem]) rfl ⟨rfl,bL⟩
theorem Tryz.infoU8:(Tryz.prog.info? 5).map (fun i=>(i.zero,i.size,i.bytes))=some (some (.int .u8 0),1,1):=by kernel_rfl
theorem jg5 {w:World} {base base':Nat} {e:TypeId} {size:Nat} {v:Value} {n:Nat} {xs:List Value} (h:w.ownsRow base e size v n xs) (hb:base'<=base):w.ownsRow base' e size v n xs:=by
 refine ⟨h.1,?_⟩
 rcases h.2 with h|⟨g,cap,cur,h1,h2,h3⟩
 ·exact .inl h
 ·exact .inr ⟨g,cap,cur,h1,Nat.le_trans hb h2,h3⟩
theorem jo9 (w:World) (base:Nat) (e:TypeId) (hb:base<=w.heap.size):(w.alloc (.cells #[] e)).ownsRow base e 1 (.slice (some (aq w.heap.size 0)) 0 0) 0 [] :=
 World.ownsRow_made w #[] 0 hb (Nat.zero_le _) rfl
theorem jk4 {n m:Nat} {g:List Int} (h:jcn n=g++jcn m) (hm:¬ m<128):jcn n=(g++[((m % 128+128:Nat):Int)])++jcn (m / 128):=by
 rw [h,jcu (n:=m) (by omega)];simp
theorem jcy (b cap:Nat) (x y z:Int) (w:World) (h0:w.cell? (aq b 0)=some (iv x)) (h1:w.cell? (aq b 1)=some (iv y)) (h2:w.cell? (aq b 2)=some (iv z)) :
 Calls Tryz.prog 90 #[.slice (some (aq b 0)) 3 cap] w fun e w'=>e=.returned (.bool ([x,y,z].all jby))/\w=w' :=
 jf3 b 0 cap [x,y,z] w (by simp) (fun i hi=>by
  match i,hi with
  | 0,_=>simpa using h0
  | 1,_=>simpa using h1
  | 2,_=>simpa using h2)
theorem jii (b cap:Nat) (x y:Int) (w:World) (h0:w.cell? (aq b 0)=some (iv x)) (h1:w.cell? (aq b 1)=some (iv y)) :
 Calls Tryz.prog 90 #[.slice (some (aq b 0)) 2 cap] w fun e w'=>e=.returned (.bool ([x,y].all jby))/\w=w' :=
 jf3 b 0 cap [x,y] w (by simp) (fun i hi=>by
  match i,hi with
  | 0,_=>simpa using h0
  | 1,_=>simpa using h1)
theorem jzz {x:Int} (h:jby x=true):∃ n:Nat,x=n/\1<=n/\n<=4294967296:=by
 simp [jby] at h
 exact ⟨x.toNat,by omega,by omega,by omega⟩
theorem jh8 {w:World} {B:Nat} {e:TypeId} (h:w.heap.size=B) (x:Value):(w.alloc (.cells #[x] e)).ownsRow B e 1 (.slice (some (aq B 0)) 1 1) 1 [x]:=by
 subst h
 exact ⟨rfl,.inr ⟨w.heap.size,1,#[x],rfl,Nat.le_refl _,heap_alloc_new w _,Nat.le_refl _,by unfold maxLen;omega,rfl,rfl⟩⟩
theorem Tryz.infoInt:(Tryz.prog.info? 3).map (fun i=>(i.zero,i.size,i.bytes))=some (some (iv 0),1,8):=by kernel_rfl
theorem qct:RN [] 0 0:=jre (k:=0) (fun _ h=>by simp at h) (.inl rfl)
theorem jm2 (a:Option Addr) (cap:Nat) (w:World) :
 Calls Tryz.prog 130 #[.slice a 0 cap] w fun e w'=>∃ n k:Nat,e=.returned (.tuple #[iv n,iv k])/\RN [] n k/\w=w':=by
 go_enter Tryz.func130,Tryz.ntmps130
 go_wp2
 go_loop [4,5,6] (fun _ _ i=>i=iv 0) (fun _ _ _=>0)
 case atStart=>rfl
 case round =>
  subst hrel
  go_wp2
  go_ret2
  exact ⟨0,0,rfl,qct,rfl⟩
theorem jm0 (a:Option Addr) (len cap:Nat) (l:List Int) (w:World) (h:jah w a len cap l) :
 Calls Tryz.prog 130 #[.slice a len cap] w fun e w'=>∃ n k:Nat,e=.returned (.tuple #[iv n,iv k])/\RN l n k/\w=w':=by
 obtain ⟨hl,hlc,hm,hb,hc⟩:=h
 by_cases h0:l=[]
 ·subst h0
  simp at hl
  subst hl
  exact jm2 a cap w
 ·obtain ⟨b,off,rfl,_,hcell⟩:=hc h0
  exact jls b off len cap l w hl hb hcell
def jci (ns:List Nat):List Int:=ns.flatMap jcn
theorem je3:∀ (ns ms:List Nat) (rest:List Int),ns.length<=ms.length->jci ns++rest=jci ms->∃ ms',ms=ns++ms'/\rest=jci ms'
 | [],ms,rest,_,h=>⟨ms,rfl,by simpa [jci] using h⟩
 | n :: ns,[],rest,hl,_=>by simp at hl
 | n :: ns,m :: ms,rest,hl,h=>by
   have h':jcn n++(jci ns++rest)=jcn m++jci ms:=by simpa [jci,List.append_assoc] using h
   obtain ⟨rfl,h2⟩:=jz6 h'
   obtain ⟨ms',rfl,hr⟩:=je3 ns ms rest (by simpa using hl) h2
   exact ⟨ms',rfl,hr⟩
theorem jtj (ns:List Nat) (n:Nat):jci (ns++[n])=jci ns++jcn n:=by simp [jci]
theorem jbf {w w':World} {a:Option Addr} {len cap:Nat} {l:List Int} (h:jah w a len cap l) (hb:Below w.heap.size w w'):jah w' a len cap l:=by
 obtain ⟨h1,h2,h3,h4,h5⟩:=h
 refine ⟨h1,h2,h3,h4,fun hn=>?_⟩
 obtain ⟨b,off,ha,hb',hc⟩:=h5 hn
 exact ⟨b,off,ha,Nat.lt_of_lt_of_le hb' hb.size,fun i hi=>(hb.cell (p:=(aq b (off+i))) hb').trans (hc i hi)⟩
theorem jjq {w:World} {b off len cap k:Nat} {g r:List Int} (h:jah w (some (aq b off)) len cap (g++r)) (hk:g.length=k):jah w (if cap=k then some (aq b off) else some (aq b (off+k))) (len - k) (cap - k) r:=by
 obtain ⟨h1,h2,h3,h4,h5⟩:=h
 simp at h1
 refine ⟨by omega,by omega,by omega,fun x hx=>h4 x (by simp [hx]),fun hn=>?_⟩
 have hrl:0<r.length:=List.length_pos_iff.2 hn
 obtain ⟨b',off',ha,hb',hc⟩:=h5 (by simp [hn])
 simp at ha
 obtain ⟨rfl,rfl⟩:=ha
 refine ⟨b,off+k,by rw [if_neg (by omega)],hb',fun i hi=>?_⟩
 have:=hc (k+i) (by omega)
 rw [Nat.add_assoc,this]
 congr 2
 simp [List.getD,List.getElem?_append_right (show g.length<=k+i by omega)]
 congr 2
 omega
def jwi (ns:List Nat):List Value:=ns.map fun n:Nat=>Value.int .i64 (n:Int)
theorem jne (ns:List Nat) (n:Nat):jwi (ns++[n])=jwi ns++[iv (n:Int)]:=by simp [jwi]
def jl7 (w':World) (B count:Nat) (l:List Int) (v:Value) (ok:Bool):Prop :=
 (ok=true->∃ ns:List Nat,ns.length=count/\(∀ n∈ns,n<34359738368)/\l=jci ns/\w'.ownsRow B 3 1 v ns.length (jwi ns)) ∧
 (ok=false->∀ ns:List Nat,ns.length=count->(∀ n∈ns,n<34359738368)->l≠jci ns)
theorem qbp {ns:List Nat} {count:Nat} {l rest:List Int} (hl:l=jci ns++rest) (hn:ns.length<count) (h:∀ (m:Nat) (r:List Int),m<34359738368->rest≠jcn m++r) :
 ∀ ms:List Nat,ms.length=count->(∀ n∈ms,n<34359738368)->l≠jci ms:=by
 intro ms hms hb e
 obtain ⟨ms',rfl,hr⟩:=je3 ns ms rest (by omega) (hl.symm.trans e)
 match ms' with
 | []=>simp at hms;omega
 | m :: ms'=>exact h m (jci ms') (hb m (by simp)) (by rw [hr];simp [jci])
theorem qc7 {ns:List Nat} {count:Nat} {l rest:List Int} (hl:l=jci ns++rest) (hn:ns.length=count) (h:rest≠[]) :
 ∀ ms:List Nat,ms.length=count->(∀ n∈ms,n<34359738368)->l≠jci ms:=by
 intro ms hms _ e
 obtain ⟨ms',rfl,hr⟩:=je3 ns ms rest (by omega) (hl.symm.trans e)
 match ms' with
 | []=>exact h (by rw [hr];rfl)
 | m :: ms'=>simp at hms;omega
theorem jg0 (a:Option Addr) (len cap count:Nat) (l:List Int) (w:World) (hc:count<=3) (h:jah w a len cap l) :
 Calls Tryz.prog 97 #[.slice a len cap,iv count] w fun e w'=>∃ v ok,e=.returned (.tuple #[v,.bool ok])/\jl7 w' w.heap.size count l v ok/\Below w.heap.size w w':=by
 obtain ⟨i0,hi,hz0,hz1,hz2⟩:=info_parts Tryz.infoInt
 have HS:Hid (jah w a len cap l):=h
 clear h
 generalize hB:w.heap.size=B
 have HB:Hid (w.heap.size=B):=hB
 go_enter Tryz.func97,Tryz.ntmps97
 go_wp2_with fail
 clear hB
 go_loopw [0,6,7] (fun b v i wr=>∃ (ns:List Nat) (a':Option Addr) (len' cap':Nat) (rest:List Int),ns.length<=count/\b=.slice a' len' cap'/\i=iv ns.length/\Hid (jah w a' len' cap' rest)/\Hid (l=jci ns++rest)/\Hid (∀ n∈ns,n<34359738368)/\wr.ownsRow B 3 1 v ns.length (jwi ns)/\Below B w wr) (fun _ _ i _=>count - (intOf i).toNat)
 case atStart =>
  exact ⟨[],a,len,cap,l,Nat.zero_le _,rfl,rfl,HS,rfl,fun _ h=>by simp at h,by have:=jo9 w B 3 (by rw [HB.out];exact Nat.le_refl _);rw [HB.out] at this;exact this,(Below.refl _ _).alloc (by rw [HB.out];exact Nat.le_refl _) _⟩
 case round =>
  obtain ⟨ns,a',len',cap',rest,hns,rfl,rfl,hs,hl,hnb,hown,hbel⟩:=hrel
  have hsz:B<=wr.heap.size:=by have:=hbel.size;rw [HB.out] at this;exact this
  by_cases hlt:ns.length<count
  ·go_wp2_with fail
   refine (jm0 a' len' cap' rest _ (jbf hs.out (by rw [HB.out];exact hbel))).mono ?_
   rintro e w1 ⟨n,k,rfl,hrn,rfl⟩
   rcases hrn with ⟨rfl,rfl,hno⟩|⟨r,hn,hk,hr⟩
   ·have HN:Hid (∀ ms:List Nat,ms.length=count->(∀ n∈ms,n<34359738368)->l≠jci ms):=qbp hl hlt hno
    clear hno
    go_wp2
    go_ret2
    exact ⟨_,_,rfl,⟨fun h=>by simp at h,fun _=>HN.out⟩,hbel⟩
   ·have hkp:1<=k:=by rw [hk];exact jde n
    obtain ⟨hrl,hlc,_,_,hcl⟩:=hs.out
    obtain ⟨b,off,rfl,_,_⟩:=hcl (by rw [hr];have:=jde n;intro e;have:=congrArg List.length e;simp at this;simp [this.1] at *)
    have hkl:k<=len':=by rw [hr] at hrl;simp at hrl;omega
    have HD:Hid (jah w (if cap'=k then some (aq b off) else some (aq b (off+k))) (len' - k) (cap' - k) r):=jjq (by rw [← hr];exact hs.out) hk.symm
    have HL:Hid (l=jci (ns++[n])++r):=by unfold Hid;rw [jtj,List.append_assoc,← hr];exact hl
    have HNB:Hid (∀ m∈ns++[n],m<34359738368):=by
     intro m hm
     rcases List.mem_append.1 hm with h|h
     ·exact hnb.out m h
     ·simp at h;omega
    have HO:Hid (∀ k,u6.ownBlock=some k->B<=k/\k<wr.heap.size):=World.ownsRow.lt hown
    have hcap0:(k:Int)<=(len':Int):=by omega
    clear hs hl hr hk hcl hnb hrl
    by_cases hcap:cap'=k
    ·subst hcap
     rw [if_pos rfl,show len' - cap'=0 by omega,Nat.sub_self] at HD
     go_wp2_with (at_builtin;refine wpList_append_own _ rfl _ _ 25 rfl B 3 i0 (iv 0) 1 8 Tryz.underlying25 hi hz0 hz1 hz2 rfl (by decide) _ _ _ rfl (hown.alloc _) (aq wr.heap.size 0) 1 1 [iv n] rfl rfl ?c1 ?c2 ?c3 ?c4 ?c5 ?_)
     case c1=>exact cell_one_new _ _ _
     case c2=>intro u hu;simp at hu;subst hu;rfl
     case c3=>unfold maxLen;omega
     case c4=>omega
     case c5=>simp;omega
     intro v' w1 hown' hgrow _
     clear hown
     go_wp2
     go_roundw
     case rel =>
      refine ⟨ns++[n],_,_,_,r,by simp<;>omega,rfl,by simp,HD,HL,HNB,?_,?_⟩
      ·rw [jne];simpa using hown'
      ·exact (hbel.alloc hsz _).grown hgrow (by simp;omega) (fun k hk=>(HO.out k hk).1)
     case measure=>simp [intOf];omega
    ·rw [if_neg hcap] at HD
     go_wp2_with (at_builtin;refine wpList_append_own _ rfl _ _ 25 rfl B 3 i0 (iv 0) 1 8 Tryz.underlying25 hi hz0 hz1 hz2 rfl (by decide) _ _ _ rfl (hown.alloc _) (aq wr.heap.size 0) 1 1 [iv n] rfl rfl ?c1 ?c2 ?c3 ?c4 ?c5 ?_)
     case c1=>exact cell_one_new _ _ _
     case c2=>intro u hu;simp at hu;subst hu;rfl
     case c3=>unfold maxLen;omega
     case c4=>omega
     case c5=>simp;omega
     intro v' w1 hown' hgrow _
     clear hown
     go_wp2
     go_roundw
     case rel =>
      refine ⟨ns++[n],_,_,_,r,by simp<;>omega,rfl,by simp,HD,HL,HNB,?_,?_⟩
      ·rw [jne];simpa using hown'
      ·exact (hbel.alloc hsz _).grown hgrow (by simp;omega) (fun k hk=>(HO.out k hk).1)
     case measure=>simp [intOf];omega
  ·have hce:ns.length=count:=by omega
   have hrl:rest.length=len':=hs.out.1
   by_cases h0:len'=0
   ·have hr0:rest=[]:=List.eq_nil_of_length_eq_zero (by omega)
    subst hr0
    have HL:Hid (l=jci ns):=by unfold Hid;have:=hl.out;simpa using this
    clear hl hs
    subst h0
    go_wp2
    go_ret2
    exact ⟨_,_,rfl,⟨fun _=>⟨ns,hce,hnb.out,HL.out,hown⟩,fun h=>by simp at h⟩,hbel⟩
   ·have HN:Hid (∀ ms:List Nat,ms.length=count->(∀ n∈ms,n<34359738368)->l≠jci ms):=qc7 hl hce (fun e=>h0 (by rw [← hrl,e];rfl))
    have h0':((len':Int)==0)=false:=by simp;omega
    clear hl hs
    go_wp2
    go_ret2
    exact ⟨_,_,rfl,⟨fun h=>by simp at h,fun _=>HN.out⟩,hbel⟩
end Go.Proofs.YtfhncfghblkgeaaGreat
