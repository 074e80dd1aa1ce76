import Derived.Test.YtfhncfghblkgeaaGreatL41
import Derived.Test.YtfhncfghblkgeaaGreatL42
set_option maxRecDepth 100000
set_option maxHeartbeats 2000000
namespace Go.Proofs.YtfhncfghblkgeaaGreat
open Go.RowKit
section
theorem qah (x:Nat) (c o pk po pc pu:Int) (w:World) (own:Nat->Prop) (P0 P1:World->(Nat->Prop)->Prop) (K0:Keeps P0) (K1:Keeps P1) (h:P0 w own)
 (HD:Hid (∀ W o',P0 W o'->Calls Tryz.prog 15 #[pt x 0,.agg #[iv 0,iv 4,iv 0,iv c,iv 0,iv o]] W fun e w'=>e=.returned (.tuple #[.agg #[iv pk,iv po,iv pc,iv pu],.bool true])/\jap P1 W w' o')) :
 Calls Tryz.prog 37 #[pt x 0,iv c,iv o] w fun e w'=>e=.returned (.tuple #[.agg #[iv pk,iv po,iv pc,iv pu],.bool true])/\jap P1 w w' own:=by
 have HW:Hid (∀ k,own k->k<w.heap.size):=K0.lt h
 have HDs:Hid _:=jcl (m:=1) HW.out HD.out
 have hT0:Hid (jba P0 w own 1 (w.alloc (.cells #[iv 0,iv 0,iv 0,iv 0] 42))):=jd4 K0 h ((Below.refl _ _).alloc (Nat.le_refl _) _) (by simp)
 have rb0:Hid ((w.alloc (.cells #[iv 0,iv 0,iv 0,iv 0] 42)).heap[w.heap.size]?=some (.cells #[iv 0,iv 0,iv 0,iv 0] 42 (0,0))):=heap_alloc_new w _
 clear h
 go_enter Tryz.func37,Tryz.ntmps37
 go_wp2_with fail
 generalize w.alloc (.cells #[iv 0,iv 0,iv 0,iv 0] 42)=W0 at hT0 rb0 ⊢
 refine (HDs.out _ hT0.out).mono ?_
 rintro e W1 ⟨rfl,hT1,hk⟩
 have rb1:Hid _:=(hk _ (Nat.le_refl _) (by omega)).trans rb0.out
 have lr1:w.heap.size<W1.heap.size:=(blt rb1.out)
 have HE:Hid (∀ v0 v1 v2 v3,jap P1 w ((((W1.setCell (aq w.heap.size 0) v0).setCell (aq w.heap.size 1) v1).setCell (aq w.heap.size 2) v2).setCell (aq w.heap.size 3) v3) own):=fun v0 v1 v2 v3=>jdu (jiz K1 hT1 HW.out (by omega) (by omega) v0 v1 v2 v3)
 have f0:=ja0 rb1.out 0
 have f1:=ja0 rb1.out 1
 have f2:=ja0 rb1.out 2
 have f3:=ja0 rb1.out 3
 obtain ⟨z0,z1,z2,z3⟩:=jck rb1.out
 clear hT1 hk HW rb0 hT0 HDs HD
 go_wp2
 refine bodyPost_ret (v:=.tuple #[.agg #[iv pk,iv po,iv pc,iv pu],.bool true]) (by simp [results,Tryz.results37,go_sem,z0,z1,z2,z3]) rfl ⟨rfl,?_⟩
 exact HE.out _ _ _ _
theorem qes:inI 0:=⟨by decide,by decide⟩
theorem qgp:inI 4:=⟨by decide,by decide⟩
section
variable {w:World} {x:Nat} {own:Nat->Prop} {S:Sal}
def Sal.pollK (S:Sal) (c o:Int):Rep:=(S.does ⟨0,4,0,c,0,o⟩).1
theorem jv3 (S:Sal) (c o:Int):(S.does ⟨0,4,0,c,0,o⟩).2=S:=by
 unfold Sal.does
 rw [if_pos (by show (0:Int)<=4/\(4:Int)<256;omega),if_neg (by show ¬ (4:Int)=0;omega)]
 unfold Sal.sendK
 split
 ·unfold Sal.send
  rw [if_neg (fun c=>c rfl),if_pos (show (Stp.req _).kind=4 from rfl)]
 ·rfl
theorem jph (h:PSK w x own S) (c o:Int) (hc:inI c) (ho:inI o) :
 Calls Tryz.prog 37 #[pt x 0,iv c,iv o] w fun e w'=>e=.returned (.tuple #[(S.pollK c o).val,.bool true])/\jap (jm6 x S) w w' own:=by
 refine qah x c o _ _ _ _ w own (jm6 x S) (jm6 x S) (jed _ _) (jed _ _) h (fun W o' hp=>?_)
 have:=jpf hp ⟨0,4,0,c,0,o⟩ ⟨qes,qgp,qes,hc,qes,ho⟩
 rw [jv3] at this
 exact this
def jht (C:Cfg):Sal:=⟨C,0,[],[]⟩
theorem qfd {n0 n1 n2 n3 n4 n5 n6:Int} {ts:List (Int × Int)} (hc:jh2 [n0,n1,n2,n3,n4,n5,n6] ts=true):salJ (jht ⟨n0,n1,n2,n3,n4,n5,n6,ts⟩)/\keepI (jht ⟨n0,n1,n2,n3,n4,n5,n6,ts⟩):=by
 have hc':=hc
 unfold jh2 at hc'
 simp only [List.all_cons,List.all_nil,Bool.and_true,Bool.and_eq_true] at hc'
 obtain ⟨⟨h0,h1,h2,h3,h4,h5,h6⟩,hp⟩:=hc'
 have hp':=hp
 unfold jbo at hp'
 simp only [Bool.and_eq_true,decide_eq_true_eq,List.all_eq_true,List.mem_range] at hp'
 obtain ⟨⟨hl1,hl4⟩,ht⟩:=hp'
 have hti:∀ i,i<ts.length->(1<=(ts.getD i (0,0)).2/\(ts.getD i (0,0)).2<=1073741824)/\(i=0->(ts.getD i (0,0)).1=0):=fun i hi=>by
  have:=ht i hi
  unfold jea at this
  simp only [Bool.and_eq_true,decide_eq_true_eq] at this
  refine ⟨⟨this.1.1.1,this.1.1.2⟩,fun e=>?_⟩
  have h2:=this.2
  rw [if_pos e] at h2
  simpa using h2
 have hmem:∀ p∈ts,1<=p.2/\p.2<=1073741824:=fun p hp=>by
  obtain ⟨i,hi,e⟩:=List.getElem_of_mem hp
  have:=(hti i hi).1
  simpa [List.getD,List.getElem?_eq_getElem hi,e] using this
 have b0:=jcr h0
 have b1:=jcr h1
 have b2:=jcr h2
 have b3:=jcr h3
 have b4:=jcr h4
 refine ⟨⟨⟨fun o ho=>by simp [jht] at ho,?_,fun c _=>?_,?_,?_,fun o ho=>by simp [jht] at ho,fun p hp=>?_⟩,b1.2,b2.1,by simp [jht],fun a ha=>by simp [jht] at ha⟩,⟨⟨hl1,?_,fun p hp=>(hmem p hp).1⟩,fun o ho=>by simp [jht] at ho,fun a ha=>by simp [jht] at ha⟩⟩
 ·show ja4 [] 13 0+ja4 [] 14 0<=n0
  simp [ja4];omega
 ·show ja4 [] 12 c<=4294967296
  simp [ja4]
 ·show 0<=n0/\n0<=4294967296/\0<=n3/\n3<=4294967296/\0<=n4/\n4<=4294967296
  omega
 ·show (0:Int)<=0/\(0:Int)<=4611686018427387904
  omega
 ·have:=hmem p hp
  omega
 ·exact (hti 0 (by omega)).2 rfl
theorem jsl {ts:List (Int × Int)} (hp:jbo ts=true):∀ k,1<=k->k<=ts.length->jc7 ts 0 k=(ts.getD 0 (0,0)).2:=by
 unfold jbo at hp
 simp only [Bool.and_eq_true,decide_eq_true_eq,List.all_eq_true,List.mem_range] at hp
 obtain ⟨⟨hl1,hl4⟩,ht⟩:=hp
 have hti:∀ i,i<ts.length->(i=0->(ts.getD i (0,0)).1=0)/\(i≠0->(ts.getD (i - 1) (0,0)).1<(ts.getD i (0,0)).1):=fun i hi=>by
  have:=ht i hi
  unfold jea at this
  simp only [Bool.and_eq_true,decide_eq_true_eq] at this
  have h2:=this.2
  refine ⟨fun e=>?_,fun e=>?_⟩
  ·rw [if_pos e] at h2;simpa using h2
  ·rw [if_neg e] at h2;simpa using h2
 have hpos:∀ i,i<ts.length->i≠0->0<(ts.getD i (0,0)).1:=by
  intro i
  induction i with
  | zero=>intro _ h;exact absurd rfl h
  | succ i ih =>
    intro hi _
    have h1:=(hti (i+1) hi).2 (by omega)
    rw [Nat.add_sub_cancel] at h1
    by_cases e:i=0
    ·have:=(hti 0 (by omega)).1 rfl
     rw [e] at h1 ⊢
     omega
    ·have:=ih (by omega) e
     omega
 intro k
 induction k with
 | zero=>intro h;omega
 | succ k ih =>
   intro _ hk
   rw [jc7]
   by_cases e:k=0
   ·rw [e,(hti 0 (by omega)).1 rfl,if_pos (Int.le_refl _)]
   ·have:=hpos k (by omega) e
    rw [if_neg (by omega)]
    exact ih (by omega) (by omega)
theorem jwl {n0 n1 n2 n3 n4 n5 n6:Int} {ts:List (Int × Int)} (hc:jh2 [n0,n1,n2,n3,n4,n5,n6] ts=true):((jht ⟨n0,n1,n2,n3,n4,n5,n6,ts⟩).sendK ⟨0,1,1,1,1,0⟩).1=⟨2,1,(ts.getD 0 (0,0)).2,n3⟩:=by
 have hc':=hc
 unfold jh2 at hc'
 simp only [List.all_cons,List.all_nil,Bool.and_true,Bool.and_eq_true] at hc'
 obtain ⟨⟨h0,h1,h2,h3,h4,h5,h6⟩,hp⟩:=hc'
 have b0:=jcr h0
 have b1:=jcr h1
 have b6:=jcr h6
 have hlen:1<=ts.length:=by
  have hp':=hp
  unfold jbo at hp'
  simp only [Bool.and_eq_true,decide_eq_true_eq] at hp'
  exact hp'.1.1
 have hu:∀ st c:Int,ja4 [] st c=0:=fun st c=>by simp [ja4]
 have hpr:(jht ⟨n0,n1,n2,n3,n4,n5,n6,ts⟩).price=(ts.getD 0 (0,0)).2:=by
  show jc7 ts (ja4 [] 14 0) ts.length=_
  rw [hu]
  exact jsl hp _ hlen (Nat.le_refl _)
 have hask:((jht ⟨n0,n1,n2,n3,n4,n5,n6,ts⟩).ask ⟨1,1,1,1,0⟩).1=⟨2,1,(ts.getD 0 (0,0)).2,n3⟩:=by
  obtain ⟨e1,e2⟩:=jcw (jht ⟨n0,n1,n2,n3,n4,n5,n6,ts⟩) 1 1
  unfold Sal.ask
  rw [if_neg (by show ¬ n1<ja4 [] 13 1+ja4 [] 14 1+ja4 [] 12 1+1;rw [hu,hu,hu];omega)]
  rw [if_neg (by show ¬ n0 - ja4 [] 14 0<1;rw [hu];omega)]
  rw [if_neg (by show ¬ 4294967296<=0;omega)]
  rw [if_pos ⟨rfl,by show (1:Int)<=n0 - ja4 [] 14 0 - ja4 [] 13 0;rw [hu,hu];omega⟩]
  have e3:((jht ⟨n0,n1,n2,n3,n4,n5,n6,ts⟩).more ⟨1,1,0,0,0,0⟩).holds (jht ⟨n0,n1,n2,n3,n4,n5,n6,ts⟩).os.length=(jht ⟨n0,n1,n2,n3,n4,n5,n6,ts⟩).more ⟨1,1,13,(jht ⟨n0,n1,n2,n3,n4,n5,n6,ts⟩).price,(jht ⟨n0,n1,n2,n3,n4,n5,n6,ts⟩).now+(jht ⟨n0,n1,n2,n3,n4,n5,n6,ts⟩).C.lease,0⟩:=by rw [e1,e2]
  simp only
  rw [e3,hpr]
  simp [Sal.more,jht]
 unfold Sal.sendK
 rw [if_pos (by rfl)]
 unfold Sal.send
 rw [if_neg (fun c=>c rfl),if_neg (by show ¬ (1:Int)=4;omega)]
 have hus:(jht ⟨n0,n1,n2,n3,n4,n5,n6,ts⟩).used (Stp.req ⟨0,1,1,1,1,0⟩).token=none:=rfl
 rw [hus]
 simp only
 rw [if_neg (by show ¬ ((0:Nat):Int)=n6;omega)]
 exact hask
theorem jza (p:Stp) {ba:Option Addr} {bl bc:Nat} (hps:PSW w x own S) (hJ:salJ S) (hsl:jai w ba bl bc p.bytes) :
 Calls Tryz.prog 33 #[pt x 0,.slice ba bl bc] w fun e w'=>e=.returned (S.sendK p).1.val/\jap (fun W o=>PSW W x o (S.sendK p).2) w w' own:=by
 unfold Sal.sendK
 rcases p.un with ⟨hb,hun⟩|⟨hb,hun⟩
 ·rw [if_pos hb]
  exact sendW.send hps hJ hsl hun
 ·rw [if_neg (by rw [hb];decide)]
  have:=sendW.send hps hJ hsl hun
  unfold Sal.send at this
  rw [if_pos (by decide)] at this
  exact this
theorem jlc {n0 n1 n2 n3 n4 n5 n6:Int} {a sa:Option Addr} {len cap sl sc:Nat} {ts:List (Int × Int)} (ht:tiersAt w a len cap ts) :
 Calls Tryz.prog 13 #[.agg #[iv n0,iv n1,iv n2,iv n3,iv n4,iv n5,iv n6,.slice a len cap,.slice sa sl sc]] w fun e w' =>
  (jh2 [n0,n1,n2,n3,n4,n5,n6] ts=false/\e=.returned (.tuple #[.pointer none,.bool true])/\Below w.heap.size w w') ∨
  (jh2 [n0,n1,n2,n3,n4,n5,n6] ts=true/\∃ x own,e=.returned (.tuple #[pt x 0,.bool true])/\PSK w' x own (jht ⟨n0,n1,n2,n3,n4,n5,n6,ts⟩)/\(∀ k,own k->w.heap.size<=k)/\Below w.heap.size w w'):=by
 cases hc:jh2 [n0,n1,n2,n3,n4,n5,n6] ts
 ·refine (jxg n0 n1 n2 n3 n4 n5 n6 a sa len cap sl sc w (fun W hW=>openW.no (ht.below hW (Nat.le_refl _)) hc) (fun W hW=>?_)).mono (fun e w' h=>.inl ⟨rfl,h⟩)
  have:=jrk n0 n1 n2 n3 n4 n5 n6 a len cap ts W (ht.below hW (Nat.le_refl _))
  rw [hc] at this
  exact this
 ·obtain ⟨hJ,hI⟩:=qfd hc
  have hc':=hc
  unfold jh2 at hc'
  simp only [List.all_cons,List.all_nil,Bool.and_true,Bool.and_eq_true] at hc'
  obtain ⟨⟨h0,h1,h2,h3,h4,h5,h6⟩,hp⟩:=hc'
  have hlen:1<=ts.length/\ts.length<=4:=by
   unfold jbo at hp
   simp only [Bool.and_eq_true,decide_eq_true_eq] at hp
   exact hp.1
  refine (jyl n0 n1 n2 n3 n4 n5 n6 a sa len cap sl sc w (fun x W o=>PSK W x o (jht ⟨n0,n1,n2,n3,n4,n5,n6,ts⟩)) (fun x=>jed x _) (fun W hW=>?_) (fun W hW=>?_) (fun W hW=>?_)).mono (fun e w' h=>.inr ⟨rfl,h⟩)
  ·refine (openW.yes (ht.below hW (Nat.le_refl _)) hc).mono ?_
   rintro e w' ⟨x,own,rfl,p1,p2,p3⟩
   exact ⟨x,own,rfl,⟨p1,hJ,hI⟩,p2,p3⟩
  ·have:=jrk n0 n1 n2 n3 n4 n5 n6 a len cap ts W (ht.below hW (Nat.le_refl _))
   rw [hc] at this
   exact this
  ·obtain ⟨t1,t2,t3,t4,t5⟩:=ht.below hW (Nat.le_refl _)
   obtain ⟨b,off,rfl,hb,hcell⟩:=t5 (by intro e;have:=hlen.1;rw [e] at this;simp at this)
   obtain ⟨q0,q1⟩:=hcell 0 (by omega)
   simp only [Nat.zero_mul,Nat.add_zero] at q0 q1
   have hs:∀ W,Calls Tryz.prog 34 #[.agg #[iv 1,iv 1,iv 1,iv 1,iv 0]] W fun e w'=>∃ ba bl bc,e=.returned (.slice ba bl bc)/\jai w' ba bl bc (Stp.bytes ⟨0,1,1,1,1,0⟩)/\Below W.heap.size W w':=fun W=>by
    refine (jy9 1 1 1 1 0 W (by decide) (by decide) (by decide) (by decide) (by decide) (by decide)).mono ?_
    rintro e w' ⟨v,rfl,hown,hb⟩
    obtain ⟨g,cap,rfl,hs'⟩:=jik (jo2 hown (by unfold jao;simp)) (Stp.bytes_byte ⟨0,1,1,1,1,0⟩ (by show (0:Int)<=1/\(1:Int)<256;omega))
    exact ⟨_,_,_,rfl,hs',hb⟩
   refine juo n0 n1 n2 n3 n4 n5 n6 _ _ b off len cap W hb (by omega) (by omega) q0 q1 (fun x W o=>PSK W x o (jht ⟨n0,n1,n2,n3,n4,n5,n6,ts⟩)) (fun x W o=>PSW W x o ((jht ⟨n0,n1,n2,n3,n4,n5,n6,ts⟩).sendK ⟨0,1,1,1,1,0⟩).2) (fun x=>jed x _) (fun W ba bl bc=>jai W ba bl bc (Stp.bytes ⟨0,1,1,1,1,0⟩)) (fun W' hW'=>?_) hs (fun x W' o ba bl bc hp hsl=>?_)
   ·refine (openW.yes (ht.below (hW.trans (hW'.mono hW.size)) (Nat.le_refl _)) hc).mono ?_
    rintro e w' ⟨x,own,rfl,p1,p2,p3⟩
    exact ⟨x,own,rfl,⟨p1,hJ,hI⟩,p2,p3⟩
   ·have:=jza ⟨0,1,1,1,1,0⟩ hp.ps hJ hsl
    rw [jwl hc] at this
    exact this
end
end
def mvT (o o':Ord):Prop:=o'.cust=o.cust/\o'.units=o.units/\(o'.state=o.state\/((o.state=12\/o.state=13)/\o'.state≠12/\o'.state≠14))
def jcv (os os':List Ord):Prop:=os'.length=os.length/\∀ i,i<os.length->mvT (os.getD i ja3) (os'.getD i ja3)
theorem jpo (o:Ord):mvT o o:=⟨rfl,rfl,.inl rfl⟩
theorem jyx {a b c:Ord} (h:mvT a b) (h':mvT b c):mvT a c:=by
 obtain ⟨h1,h2,h3⟩:=h
 obtain ⟨k1,k2,k3⟩:=h'
 refine ⟨k1.trans h1,k2.trans h2,?_⟩
 rcases h3 with h3|h3<;>rcases k3 with k3|k3
 ·exact .inl (k3.trans h3)
 ·rw [h3] at k3;exact .inr k3
 ·rw [k3];exact .inr h3
 ·exact .inr ⟨h3.1,k3.2⟩
theorem jdj (os:List Ord):jcv os os:=⟨rfl,fun _ _=>jpo _⟩
theorem jd1 {a b c:List Ord} (h:jcv a b) (h':jcv b c):jcv a c :=
 ⟨h'.1.trans h.1,fun i hi=>jyx (h.2 i hi) (h'.2 i (by rw [h.1];exact hi))⟩
theorem jor {os:List Ord} {i:Nat} (hi:i<os.length) {o:Ord} (h:mvT (os.getD i ja3) o):jcv os (os.set i o):=by
 refine ⟨List.length_set,fun k hk=>?_⟩
 rw [jar o hi]
 split
 ·next e=>rw [e];exact h
 ·exact jpo _
theorem jmf {S:Sal} {i:Nat} (hi:i<S.os.length) (hs:(S.os.getD i ja3).state=12\/(S.os.getD i ja3).state=13) {st:Int} (hst:st≠12/\st≠14):jcv S.os (S.ends i st).os :=
 jor hi ⟨rfl,rfl,.inr ⟨hs,hst⟩⟩
theorem jh3:∀ (n:Nat) (S:Sal),jcv S.os (jak n S).os
 | 0,S=>jdj _
 | n+1,S=>by
   unfold jak
   split
   ·exact jdj _
   ·next q qs hq =>
    split
    ·exact jdj _
    ·obtain ⟨_,hl,hs⟩:=jbh hq ja3 (by decide)
     have h1:jcv S.os (S.holds q).os:=jor hl ⟨rfl,rfl,.inr ⟨.inl hs,by show (13:Int)≠12;decide,by show (13:Int)≠14;decide⟩⟩
     exact jd1 h1 (jh3 n (S.holds q))
theorem jfq (S:Sal):jcv S.os S.promote.os:=jh3 _ S
theorem jn2 (S:Sal):jcv S.os S.drained.os:=by
 refine ⟨List.length_map ..,fun i hi=>?_⟩
 have e:S.drained.os.getD i ja3=dry S.left S.now (S.os.getD i ja3):=by
  show (S.os.map (dry S.left S.now)).getD i ja3=_
  simp [List.getD,List.getElem?_eq_getElem hi]
 rw [e]
 unfold dry
 split
 ·next h=>exact ⟨rfl,rfl,.inr ⟨.inl h.1,by show (18:Int)≠12;decide,by show (18:Int)≠14;decide⟩⟩
 ·exact jpo _
theorem jkq (S:Sal) {st en:Int} (hst:st=12\/st=13) (hen:en≠12/\en≠14):∀ n,n<=S.os.length->jcv S.os (jbq S st en n).os
 | 0,_=>jdj _
 | n+1,hn=>by
   have ih:=jkq S hst hen n (by omega)
   unfold jbq
   split
   ·next h =>
    have h1:=h.1
    exact jd1 ih (jmf (by rw [jc5];omega) (by omega) hen)
   ·exact ih
theorem jmt (S:Sal) {st en:Int} (hst:st=12\/st=13) (hen:en≠12/\en≠14):jcv S.os (S.past st en).os :=
 jd1 (jkq S hst hen _ (Nat.le_refl _)) (jfq _)
theorem jr0 (S:Sal) (t:Int):jcv S.os (S.round t).os :=
 jd1 (jmt ({ S with now:=t }:Sal) (.inr rfl) (by decide)) (jmt _ (.inl rfl) (by decide))
theorem jgs:∀ (n:Nat) (S:Sal) (to:Int),jcv S.os (jdw n S to).os
 | 0,_,_=>jdj _
 | n+1,S,to=>by
   unfold jdw
   split
   ·exact jdj _
   ·exact jd1 (jr0 S _) (jgs n _ to)
theorem jsx (S:Sal) (n:Int):jcv S.os (S.tick n).2.os:=by
 unfold Sal.tick
 split
 ·exact jdj _
 split
 ·exact jgs _ _ _
 ·exact jgs _ _ _
theorem jtb {o o':Ord} {os os':List Ord} (h:jcv (o :: os) (o' :: os')):mvT o o'/\jcv os os':=by
 obtain ⟨a,b⟩:=h
 refine ⟨b 0 (by simp),by simpa using a,fun i hi=>?_⟩
 have:=b (i+1) (by simpa using hi)
 simpa [List.getD] using this
def jun (os:List Ord) (c:Int):Int:=ja4 os 12 c+ja4 os 13 c+ja4 os 14 c
theorem jqm (o:Ord) (os:List Ord) (c:Int):jun (o :: os) c=(o.part 12 c+o.part 13 c+o.part 14 c)+jun os c:=by
 have h:∀ st,ja4 (o :: os) st c=o.part st c+ja4 os st c:=fun st=>by
  unfold ja4 Ord.part
  rw [List.map_cons,List.sum_cons]
 unfold jun
 rw [h,h,h]
 omega
theorem jmr (o:Ord) (c:Int) (st:Int):o.part st c=if o.state=st/\(c=0\/o.cust=c) then o.units else 0:=by
 unfold Ord.part Ord.is
 simp
theorem jt9:∀ {os os':List Ord} (c:Int),jcv os os'->(∀ o∈os,0<=o.units)->jun os' c<=jun os c
 | [],[],_,_,_=>Int.le_refl _
 | [],_ :: _,_,h,_=>by have:=h.1;simp at this
 | _ :: _,[],_,h,_=>by have:=h.1;simp at this
 | o :: os,o' :: os',c,h,hu=>by
   obtain ⟨h1,h2⟩:=jtb h
   have ih:=jt9 c h2 (fun x hx=>hu x (List.mem_cons_of_mem _ hx))
   have h0:=hu o (by simp)
   rw [jqm,jqm]
   simp only [jmr]
   obtain ⟨e1,e2,e3⟩:=h1
   rw [e1,e2]
   by_cases hc:c=0\/o.cust=c
   ·simp only [hc,and_true]
    rcases e3 with e3|⟨e3,e4,e5⟩
    ·rw [e3];omega
    ·rw [if_neg e4,if_neg e5]
     rcases e3 with e3|e3
     ·rw [if_pos e3,e3]
      split<;>split<;>omega
     ·rw [e3]
      split<;>split<;>omega
   ·simp only [hc,and_false,if_false]
    omega
theorem jrx {os os':List Ord} (h:jcv os os') {i:Nat} (hi:i<os.length):(os'.getD i ja3).state=14↔(os.getD i ja3).state=14:=by
 obtain ⟨_,_,e|⟨e1,e2,e3⟩⟩:=h.2 i hi
 ·rw [e]
 ·constructor
  ·intro c;exact absurd c e3
  ·intro c;omega
theorem jre {os os':List Ord} (h:jcv os os'):∀ k,k<=os.length->(jam os' k).length<=(jam os k).length
 | 0,_=>Nat.le_refl _
 | k+1,hk=>by
   have ih:=jre h k (by omega)
   obtain ⟨_,_,e⟩:=h.2 k (by omega)
   unfold jam
   by_cases h1:(os'.getD k ja3).state=12
   ·rw [if_pos h1,if_pos (by omega)]
    simp;exact ih
   ·rw [if_neg h1]
    split
    ·simp;omega
    ·exact ih
theorem jtw {os os':List Ord} (h:jcv os os'):(ja5 os').length<=(ja5 os).length:=by
 have:=jre h os.length (Nat.le_refl _)
 unfold ja5
 rw [h.1]
 exact this
def jc0 (kl:List Kn) (p:Stp) (r:Rep):List Kn :=
 if p.k=1/\(r.kind=2\/r.kind=3) then (if r.order=kl.length+1 then kl++[⟨p.c,p.u,false⟩] else kl)
 else if r.kind=7 then kl.set (r.order - 1).toNat { kl.getD (r.order - 1).toNat kn0 with paid:=true } else kl
def jg9 (kl:List Kn) (p:Stp) (r:Rep):Prop :=
 (p.k=1->(r.kind=2\/r.kind=3)->r.order=kl.length+1\/(1<=r.order/\r.order<=kl.length/\(kl.getD (r.order - 1).toNat kn0).cust=p.c/\(kl.getD (r.order - 1).toNat kn0).units=p.u)) ∧
 (r.kind=7->1<=r.order/\r.order<=kl.length/\(kl.getD (r.order - 1).toNat kn0).cust=p.c)
structure knAt (os:List Ord) (kl:List Kn):Prop where
 len:kl.length=os.length
 at':∀ i,i<os.length->(kl.getD i kn0).cust=(os.getD i ja3).cust/\(kl.getD i kn0).units=(os.getD i ja3).units/\((kl.getD i kn0).paid=true↔(os.getD i ja3).state=14)
def qdd (os os':List Ord):Prop:=os.length<=os'.length/\∀ i,i<os.length->(os'.getD i ja3).cust=(os.getD i ja3).cust/\(os'.getD i ja3).units=(os.getD i ja3).units/\((os.getD i ja3).state=14->(os'.getD i ja3).state=14)
theorem jm1 {os os':List Ord} (h:jcv os os'):qdd os os' :=
 ⟨by rw [h.1];exact Nat.le_refl _,fun i hi=>⟨(h.2 i hi).1,(h.2 i hi).2.1,(jrx h hi).2⟩⟩
theorem jvy {a b c:List Ord} (h:qdd a b) (h':qdd b c):qdd a c :=
 ⟨Nat.le_trans h.1 h'.1,fun i hi=>by
   obtain ⟨x1,x2,x3⟩:=h.2 i hi
   obtain ⟨y1,y2,y3⟩:=h'.2 i (Nat.lt_of_lt_of_le hi h.1)
   exact ⟨y1.trans x1,y2.trans x2,fun e=>y3 (x3 e)⟩⟩
theorem jfc {os:List Ord} {o:Ord} {i:Nat}:(os++[o]).getD i ja3=if i<os.length then os.getD i ja3 else if i=os.length then o else ja3:=by
 simp only [List.getD,List.getElem?_append]
 split
 ·rfl
 ·next h =>
  split
  ·next e=>simp [e]
  ·next e =>
   have:1<=i - os.length:=by omega
   simp [List.getElem?_eq_none,this]
theorem jy8 (os:List Ord) (o:Ord):qdd os (os++[o]) :=
 ⟨by simp,fun i hi=>by rw [jfc,if_pos hi];exact ⟨rfl,rfl,id⟩⟩
def qe8 (os:List Ord) (a:Ans):Prop:=∃ k t c u o:Int,isB k t c u o=true/\a.frame=strOfNums (jao k (jay k t c u o)) ∧
 (k=1->(a.rep.kind=2\/a.rep.kind=3)->1<=a.rep.order/\a.rep.order<=os.length/\(os.getD (a.rep.order - 1).toNat ja3).cust=c/\(os.getD (a.rep.order - 1).toNat ja3).units=u) ∧
 (a.rep.kind=7->1<=a.rep.order/\a.rep.order<=os.length/\(os.getD (a.rep.order - 1).toNat ja3).cust=c/\(os.getD (a.rep.order - 1).toNat ja3).state=14)
theorem jpi {os os':List Ord} (h:qdd os os') {a:Ans} (ha:qe8 os a):qe8 os' a:=by
 obtain ⟨k,t,c,u,o,h1,h2,h3,h4⟩:=ha
 have hl:=h.1
 refine ⟨k,t,c,u,o,h1,h2,fun hk hr=>?_,fun hr=>?_⟩
 ·obtain ⟨a1,a2,a3,a4⟩:=h3 hk hr
  obtain ⟨e1,e2,_⟩:=h.2 (a.rep.order - 1).toNat (by omega)
  exact ⟨a1,by omega,e1.trans a3,e2.trans a4⟩
 ·obtain ⟨a1,a2,a3,a4⟩:=h4 hr
  obtain ⟨e1,_,e3⟩:=h.2 (a.rep.order - 1).toNat (by omega)
  exact ⟨a1,by omega,e1.trans a3,e3 a4⟩
theorem jrw {os os':List Ord} {kl:List Kn} (h:knAt os kl) (ht:jcv os os'):knAt os' kl :=
 ⟨h.len.trans ht.1.symm,fun i hi=>by
   have hi':i<os.length:=by rw [← ht.1];exact hi
   obtain ⟨a,b,c⟩:=h.at' i hi'
   obtain ⟨d,e,_⟩:=ht.2 i hi'
   exact ⟨a.trans d.symm,b.trans e.symm,c.trans (jrx ht hi').symm⟩⟩
theorem qbh {kl:List Kn} {o:Kn} {i:Nat} (hi:i<=kl.length):(kl++[o]).getD i kn0=if i<kl.length then kl.getD i kn0 else o:=by
 simp only [List.getD,List.getElem?_append]
 split
 ·rfl
 ·next h =>
  have:i - kl.length=0:=by omega
  simp [this]
theorem jz1 {os:List Ord} {kl:List Kn} (h:knAt os kl) {o:Ord} {c u:Int} (hc:o.cust=c) (hu:o.units=u) (hs:o.state≠14):knAt (os++[o]) (kl++[⟨c,u,false⟩]):=by
 refine ⟨by simp [h.len],fun i hi=>?_⟩
 have hi':i<=os.length:=by simp at hi;omega
 rw [jfc,qbh (by rw [h.len];exact hi'),h.len]
 by_cases e:i<os.length
 ·rw [if_pos e,if_pos e];exact h.at' i e
 ·rw [if_neg e,if_neg e,if_pos (by omega)]
  exact ⟨hc.symm,hu.symm,by simp [hs]⟩
theorem jy1 {kl:List Kn} {i k:Nat} (o:Kn) (h:i<kl.length):(kl.set i o).getD k kn0=if k=i then o else kl.getD k kn0:=by
 simp only [List.getD,List.getElem?_set]
 by_cases e:i=k
 ·subst e;simp [h]
 ·rw [if_neg (fun c:k=i=>e c.symm)];simp [e]
theorem qa5 {os:List Ord} {kl:List Kn} (h:knAt os kl) {i:Nat} (hi:i<os.length) {o:Ord} (hc:o.cust=(os.getD i ja3).cust) (hu:o.units=(os.getD i ja3).units) (hs:o.state=14):knAt (os.set i o) (kl.set i { kl.getD i kn0 with paid:=true }):=by
 refine ⟨by simp [h.len],fun k hk=>?_⟩
 have hk':k<os.length:=by simpa using hk
 rw [jar o hi,jy1 _ (by rw [h.len];exact hi)]
 by_cases e:k=i
 ·rw [if_pos e,if_pos e]
  obtain ⟨a,b,_⟩:=h.at' i hi
  exact ⟨a.trans hc.symm,b.trans hu.symm,by simp [hs]⟩
 ·rw [if_neg e,if_neg e];exact h.at' k hk'
structure kInv (S:Sal) (kl:List Kn):Prop where
 kn:knAt S.os kl
 an:∀ a∈S.ansL,qe8 S.os a
 cap:∀ c,c≠0->jun S.os c<=S.C.cap
 queue:((ja5 S.os).length:Int)<=S.C.queue
 tokens:(S.answers:Int)<=S.C.tokens
 cu:∀ i,i<S.os.length->jbn (S.os.getD i ja3).cust=true
theorem jhc {kl:List Kn} {p:Stp} {r:Rep} (h1:¬ (p.k=1/\(r.kind=2\/r.kind=3))) (h7:r.kind≠7):jc0 kl p r=kl/\jg9 kl p r :=
 ⟨by unfold jc0;rw [if_neg h1,if_neg h7],fun a b=>absurd ⟨a,b⟩ h1,fun a=>absurd a h7⟩
theorem jsw {S:Sal} {kl:List Kn} (h:kInv S kl) {p:Stp} (hok:p.ok=true) {a:Ans} (ha:a∈S.ansL) (hf:a.frame=strOfNums p.bytes):jc0 kl p a.rep=kl/\jg9 kl p a.rep:=by
 obtain ⟨k,t,c,u,o,h1,h2,h3,h4⟩:=h.an a ha
 have hbytes:p.bytes=jao p.k (jay p.k (jcn p.k p.t) p.c (jcs p.k p.u) (jcg p.k p.o)):=by unfold Stp.bytes;rw [Stp.nums hok]
 rw [h2,hbytes] at hf
 obtain ⟨e1,_,e3,e4,_⟩:=jjb h1 hok (jsq (jf0 h1) (jf0 hok) hf)
 have hlen:=h.kn.len
 by_cases hk:p.k=1/\(a.rep.kind=2\/a.rep.kind=3)
 ·obtain ⟨a1,a2,a3,a4⟩:=h3 (by omega) hk.2
  obtain ⟨b1,b2,_⟩:=h.kn.at' (a.rep.order - 1).toNat (by omega)
  have hu:jcs p.k p.u=p.u:=if_pos hk.1
  refine ⟨by unfold jc0;rw [if_pos hk,if_neg (by omega)],fun _ _=>.inr ⟨a1,by omega,by rw [b1,a3];exact e3,by rw [b2,a4,e4];exact hu⟩,fun c=>by omega⟩
 ·by_cases h7:a.rep.kind=7
  ·obtain ⟨a1,a2,a3,a4⟩:=h4 h7
   obtain ⟨b1,_,b3⟩:=h.kn.at' (a.rep.order - 1).toNat (by omega)
   have hp:=b3.2 a4
   refine ⟨?_,fun x y=>absurd ⟨x,y⟩ hk,fun _=>⟨a1,by omega,by rw [b1,a3];exact e3⟩⟩
   unfold jc0
   rw [if_neg hk,if_pos h7]
   have hi:(a.rep.order - 1).toNat<kl.length:=by omega
   have he:{ kl.getD (a.rep.order - 1).toNat kn0 with paid:=true }=kl[(a.rep.order - 1).toNat]:=by
    have hg:∀ m (hm:m<kl.length),kl.getD m kn0=kl[m]:=fun m hm=>by simp [List.getD,List.getElem?_eq_getElem hm]
    rw [hg _ hi] at hp ⊢
    cases hq:kl[(a.rep.order - 1).toNat] with
    | mk x y z=>rw [hq] at hp;simp only at hp;rw [hp]
   rw [he,List.set_getElem_self]
  ·exact jhc hk h7
theorem ji5 (os:List Ord) (o:Ord) (st c:Int):ja4 (os++[o]) st c=ja4 os st c+o.part st c:=by
 unfold ja4 Ord.part
 rw [List.map_append,List.sum_append]
 simp
theorem jzc (os:List Ord) (o:Ord) (c:Int):jun (os++[o]) c=jun os c+(o.part 12 c+o.part 13 c+o.part 14 c):=by
 unfold jun
 rw [ji5,ji5,ji5]
 omega
theorem jlp (os:List Ord) (o:Ord):∀ k,k<=os.length->jam (os++[o]) k=jam os k
 | 0,_=>rfl
 | k+1,hk=>by
   have e:(os++[o]).getD k ja3=os.getD k ja3:=by rw [jfc,if_pos (show k<os.length by omega)]
   unfold jam
   rw [jlp os o k (by omega),e]
theorem jsr (os:List Ord) (o:Ord):(ja5 (os++[o])).length=(ja5 os).length+if o.state=12 then 1 else 0:=by
 unfold ja5
 rw [List.length_append,List.length_singleton,jam,jlp os o _ (Nat.le_refl _),show (os++[o]).getD os.length ja3=o by rw [jfc,if_neg (Nat.lt_irrefl _),if_pos rfl]]
 split<;>simp
theorem jrm {S S':Sal} {kl:List Kn} (h:kInv S kl) (hu:∀ o∈S.os,0<=o.units) (ht:jcv S.os S'.os) (hC:S'.C=S.C) (hA:S'.ansL=S.ansL) (hn:(S'.answers:Int)<=S.answers):kInv S' kl :=
 ⟨jrw h.kn ht,by rw [hA];exact fun a ha=>jpi (jm1 ht) (h.an a ha),fun c hc=>by rw [hC];exact Int.le_trans (jt9 c ht hu) (h.cap c hc),by rw [hC];have:=jtw ht;have:=h.queue;omega,by rw [hC];have:=h.tokens;omega,fun i hi=>by rw [(ht.2 i (by rw [← ht.1];exact hi)).1];exact h.cu i (by rw [← ht.1];exact hi)⟩
theorem jkp {S S':Sal} (hC:S'.C=S.C) (hA:S'.ansL=S.ansL) (hn:S.now<=S'.now):S'.answers<=S.answers:=by
 unfold Sal.answers
 rw [hA,← List.countP_eq_length_filter,← List.countP_eq_length_filter]
 refine List.countP_mono_left (fun a _ ha=>?_)
 unfold Sal.remem at ha ⊢
 rw [hC] at ha
 simp only [decide_eq_true_eq] at ha ⊢
 omega
theorem jzh {S S':Sal} {kl:List Kn} {a:Ans} (h:kInv S' kl) (hC:S'.C=S.C) (hN:S'.now=S.now) (hA:S'.ansL=S.ansL) (ht:(S.answers:Int)<S.C.tokens) (ha:qe8 S'.os a):kInv { S' with ansL:=S'.ansL++[a] } kl :=
 ⟨h.kn,fun x hx=>by
   rcases List.mem_append.1 (show x∈S'.ansL++[a] from hx) with hx|hx
   ·exact h.an x hx
   ·rw [List.mem_singleton.1 hx];exact ha,h.cap,h.queue,by
   have e:({ S' with ansL:=S'.ansL++[a] }:Sal).remem=S.remem:=by
    funext x
    show decide (S'.now - x.at'<S'.C.keep)=decide (S.now - x.at'<S.C.keep)
    rw [hN,hC]
   show ((((S'.ansL++[a]).filter ({ S' with ansL:=S'.ansL++[a] }:Sal).remem).length:Nat):Int)<=S'.C.tokens
   rw [e,hA,hC,List.filter_append,List.length_append]
   have h1:([a].filter S.remem).length<=1:=List.length_filter_le ..
   have h2:(S.answers:Int)=((S.ansL.filter S.remem).length:Nat):=rfl
   omega,h.cu⟩
theorem jxw {S:Sal} {kl:List Kn} (h:kInv S kl) (hu:∀ o∈S.os,0<=o.units) {p:Stp} (hok:p.ok=true) :
 kInv (S.doS p.req).2 (jc0 kl p (S.doS p.req).1)/\jg9 kl p (S.doS p.req).1/\qe8 (S.doS p.req).2.os ⟨strOfNums p.bytes,p.req.token,(S.doS p.req).1,S.now⟩:=by
 have hok':isB p.k (jcn p.k p.t) p.c (jcs p.k p.u) (jcg p.k p.o)=true:=hok
 have hk:=jhb hok'
 have hpart:=jep hok'
 have hbytes:p.bytes=jao p.k (jay p.k (jcn p.k p.t) p.c (jcs p.k p.u) (jcg p.k p.o)):=by unfold Stp.bytes;rw [Stp.nums hok]
 have plain:∀ (r:Rep) (S':Sal),kInv S' kl->¬ (p.k=1/\(r.kind=2\/r.kind=3))->r.kind≠7->kInv S' (jc0 kl p r)/\jg9 kl p r/\qe8 S'.os ⟨strOfNums p.bytes,p.req.token,r,S.now⟩:=fun r S' hS h1 h7=>by
  obtain ⟨e1,e2⟩:=jhc (kl:=kl) h1 h7
  rw [e1]
  exact ⟨hS,e2,p.k,_,p.c,_,_,hok',by rw [hbytes],fun a b=>absurd ⟨a,b⟩ h1,fun a=>absurd a h7⟩
 have hans:∀ {S':Sal},S'.C=S.C->S'.now=S.now->S'.ansL=S.ansL->(S'.answers:Int)<=S.answers:=fun a b c=>by have:=jkp (S:=S) a c (by rw [b];exact Int.le_refl _);omega
 have hlen:=h.kn.len
 obtain ⟨sC,sN,sA⟩:=jew S p.req
 have hA:=hans sC sN sA
 revert sC sN sA hA
 unfold Sal.doS
 split
 ·next hk1 =>
  have hk1':p.k=1:=hk1
  have hU:p.req.units=p.u:=if_pos hk1'
  have hcn:jbn p.c=true:=by
   unfold isB at hok'
   rw [if_pos hk1'] at hok'
   simp only [Bool.and_eq_true] at hok'
   exact hok'.1.1.2
  unfold Sal.ask
  split
  ·intro _ _ _ _;exact plain _ _ h (by simp) (by simp)
  ·next hcap =>
   split
   ·intro _ _ _ _;exact plain _ _ h (by simp) (by simp)
   split
   ·intro _ _ _ _;exact plain _ _ h (by simp) (by simp)
   have new:∀ (o:Ord) (S':Sal) (k:Int) (x y:Int),(k=2\/k=3)->S'.os=S.os++[o]->o.cust=p.c->o.units=p.u->(o.state=13\/(o.state=12/\((ja5 S.os).length:Int)≠S.C.queue))->S'.C=S.C->S'.ansL=S.ansL->(S'.answers:Int)<=S.answers->kInv S' (jc0 kl p ⟨k,S.os.length+1,x,y⟩)/\jg9 kl p ⟨k,S.os.length+1,x,y⟩/\qe8 S'.os ⟨strOfNums p.bytes,p.req.token,⟨k,S.os.length+1,x,y⟩,S.now⟩:=fun o S' k x y hkk ho hc hu' hst eC eA eN=>by
    have e1:jc0 kl p ⟨k,S.os.length+1,x,y⟩=kl++[⟨p.c,p.u,false⟩]:=by
     unfold jc0
     rw [if_pos ⟨hk1',hkk⟩,if_pos (by show (S.os.length:Int)+1=kl.length+1;omega)]
    rw [e1]
    have hext:qdd S.os S'.os:=by rw [ho];exact jy8 _ _
    refine ⟨⟨by rw [ho];exact jz1 h.kn hc hu' (by omega),fun a ha=>jpi hext (h.an a (by rw [← eA];exact ha)),fun c hc'=>?_,?_,by rw [eC];have:=h.tokens;omega,fun i hi=>by
     rw [ho] at hi ⊢
     rw [jfc]
     split
     ·next e=>exact h.cu i e
     ·rw [if_pos (by simp at hi;omega),hc];exact hcn⟩,⟨fun _ _=>.inl (by show (S.os.length:Int)+1=kl.length+1;omega),fun c=>by have c':k=7:=c;omega⟩,p.k,_,p.c,_,_,hok',by rw [hbytes],fun _ _=>?_,fun c=>by have c':k=7:=c;omega⟩
    ·rw [ho,eC,jzc,jmr,jmr,jmr,hc,hu']
     have hcc:=h.cap c hc'
     by_cases e:p.c=c
     ·subst e
      have hcap':¬ S.C.cap<ja4 S.os 13 p.c+ja4 S.os 14 p.c+ja4 S.os 12 p.c+p.req.units:=hcap
      rw [hU] at hcap'
      have hd:jun S.os p.c=ja4 S.os 12 p.c+ja4 S.os 13 p.c+ja4 S.os 14 p.c:=rfl
      rcases hst with e|⟨e,_⟩<;>rw [e]<;>simp<;>omega
     ·simp [e,hc'];exact hcc
    ·rw [ho,eC,jsr]
     have:=h.queue
     rcases hst with e|⟨e,e'⟩
     ·rw [if_neg (by omega)];omega
     ·rw [if_pos e];omega
    ·have e2:((S.os.length:Int)+1 - 1).toNat=S.os.length:=by omega
     have e3:S'.os.getD S.os.length ja3=o:=by rw [ho,jfc,if_neg (Nat.lt_irrefl _),if_pos rfl]
     show 1<=(S.os.length:Int)+1/\(S.os.length:Int)+1<=S'.os.length/\(S'.os.getD ((S.os.length:Int)+1 - 1).toNat ja3).cust=p.c/\(S'.os.getD ((S.os.length:Int)+1 - 1).toNat ja3).units=jcs p.k p.u
     rw [e2,e3]
     exact ⟨by omega,by rw [ho];simp,hc,hu'.trans hU.symm⟩
   split
   ·intro sC _ sA hA
    obtain ⟨e1,_⟩:=jcw S p.req.cust p.req.units
    exact new _ _ 2 _ _ (.inl rfl) (by rw [e1];rfl) rfl hU (.inl rfl) sC sA hA
   split
   ·intro _ _ _ _;exact plain _ _ h (by simp) (by simp)
   ·next hq =>
    intro sC _ sA hA
    exact new _ _ 3 _ _ (.inr rfl) rfl rfl hU (.inr ⟨rfl,hq⟩) sC sA hA
 ·next hk1 =>
  have hk1':p.k≠1:=hk1
  have hO:p.req.order=p.o:=if_neg hk1'
  have ho1:1<=p.req.order:=by
   rcases hpart with c|c
   ·omega
   ·exact c.2.1
  split
  ·unfold Sal.confirm
   split
   ·intro _ _ _ _;exact plain _ _ h (by simp) (by simp)
   ·next i hf =>
    obtain ⟨hi,hcu,hio⟩:=jas ho1 hf
    split
    ·intro _ _ _ _;exact plain _ _ h (by simp) (by simp)
    ·next hs =>
     have hs':(S.os.getD i ja3).state=13:=Classical.not_not.1 hs
     rw [jbj]
     intro sC _ sA hA
     have hii:(p.req.order - 1).toNat=i:=by omega
     have ht:jcv (S.ends i 14).os (S.ends i 14).drained.promote.os:=jd1 (jn2 _) (jfq _)
     have hkn:=qa5 h.kn hi (o:={ S.os.getD i ja3 with state:=14,ended:=S.now }) rfl rfl rfl
     have hext:qdd S.os (S.ends i 14).os:=⟨by show _<=(S.os.set i _).length;rw [List.length_set];exact Nat.le_refl _,fun j hj=>by
      show ((S.os.set i _).getD j ja3).cust=_/\((S.os.set i _).getD j ja3).units=_/\(_->((S.os.set i _).getD j ja3).state=14)
      rw [jar _ hi]
      split
      ·next e=>rw [e];exact ⟨rfl,rfl,fun _=>rfl⟩
      ·exact ⟨rfl,rfl,id⟩⟩
     have hext2:=jvy hext (jm1 ht)
     have e1:∀ x,jc0 kl p ⟨7,p.req.order,x,0⟩=kl.set i { kl.getD i kn0 with paid:=true }:=fun x=>by
      unfold jc0
      rw [if_neg (fun c=>hk1' c.1),if_pos rfl,hii]
     have hu':∀ o∈(S.ends i 14).os,0<=o.units:=fun o ho=>by
      rcases jfb (show o∈S.os.set i _ from ho) with rfl|ho
      ·exact (show 0<=(S.os.getD i ja3).units from hu _ (jal hi))
      ·exact hu o ho
     have hg:(S.ends i 14).os.getD i ja3={ S.os.getD i ja3 with state:=14,ended:=S.now }:=by
      show (S.os.set i _).getD i ja3=_
      rw [jar _ hi,if_pos rfl]
     have hL:(S.ends i 14).os.length=S.os.length:=List.length_set
     refine ⟨?_,⟨fun a=>absurd a hk1',fun _=>⟨ho1,by show p.req.order<=kl.length;omega,by show (kl.getD (p.req.order - 1).toNat kn0).cust=p.c;rw [hii,(h.kn.at' i hi).1];exact hcu⟩⟩,p.k,_,p.c,_,_,hok',by rw [hbytes],fun a=>absurd a hk1',fun _=>?_⟩
     ·rw [e1]
      refine ⟨jrw hkn ht,fun a ha=>jpi hext2 (h.an a (by rw [← sA];exact ha)),fun c hc=>?_,?_,by rw [sC];have:=h.tokens;omega,fun j hj=>by
       have hj':j<S.os.length:=by rw [← hL,← ht.1];exact hj
       rw [(hext2.2 j hj').1];exact h.cu j hj'⟩
      ·rw [sC]
       refine Int.le_trans (jt9 c ht hu') (Int.le_trans ?_ (h.cap c hc))
       show jun (S.os.set i _) c<=_
       unfold jun
       rw [jcc hi,jcc hi,jcc hi]
       simp only [jmr]
       rw [hs']
       simp
       split<;>omega
      ·rw [sC]
       have h1:=jtw ht
       have h2:=h.queue
       have h3:(ja5 (S.ends i 14).os).length<=(ja5 S.os).length:=by
          show (ja5 (S.os.set i _)).length<=_
          rw [jj2 _ hi (by show (14:Int)≠12;decide)]
          exact List.length_filter_le ..
       show ((ja5 (S.ends i 14).drained.promote.os).length:Int)<=S.C.queue
       omega
     ·obtain ⟨x1,_,x3⟩:=(jm1 ht).2 i (by rw [hL];exact hi)
      show 1<=p.req.order/\p.req.order<=_/\((S.ends i 14).drained.promote.os.getD (p.req.order - 1).toNat ja3).cust=p.c/\((S.ends i 14).drained.promote.os.getD (p.req.order - 1).toNat ja3).state=14
      rw [hii]
      refine ⟨ho1,by rw [ht.1,hL];omega,?_,x3 (by rw [hg])⟩
      rw [x1,hg]
      exact hcu
  ·unfold Sal.cancel
   split
   ·intro _ _ _ _;exact plain _ _ h (by simp) (by simp)
   ·next i hf =>
    obtain ⟨hi,_,_⟩:=jas ho1 hf
    split
    ·intro _ _ _ _;exact plain _ _ h (by simp) (by simp)
    ·next hs =>
     intro sC _ sA hA
     exact plain _ _ (jrm h hu (jd1 (jmf hi (by omega) (by decide)) (jfq _)) sC sA hA) (by simp) (by simp)
theorem jut {S:Sal} {kl:List Kn} (h:kInv S kl) (h0:0<=S.now/\S.now<=4611686018427387904) (hu:∀ o∈S.os,jkz o) (p:Stp) :
 kInv (S.does p).2 (jc0 kl p (S.does p).1)/\jg9 kl p (S.does p).1:=by
 have hu':∀ o∈S.os,0<=o.units:=fun o ho=>by have:=(hu o ho).1;omega
 have same:∀ (r:Rep),¬ (p.k=1/\(r.kind=2\/r.kind=3))->r.kind≠7->kInv S (jc0 kl p r)/\jg9 kl p r:=fun r h1 h7=>by
  obtain ⟨e1,e2⟩:=jhc (kl:=kl) h1 h7
  rw [e1]
  exact ⟨h,e2⟩
 unfold Sal.does
 split
 ·split
  ·obtain ⟨a,b,_⟩:=jfu S p.n
   obtain ⟨e1,e2⟩:=jhc (kl:=kl) (p:=p) (r:=jks) (by simp [jks]) (by simp [jks])
   rw [e1]
   refine ⟨jrm h hu' (jsx S p.n) a b ?_,e2⟩
   have:=jkp (S:=S) a b (by
    unfold Sal.tick
    split
    ·exact Int.le_refl _
    split
    ·show S.now<=(jdw _ _ _).now
     rw [jlb];omega
    ·show S.now<=(jdw _ _ _).now
     rw [jlb];omega)
   show ((S.tick p.n).2.answers:Int)<=S.answers
   omega
  ·unfold Sal.sendK
   split
   ·next hok =>
    have hk:=jhb (show isB p.k (jcn p.k p.t) p.c (jcs p.k p.u) (jcg p.k p.o)=true from hok)
    unfold Sal.send
    rw [if_neg (fun c=>c rfl)]
    split
    ·next h4 =>
     have h4':p.k=4:=h4
     refine same _ (by omega) ?_
     unfold Sal.poll
     split
     ·simp
     ·next i hf =>
      have ho1:1<=p.req.order:=by
       rcases jep (show isB p.k (jcn p.k p.t) p.c (jcs p.k p.u) (jcg p.k p.o)=true from hok) with c|c
       ·omega
       ·exact c.2.1
      obtain ⟨hi,_,_⟩:=jas ho1 hf
      have hst:=(hu _ (jal hi)).2.1
      split
      ·simp
      split
      ·simp
      split
      ·simp
      split
      ·simp
      ·intro c
       have c':(S.os.getD i ja3).state=7:=c
       omega
    ·split
     ·next a ha =>
      obtain ⟨m1,_,_⟩:=jl5 ha
      split
      ·next hf =>
       obtain ⟨e1,e2⟩:=jsw h hok m1 hf
       show kInv S (jc0 kl p a.rep)/\_
       rw [e1]
       exact ⟨h,e2⟩
      ·exact same _ (by simp) (by simp)
     ·split
      ·exact same _ (by simp) (by simp)
      ·next hfull =>
       obtain ⟨a,b,c⟩:=jxw h hu' hok
       obtain ⟨d,e,f⟩:=jew S p.req
       have:=h.tokens
       exact ⟨jzh (S:=S) a d e f (by omega) c,b⟩
   ·exact same _ (by simp) (by simp)
 ·exact same jks (by simp [jks]) (by simp [jks])
theorem jve {S:Sal} {kl:List Kn} (h:kInv S kl) (hl:S.os.length<=4294967296) {i:Nat} (hi:i<S.os.length):S.pollK (kl.getD i kn0).cust ((i:Int)+1) =
 (if (S.os.getD i ja3).state=12 then ⟨12,(i:Int)+1,0,(S.os.getD i ja3).upto⟩
 else if (S.os.getD i ja3).state=13 then ⟨13,(i:Int)+1,(S.os.getD i ja3).cents,(S.os.getD i ja3).upto⟩
 else if S.C.keep<=S.now - (S.os.getD i ja3).ended then { jks with kind:=19 }
 else if (S.os.getD i ja3).state=14 then ⟨14,(i:Int)+1,(S.os.getD i ja3).units * (S.os.getD i ja3).cents,0⟩
 else ⟨(S.os.getD i ja3).state,(i:Int)+1,0,0⟩):=by
 have hcu:=h.cu i hi
 rw [← (h.kn.at' i hi).1] at hcu
 have hc:=(h.kn.at' i hi).1
 have hok:Stp.ok ⟨0,4,0,(kl.getD i kn0).cust,0,(i:Int)+1⟩=true:=by
  have hh:∀ cu j:Int,jbn cu=true->jbn j=true->Stp.ok ⟨0,4,0,cu,0,j⟩=true:=fun cu j h1 h2=>by
   show isB 4 (jcn 4 0) cu (jcs 4 0) (jcg 4 j)=true
   unfold isB jcn jcs jcg
   simp [h1,h2]
  exact hh _ _ hcu (by unfold jbn;simp;omega)
 unfold Sal.pollK Sal.does
 rw [if_pos (by show (0:Int)<=4/\(4:Int)<256;omega),if_neg (by show ¬ (4:Int)=0;omega)]
 unfold Sal.sendK
 rw [if_pos hok]
 unfold Sal.send
 rw [if_neg (fun c=>c rfl),if_pos (show (Stp.req _).kind=4 from rfl)]
 unfold Sal.poll
 have hf:jfo S.os (Stp.req ⟨0,4,0,(kl.getD i kn0).cust,0,(i:Int)+1⟩).cust (Stp.req ⟨0,4,0,(kl.getD i kn0).cust,0,(i:Int)+1⟩).order=some i:=by
  show jfo S.os (kl.getD i kn0).cust ((i:Int)+1)=some i
  have e:((i:Int)+1 - 1).toNat=i:=by omega
  unfold jfo
  rw [e,if_pos ⟨by omega,hc.symm⟩]
 rw [hf]
 rfl
section
open Go.ChangeShapes Go.WideShapes Go.ChangeAt Go.RowKit
def jaq:Stp:=⟨0,0,0,0,0,0⟩
def jw1 (w:World) (b o:Nat) (p:Stp):Prop:=w.cell? (aq b o)=some (iv p.n)/\w.cell? (aq b (o+1))=some (iv p.k)/\w.cell? (aq b (o+2))=some (iv p.t)/\w.cell? (aq b (o+3))=some (iv p.c)/\w.cell? (aq b (o+4))=some (iv p.u)/\w.cell? (aq b (o+5))=some (iv p.o)
def stepsAt (w:World) (a:Option Addr) (len:Nat) (ps:List Stp):Prop :=
 ps.length=len/\(ps≠[]->∃ b off,a=some (aq b off)/\b<w.heap.size/\∀ i,i<len->jw1 w b (off+i * 6) (ps.getD i jaq))
theorem jnx {w w':World} {b o:Nat} {p:Stp} (h:jw1 w b o p) (hk:w'.heap[b]?=w.heap[b]?):jw1 w' b o p:=by
 obtain ⟨a0,a1,a2,a3,a4,a5⟩:=h
 exact ⟨(World.cell?_of_block (a:=(aq b o)) hk).trans a0,(World.cell?_of_block (a:=(aq b (o+1))) hk).trans a1,(World.cell?_of_block (a:=(aq b (o+2))) hk).trans a2,(World.cell?_of_block (a:=(aq b (o+3))) hk).trans a3,(World.cell?_of_block (a:=(aq b (o+4))) hk).trans a4,(World.cell?_of_block (a:=(aq b (o+5))) hk).trans a5⟩
theorem stepsAt.below {w w':World} {a:Option Addr} {len:Nat} {ps:List Stp} (h:stepsAt w a len ps) (hb:Below w.heap.size w w'):stepsAt w' a len ps:=by
 refine ⟨h.1,fun hn=>?_⟩
 obtain ⟨b,off,e,hbw,hc⟩:=h.2 hn
 exact ⟨b,off,e,Nat.lt_of_lt_of_le hbw hb.size,fun i hi=>jnx (hc i hi) (hb.block b hbw)⟩
theorem Tryz.cellsCase:Tryz.prog.cellsOf 32=9:=by kernel_rfl
theorem Tryz.cellsStep:Tryz.prog.cellsOf 48=6:=by kernel_rfl
theorem Tryz.cellsSteps:Tryz.prog.cellsOf 30=1:=by kernel_rfl
theorem Tryz.bytesStep:Tryz.prog.bytesOf 48=48:=by kernel_rfl
theorem qg3 {α:Type} {cs:Array α} (h:cs.size=9):∃ c0 c1 c2 c3 c4 c5 c6 c7 c8,cs=#[c0,c1,c2,c3,c4,c5,c6,c7,c8]:=by
 obtain ⟨l⟩:=cs
 match l,h with
 | [c0,c1,c2,c3,c4,c5,c6,c7,c8],_=>exact ⟨c0,c1,c2,c3,c4,c5,c6,c7,c8,rfl⟩
theorem jhy {H:Type} {enc:TypeId × Value->H} {w:World} {held:Bool} {t:TypeId} {fs:Array Field} {fuel:Nat} {cs:List Value} {x:DataW H × List MemPlace}
 (he:Tryz.prog.underlying t=some (.struct fs)) (h:DataW.trod enc Tryz.prog w 0 (fun _=>true) held fuel t cs=some x) (hw:wOK t x.1) :
 ∃ (xs:List (DataW H × List MemPlace)) (n:Nat),xs.length=fs.size/\(∀ (k:Nat) (f:Field),fs[k]?=some f->DataW.trod enc Tryz.prog w 0 (fun _=>true) held n f.type ((cs.drop f.offset).take (Tryz.prog.cellsOf f.type))=xs[k]?)/\(∀ (k:Nat) (f:Field) y,fs[k]?=some f->xs[k]?=some y->wOK f.type y.1):=by
 obtain ⟨xs,m,_,hy,_,hxl,hxf⟩:=DataW.trod_struct he h
 refine ⟨xs,m,hxl,hxf,fun k f y hf hy'=>?_⟩
 rw [hy] at hw
 exact jys he hw hf (by simp [hy'])
theorem jva {H:Type} {enc:TypeId × Value->H} {w:World} {held:Bool} {fuel:Nat} {a:Option Addr} {len cap:Nat} {x:DataW H × List MemPlace}
 (h:DataW.trod enc Tryz.prog w 0 (fun _=>true) held fuel 30 [.slice a len cap]=some x) (hw:wOK 30 x.1):∃ ps,stepsAt w a len ps/\(∀ p∈ps,p.fine)/\len * 48<=140737488351232:=by
 rcases jqq Tryz.underlying30 Tryz.underlying48 Tryz.cellsStep h hw with ⟨rfl,rfl,rfl⟩|⟨ad,rfl,hlc,hb,hrow⟩
 ·exact ⟨[],⟨rfl,fun h=>absurd rfl h⟩,fun p hp=>by simp at hp,by omega⟩
 ·rw [Tryz.bytesStep] at hb
  have hb':len * 48<=140737488351232:=by simp only [reachBytes] at hb;omega
  by_cases h0:len=0
  ·subst h0
   exact ⟨[],⟨rfl,fun h=>absurd rfl h⟩,fun p hp=>by simp at hp,by omega⟩
  obtain ⟨b,off,rfl⟩:∃ b off,ad=(aq b off):=by
   obtain ⟨cs,xs,n,hcl,hcc,_⟩:=hrow 0 (by omega)
   have:=hcc 0 (by omega)
   rw [List.getElem?_eq_getElem (by omega)] at this
   exact jol (by simpa using this)
  have hall:∀ i,i<len->∃ q:Stp,jw1 w b (off+i * 6) q/\q.fine:=by
   intro i hi
   obtain ⟨cs,xs,n,hcl,hcc,hxl,hf,hwt⟩:=hrow i hi
   have hxl':xs.length=2:=hxl
   obtain ⟨n0,e0,b0⟩:=jc6 (k:=0) (by omega) (hf 0 _ rfl) (jc8 hxl' (by omega))
   obtain ⟨z,hz⟩:=Option.isSome_iff_exists.1 (jc8 hxl' (show 1<2 by omega))
   have h1:DataW.trod enc Tryz.prog w 0 (fun _=>true) held n 46 ((cs.drop 1).take (Tryz.prog.cellsOf 46))=xs[1]?:=hf 1 _ rfl
   have hw1:wOK 46 z.1:=hwt 1 _ z rfl hz
   rw [hz,Tryz.cellsReq] at h1
   have hdl:((cs.drop 1).take 5).length=5:=by simp;omega
   obtain ⟨ys,m,hyl,hyf,_⟩:=jhy Tryz.underlying46 h1 hw1
   have hyl':ys.length=5:=hyl
   obtain ⟨r0,q0,s0⟩:=jc6 (k:=0) (by omega) (hyf 0 _ rfl) (jc8 hyl' (by omega))
   obtain ⟨r1,q1,s1⟩:=jc6 (k:=1) (by omega) (hyf 1 _ rfl) (jc8 hyl' (by omega))
   obtain ⟨r2,q2,s2⟩:=jc6 (k:=2) (by omega) (hyf 2 _ rfl) (jc8 hyl' (by omega))
   obtain ⟨r3,q3,s3⟩:=jc6 (k:=3) (by omega) (hyf 3 _ rfl) (jc8 hyl' (by omega))
   obtain ⟨r4,q4,s4⟩:=jc6 (k:=4) (by omega) (hyf 4 _ rfl) (jc8 hyl' (by omega))
   have hq:∀ j,j<5->((cs.drop 1).take 5)[j]?=cs[1+j]?:=fun j hj=>by rw [List.getElem?_take_of_lt hj,List.getElem?_drop]
   rw [hq _ (by omega)] at q0 q1 q2 q3 q4
   have hc:∀ j,j<6->w.cell? (aq b (off+i * 6+j))=cs[j]?:=fun j hj=>by rw [← hcc j hj,Addr.add_lit,Nat.add_assoc]
   exact ⟨⟨n0,r0,r1,r2,r3,r4⟩,⟨(hc 0 (by omega)).trans e0,(hc 1 (by omega)).trans q0,(hc 2 (by omega)).trans q1,(hc 3 (by omega)).trans q2,(hc 4 (by omega)).trans q3,(hc 5 (by omega)).trans q4⟩,⟨b0.1,by show n0<_;omega⟩,⟨s0.1,by show r0<_;omega⟩,⟨s1.1,by show r1<_;omega⟩,⟨s2.1,by show r2<_;omega⟩,⟨s3.1,by show r3<_;omega⟩,⟨s4.1,by show r4<_;omega⟩⟩
  obtain ⟨f,hff⟩:=@Deep.choose_lt Stp ⟨jaq⟩ _ _ hall
  refine ⟨(List.range len).map f,⟨by simp,fun _=>⟨b,off,rfl,World.block_lt_of_cell? w _ (hff 0 (by omega)).1.1,fun i hi=>?_⟩⟩,fun p hp=>?_,hb'⟩
  ·rw [jua f jaq hi];exact (hff i hi).1
  ·obtain ⟨i,hi,rfl⟩:=List.mem_map.1 hp
   exact (hff i (List.mem_range.1 hi)).2
theorem jrn {H:Type} {enc:TypeId × Value->H} {w:World} {held:Bool} {r:Reach} {b0:Nat} {v:Value} {d:DataW H} {p:List MemPlace}
 (hv:Value.okWide Tryz.prog w r b0 32 v) (h:DataW.Trod enc Tryz.prog w 0 (fun _=>true) held 32 v d p) (hw:wOK 32 d) :
 ∃ (n0 n1 n2 n3 n4 n5 n6:Int) (a:Option Addr) (len cap:Nat) (ts:List (Int × Int)) (sa:Option Addr) (sl sc:Nat) (ps:List Stp),v=.agg #[iv n0,iv n1,iv n2,iv n3,iv n4,iv n5,iv n6,.slice a len cap,.slice sa sl sc]/\tiersAt w a len cap ts/\stepsAt w sa sl ps/\(∀ p∈ps,p.fine)/\sl * 48<=140737488351232:=by
 obtain ⟨cs,rfl,hsz⟩:=okWide_struct Tryz.underlying32 hv
 rw [Tryz.cellsCase] at hsz
 obtain ⟨c0,c1,c2,c3,c4,c5,c6,c7,c8,rfl⟩:=qg3 hsz
 obtain ⟨fuel,hf⟩:=h
 obtain ⟨xs,n,hxl,hxf,hwt⟩:=jhy Tryz.underlying32 hf hw
 have hxl':xs.length=2:=hxl
 obtain ⟨z0,hz0⟩:=Option.isSome_iff_exists.1 (jc8 hxl' (show 0<2 by omega))
 obtain ⟨z1,hz1⟩:=Option.isSome_iff_exists.1 (jc8 hxl' (show 1<2 by omega))
 have h0:DataW.trod enc Tryz.prog w 0 (fun _=>true) held n 29 (([c0,c1,c2,c3,c4,c5,c6,c7,c8].drop 0).take (Tryz.prog.cellsOf 29))=xs[0]?:=hxf 0 _ rfl
 have h1:DataW.trod enc Tryz.prog w 0 (fun _=>true) held n 30 (([c0,c1,c2,c3,c4,c5,c6,c7,c8].drop 8).take (Tryz.prog.cellsOf 30))=xs[1]?:=hxf 1 _ rfl
 have hw0:wOK 29 z0.1:=hwt 0 _ z0 rfl hz0
 have hw1:wOK 30 z1.1:=hwt 1 _ z1 rfl hz1
 rw [hz0,Tryz.cellsCfg] at h0
 rw [hz1,Tryz.cellsSteps] at h1
 have e0:([c0,c1,c2,c3,c4,c5,c6,c7,c8].drop 0).take 8=[c0,c1,c2,c3,c4,c5,c6,c7]:=rfl
 have e1:([c0,c1,c2,c3,c4,c5,c6,c7,c8].drop 8).take 1=[c8]:=rfl
 rw [e0] at h0
 rw [e1] at h1
 obtain ⟨ys,m,hyl,hyf,hyt⟩:=jhy Tryz.underlying29 h0 hw0
 have hyl':ys.length=8:=hyl
 obtain ⟨n0,q0,_⟩:=jc6 (k:=0) (by simp) (hyf 0 _ rfl) (jc8 hyl' (by omega))
 obtain ⟨n1,q1,_⟩:=jc6 (k:=1) (by simp) (hyf 1 _ rfl) (jc8 hyl' (by omega))
 obtain ⟨n2,q2,_⟩:=jc6 (k:=2) (by simp) (hyf 2 _ rfl) (jc8 hyl' (by omega))
 obtain ⟨n3,q3,_⟩:=jc6 (k:=3) (by simp) (hyf 3 _ rfl) (jc8 hyl' (by omega))
 obtain ⟨n4,q4,_⟩:=jc6 (k:=4) (by simp) (hyf 4 _ rfl) (jc8 hyl' (by omega))
 obtain ⟨n5,q5,_⟩:=jc6 (k:=5) (by simp) (hyf 5 _ rfl) (jc8 hyl' (by omega))
 obtain ⟨n6,q6,_⟩:=jc6 (k:=6) (by simp) (hyf 6 _ rfl) (jc8 hyl' (by omega))
 obtain ⟨z,hz⟩:=Option.isSome_iff_exists.1 (jc8 hyl' (show 7<8 by omega))
 have h7:DataW.trod enc Tryz.prog w 0 (fun _=>true) held m 27 (([c0,c1,c2,c3,c4,c5,c6,c7].drop 7).take (Tryz.prog.cellsOf 27))=ys[7]?:=hyf 7 _ rfl
 have hw7:wOK 27 z.1:=hyt 7 _ z rfl hz
 rw [hz,Tryz.cellsTiers] at h7
 have e7:([c0,c1,c2,c3,c4,c5,c6,c7].drop 7).take 1=[c7]:=rfl
 rw [e7] at h7
 obtain ⟨a,l,c,hs⟩:∃ a l c,[c7]=[Value.slice a l c]:=by
  rcases DataW.trod_slice Tryz.underlying27 h7 with ⟨hcs,_⟩|⟨ad,l,cp,_,_,_,_,hcs,_⟩
  ·exact ⟨_,_,_,hcs⟩
  ·exact ⟨_,_,_,hcs⟩
 obtain ⟨sa,sl,sc,hss⟩:∃ a l c,[c8]=[Value.slice a l c]:=by
  rcases DataW.trod_slice Tryz.underlying30 h1 with ⟨hcs,_⟩|⟨ad,l,cp,_,_,_,_,hcs,_⟩
  ·exact ⟨_,_,_,hcs⟩
  ·exact ⟨_,_,_,hcs⟩
 rw [hs] at h7
 rw [hss] at h1
 obtain ⟨ts,hts,_⟩:=jvp h7 hw7
 obtain ⟨ps,hps,hfine,hl⟩:=jva h1 hw1
 simp at q0 q1 q2 q3 q4 q5 q6 hs hss
 subst q0 q1 q2 q3 q4 q5 q6 hs hss
 exact ⟨n0,n1,n2,n3,n4,n5,n6,a,l,c,ts,sa,sl,sc,ps,rfl,hts,hps,hfine,hl⟩
end
theorem jdn {Q:Sal->Prop} (hh:∀ T q qs,Q T->ja5 T.os=q :: qs->¬ T.free<(T.os.getD q ja3).units->Q (T.holds q)):∀ (n:Nat) (S:Sal),Q S->Q (jak n S)
 | 0,_,h=>h
 | n+1,S,h=>by
   unfold jak
   split
   ·exact h
   ·next q qs hq =>
    split
    ·exact h
    ·next hf=>exact jdn hh n (S.holds q) (hh S q qs h hq hf)
theorem jmq {Q:Sal->Prop} {st en:Int} (S:Sal) (he:∀ T i,Q T->i<T.os.length->(T.os.getD i ja3).state=st->(T.os.getD i ja3).upto=T.now->Q (T.ends i en)) (h:Q S):∀ k,k<=S.os.length->Q (jbq S st en k)
 | 0,_=>h
 | k+1,hk=>by
   have ih:=jmq S he h k (by omega)
   unfold jbq
   split
   ·next hc=>exact he _ k ih (by rw [jc5];omega) hc.1 (hc.2.trans (jdp S st en k).2.1.symm)
   ·exact ih
theorem jlv {Q Q' R:Sal->Prop} (hh:∀ T q qs,Q' T->ja5 T.os=q :: qs->¬ T.free<(T.os.getD q ja3).units->Q' (T.holds q))
 (h13:∀ T i,Q' T->i<T.os.length->(T.os.getD i ja3).state=13->(T.os.getD i ja3).upto=T.now->Q' (T.ends i 15))
 (h12:∀ T i,Q' T->i<T.os.length->(T.os.getD i ja3).state=12->(T.os.getD i ja3).upto=T.now->Q' (T.ends i 17))
 (h1:∀ (T:Sal) t,Q T->restS T->T.now<t->Q' { T with now:=t }) (h2:∀ T,Q' T->Q T) (h3:∀ (T:Sal) t,Q T->T.now<=t->R { T with now:=t }) :
 ∀ (n:Nat) (S:Sal) (to:Int),restS S->0<=S.now->S.now<=to->Q S->R (jdw n S to)
 | 0,S,to,_,_,hto,h=>h3 S to h hto
 | n+1,S,to,hR,h0,hto,h=>by
   unfold jdw
   split
   ·exact h3 S to h hto
   ·next hd =>
    have hd':0<=jp5 S.os to S.os.length:=by
     have:¬ jp5 S.os to S.os.length<0:=hd
     omega
    obtain ⟨i,hi,hs,hu,hle⟩:=ji6 S.os to S.os.length (Nat.le_refl _) hd'
    have hf:=hR.fut _ (jal hi) (by unfold Ord.alive;omega)
    have e:S.due to=jp5 S.os to S.os.length:=rfl
    have hm:∀ o∈S.os,o.alive->S.due to<=o.upto:=fun o ho ha=>by
     obtain ⟨k,hk,rfl⟩:=List.mem_iff_getElem.1 ho
     have eg:S.os.getD k ja3=S.os[k]:=by simp [List.getD,List.getElem?_eq_getElem hk]
     by_cases hc:S.os[k].upto<=to
     ·have:=(jls S.os to (fun o ho ha=>by have:=hR.fut o ho ha;omega) S.os.length (Nat.le_refl _) k hk (by rw [eg];exact ha) (by rw [eg];exact hc)).2
      rw [eg] at this
      omega
     ·omega
    obtain ⟨r1,r2,r3,r4⟩:=je6 S (S.due to)
    have hn:S.now<S.due to:=by omega
    refine jlv hh h13 h12 h1 h2 h3 n (S.round (S.due to)) to (joh hR hm) (by rw [r2];omega) (by rw [r2];omega) (h2 _ ?_)
    unfold Sal.round Sal.past
    exact jdn hh _ _ (jmq _ h12 (jdn hh _ _ (jmq _ h13 (h1 S _ h hR hn) _ (Nat.le_refl _))) _ (Nat.le_refl _))
theorem jtr {Q Q' R:Sal->Prop} (hh:∀ T q qs,Q' T->ja5 T.os=q :: qs->¬ T.free<(T.os.getD q ja3).units->Q' (T.holds q))
 (h13:∀ T i,Q' T->i<T.os.length->(T.os.getD i ja3).state=13->(T.os.getD i ja3).upto=T.now->Q' (T.ends i 15))
 (h12:∀ T i,Q' T->i<T.os.length->(T.os.getD i ja3).state=12->(T.os.getD i ja3).upto=T.now->Q' (T.ends i 17))
 (h1:∀ (T:Sal) t,Q T->restS T->T.now<t->Q' { T with now:=t }) (h2:∀ T,Q' T->Q T) (h3:∀ (T:Sal) t,Q T->T.now<=t->R { T with now:=t })
 {S:Sal} (hR:restS S) (h0:0<=S.now/\S.now<=4611686018427387904) (h:Q S) (n:Int):(0<=n->R (S.tick n).2)/\(n<0->(S.tick n).2=S):=by
 unfold Sal.tick
 refine ⟨fun hn=>?_,fun hn=>by rw [if_pos hn]⟩
 rw [if_neg (by omega)]
 split
 ·exact jlv hh h13 h12 h1 h2 h3 _ S _ hR h0.1 (by omega) h
 ·exact jlv hh h13 h12 h1 h2 h3 _ S _ hR h0.1 h0.2 h
def qar (o:Ord):Prop:=o.state=13\/o.state=14\/o.state=15
def jeq (os:List Ord):Prop:=∀ i j,i<j->j<os.length->(os.getD i ja3).state=12->¬ qar (os.getD j ja3)
theorem jtn {os:List Ord} (h:jeq os) {i:Nat} (hi:i<os.length) {o:Ord} (h1:o.state≠12) (h2:qar o->qar (os.getD i ja3)\/∀ k,k<i->(os.getD k ja3).state≠12):jeq (os.set i o):=by
 intro a b hab hb
 rw [List.length_set] at hb
 rw [jar o hi,jar o hi]
 split
 ·intro hs;exact absurd hs h1
 ·intro hs
  split
  ·next e =>
   subst e
   intro hw
   rcases h2 hw with c|c
   ·exact h a b hab hb hs c
   ·exact c a hab hs
  ·exact h a b hab hb hs
theorem qa8 {os:List Ord} {q:Nat} {qs:List Nat} (hq:ja5 os=q :: qs):∀ k,k<q->(os.getD k ja3).state≠12:=by
 intro k hk hs
 have hl:q<os.length:=jf9 os os.length q (by rw [show jam os os.length=q :: qs from hq];simp)
 have hm:k∈jam os os.length:=(jb6 os os.length k).2 ⟨by omega,hs⟩
 have hp:=jcp os os.length
 rw [show jam os os.length=q :: qs from hq] at hm hp
 rcases List.mem_cons.1 hm with e|e
 ·omega
 ·have:=(List.pairwise_cons.1 hp).1 k e;omega
theorem js3 (T:Sal) (q:Nat) (qs:List Nat) (h:jeq T.os) (hq:ja5 T.os=q :: qs) (_:¬ T.free<(T.os.getD q ja3).units):jeq (T.holds q).os:=by
 obtain ⟨_,hl,_⟩:=jbh hq ja3 (by decide)
 exact jtn h hl (by show (13:Int)≠12;decide) (fun _=>.inr (qa8 hq))
theorem jkj {S:Sal} (h:jeq S.os):jeq S.promote.os:=jdn (Q:=fun T=>jeq T.os) js3 _ S h
theorem jjf {T:Sal} {i:Nat} (h:jeq T.os) (hi:i<T.os.length) {st:Int} (hst:st≠12) (hw:(st=14\/st=15)->(T.os.getD i ja3).state=13) (h13:st≠13):jeq (T.ends i st).os :=
 jtn h hi (show st≠12 from hst) (fun c=>.inl (.inl (hw (by
  have c':st=13\/st=14\/st=15:=c
  omega))))
theorem jrl {S:Sal} (h:jeq S.os):jeq S.drained.os:=by
 have e:∀ i,i<S.os.length->S.drained.os.getD i ja3=dry S.left S.now (S.os.getD i ja3):=fun i hi=>by
  show (S.os.map (dry S.left S.now)).getD i ja3=_
  simp [List.getD,List.getElem?_eq_getElem hi]
 have hl:S.drained.os.length=S.os.length:=List.length_map ..
 intro a b hab hb
 rw [hl] at hb
 rw [e a (by omega),e b hb]
 have hd:∀ o,(dry S.left S.now o).state=12->o.state=12:=fun o=>by
  unfold dry
  split
  ·intro c;exact absurd (show (18:Int)=12 from c) (by decide)
  ·exact id
 have hw:∀ o,qar (dry S.left S.now o)->qar o:=fun o=>by
  unfold dry
  split
  ·intro c;unfold qar at c;simp at c
  ·exact id
 exact fun x y=>h a b hab hb (hd _ x) (hw _ y)
theorem jzo {S:Sal} (h:jeq S.os) (hR:restS S) (h0:0<=S.now/\S.now<=4611686018427387904) (n:Int):jeq (S.tick n).2.os:=by
 obtain ⟨a,b⟩:=jtr (Q:=fun T=>jeq T.os) (Q':=fun T=>jeq T.os) (R:=fun T=>jeq T.os) js3 (fun T i h hi hs _=>jjf h hi (by decide) (fun _=>hs) (by decide)) (fun T i h hi _ _=>jjf h hi (by decide) (fun c=>by omega) (by decide)) (fun T t h _ _=>h) (fun T h=>h) (fun T t h _=>h) hR h0 h n
 by_cases hn:0<=n
 ·exact a hn
 ·rw [b (by omega)];exact h
theorem js0 {os:List Ord} (h:jeq os) {o:Ord} (ho:qar o->∀ k,k<os.length->(os.getD k ja3).state≠12):jeq (os++[o]):=by
 intro a b hab hb
 have hb':b<os.length+1:=by simpa using hb
 rw [jfc,jfc,if_pos (show a<os.length by omega)]
 intro hs
 by_cases e:b<os.length
 ·rw [if_pos e];exact h a b hab e hs
 ·rw [if_neg e,if_pos (by omega)]
  exact fun hw=>ho hw a (by omega) hs
theorem qdp {S:Sal} (h:jeq S.os) (r:Req) (ho:r.kind≠1->1<=r.order):jeq (S.doS r).2.os:=by
 unfold Sal.doS
 split
 ·unfold Sal.ask
  split
  ·exact h
  split
  ·exact h
  split
  ·exact h
  split
  ·next hq =>
   rw [(jcw S r.cust r.units).1]
   refine js0 h (fun _ k hk hs=>?_)
   have hm:k∈ja5 S.os:=(jb6 S.os S.os.length k).2 ⟨hk,hs⟩
   rw [hq.1] at hm
   exact absurd hm (by simp)
  split
  ·exact h
  ·exact js0 h (fun c=>by unfold qar at c;simp at c)
 ·next hk =>
  have ho1:=ho hk
  split
  ·unfold Sal.confirm
   split
   ·exact h
   ·next i hf =>
    obtain ⟨hi,_,_⟩:=jas ho1 hf
    split
    ·exact h
    ·next hs =>
     rw [jbj]
     exact jkj (jrl (jjf h hi (by decide) (fun _=>Classical.not_not.1 hs) (by decide)))
  ·unfold Sal.cancel
   split
   ·exact h
   ·next i hf =>
    obtain ⟨hi,_,_⟩:=jas ho1 hf
    split
    ·exact h
    ·exact jkj (jjf h hi (by decide) (fun c=>by omega) (by decide))
theorem jxq {S:Sal} (h:jeq S.os) (hR:restS S) (h0:0<=S.now/\S.now<=4611686018427387904) (p:Stp):jeq (S.does p).2.os:=by
 unfold Sal.does
 split
 ·split
  ·exact jzo h hR h0 p.n
  ·unfold Sal.sendK
   split
   ·next hok =>
    have hp:=jep (show isB p.k (jcn p.k p.t) p.c (jcs p.k p.u) (jcg p.k p.o)=true from hok)
    unfold Sal.send
    rw [if_neg (fun c=>c rfl)]
    split
    ·exact h
    ·split
     ·split
      ·exact h
      ·exact h
     ·split
      ·exact h
      ·exact qdp h p.req (fun hk=>by
        rcases hp with c|c
        ·exact absurd c.1 hk
        ·exact c.2.1)
   ·exact h
 ·exact h
def qfm (S:Sal) (ps:List Stp) (j:Nat):Prop:=∀ a∈S.ansL,∃ k,k<j/\(ps.getD k jaq).t=a.token
theorem qck {S:Sal} {ps:List Stp} {j:Nat} (h:qfm S ps j):qfm (S.does (ps.getD j jaq)).2 ps (j+1):=by
 have same:qfm S ps (j+1):=fun a ha=>by obtain ⟨k,hk,e⟩:=h a ha;exact ⟨k,by omega,e⟩
 generalize hp:ps.getD j jaq=p
 unfold Sal.does
 split
 ·split
  ·intro a ha
   rw [(jfu S p.n).2.1] at ha
   exact same a ha
  ·unfold Sal.sendK
   split
   ·unfold Sal.send
    rw [if_neg (fun c=>c rfl)]
    split
    ·exact same
    ·next h4 =>
     have h4':p.k≠4:=h4
     split
     ·split
      ·exact same
      ·exact same
     ·split
      ·exact same
      ·intro a ha
       rcases List.mem_append.1 (show a∈(S.doS p.req).2.ansL++[_] from ha) with ha|ha
       ·rw [(jew S p.req).2.2] at ha;exact same a ha
       ·rw [List.mem_singleton.1 ha]
        exact ⟨j,by omega,by rw [hp];show p.t=jcn p.k p.t;unfold jcn;rw [if_neg h4']⟩
   ·exact same
 ·exact same
theorem jur {S:Sal} {ps:List Stp} {j:Nat} (h:qfm S ps j) {t:Int} (hf:∀ k,k<j->(ps.getD k jaq).t≠t):S.used t=none:=by
 cases e:S.used t with
 | none=>rfl
 | some a =>
   obtain ⟨m1,m2,_⟩:=jl5 e
   obtain ⟨k,hk,ek⟩:=h a m1
   exact absurd (ek.trans m2) (hf k hk)
def qb8 (cap stock queue u free sold waiting aH aS aW n:Int):Int :=
 if cap<aH+aS+aW+u then 4 else if stock - sold<u then 5 else if 4294967296<=n then 6 else if waiting=0/\u<=free then 2 else if waiting=queue then 6 else 3
def jsf (kl:List Kn) (k:Int) (was:Rep):Rep :=
 if k=2/\was.kind=13/\was.order<=kl.length then ⟨7,was.order,was.cents * (kl.getD (was.order - 1).toNat kn0).units,0⟩
 else if k=3/\(was.kind=13\/was.kind=12) then ⟨8,was.order,0,0⟩ else ⟨9,0,0,0⟩
theorem jof {S:Sal} {i:Nat} (hi:i<S.os.length):((S.ends i 14).drained.promote.os.getD i ja3).units=(S.os.getD i ja3).units/\((S.ends i 14).drained.promote.os.getD i ja3).cents=(S.os.getD i ja3).cents/\((S.ends i 14).drained.promote.os.getD i ja3).state=14:=by
 have hL:(S.ends i 14).os.length=S.os.length:=List.length_set
 have h0:(S.ends i 14).os.getD i ja3={ S.os.getD i ja3 with state:=14,ended:=S.now }:=by
  show (S.os.set i _).getD i ja3=_
  rw [jar _ hi,if_pos rfl]
 have h1:(S.ends i 14).drained.os.getD i ja3={ S.os.getD i ja3 with state:=14,ended:=S.now }:=by
  have:(S.ends i 14).drained.os.getD i ja3=dry (S.ends i 14).left (S.ends i 14).now ((S.ends i 14).os.getD i ja3):=by
   show ((S.ends i 14).os.map (dry (S.ends i 14).left (S.ends i 14).now)).getD i ja3=_
   simp [List.getD,List.getElem?_eq_getElem (show i<(S.ends i 14).os.length by omega)]
  rw [this,h0]
  unfold dry
  rw [if_neg (by simp)]
 have:=jdn (Q:=fun T=>i<T.os.length/\T.os.getD i ja3={ S.os.getD i ja3 with state:=14,ended:=S.now }) (fun T q qs hT hq _=>by
  obtain ⟨_,hl,hs⟩:=jbh hq ja3 (by decide)
  have hne:i≠q:=fun e=>by
   rw [← e,hT.2] at hs
   exact absurd (show (14:Int)=12 from hs) (by decide)
  refine ⟨by show i<(T.os.set q _).length;rw [List.length_set];exact hT.1,?_⟩
  show (T.os.set q _).getD i ja3=_
  rw [jar _ hl,if_neg hne]
  exact hT.2) (ja5 (S.ends i 14).drained.os).length (S.ends i 14).drained ⟨by
   have:(S.ends i 14).drained.os.length=(S.ends i 14).os.length:=List.length_map ..
   omega,h1⟩
 rw [show (S.ends i 14).drained.promote=jak (ja5 (S.ends i 14).drained.os).length (S.ends i 14).drained from rfl,this.2]
 exact ⟨rfl,rfl,rfl⟩
theorem jpn {S:Sal} {c o:Int} (hc:jbn c=true) (ho:jbn o=true):S.pollK c o=S.poll ⟨4,0,c,0,o⟩:=by
 have hok:Stp.ok ⟨0,4,0,c,0,o⟩=true:=by
  show isB 4 (jcn 4 0) c (jcs 4 0) (jcg 4 o)=true
  unfold isB jcn jcs jcg
  simp [hc,ho]
 unfold Sal.pollK Sal.does
 rw [if_pos (by show (0:Int)<=4/\(4:Int)<256;omega),if_neg (by show ¬ (4:Int)=0;omega)]
 unfold Sal.sendK
 rw [if_pos hok]
 unfold Sal.send
 rw [if_neg (fun c=>c rfl),if_pos (show (Stp.req _).kind=4 from rfl)]
 rfl
theorem qc8 {S:Sal} {p:Stp} (hok:p.ok=true) (h4:p.k≠4) (hn:S.used p.t=none):(S.does p).1=if (S.answers:Int)=S.C.tokens then ⟨11,0,0,0⟩ else (S.doS p.req).1:=by
 have hk:=jhb (show isB p.k (jcn p.k p.t) p.c (jcs p.k p.u) (jcg p.k p.o)=true from hok)
 have ht:p.req.token=p.t:=by show jcn p.k p.t=p.t;unfold jcn;rw [if_neg h4]
 unfold Sal.does
 rw [if_pos (by omega),if_neg (by omega)]
 unfold Sal.sendK
 rw [if_pos hok]
 unfold Sal.send
 rw [if_neg (fun c=>c rfl),if_neg (show ¬ p.req.kind=4 from h4),ht,hn]
 dsimp only
 split<;>rfl
theorem jg0 {p:Stp} (hok:p.ok=true):jbn p.c=true/\(p.k=1->jbn p.u=true)/\(p.k≠1->jbn p.o=true):=by
 have h:isB p.k (jcn p.k p.t) p.c (jcs p.k p.u) (jcg p.k p.o)=true:=hok
 unfold isB jcs jcg at h
 by_cases e:p.k=1
 ·simp [e] at h ⊢;exact ⟨h.1.2,h.2⟩
 ·simp only [if_neg e] at h
  by_cases e2:p.k=2\/p.k=3
  ·rw [if_pos e2] at h
   simp at h
   exact ⟨h.1.2,fun c=>absurd c e,fun _=>h.2⟩
  ·rw [if_neg e2] at h
   by_cases e4:p.k=4
   ·rw [if_pos e4] at h
    simp at h
    exact ⟨h.1.1,fun c=>absurd c e,fun _=>h.1.2⟩
   ·rw [if_neg e4] at h;cases h
theorem qbe {S:Sal} {kl:List Kn} (h:kInv S kl) {p:Stp} (hok:p.ok=true) (h4:p.k≠4) (h1:p.k≠1):(S.doS p.req).1=jsf (jc0 kl p (S.doS p.req).1) p.k (S.pollK p.c p.o)/\((S.pollK p.c p.o).kind=13->1<=(S.pollK p.c p.o).order):=by
 have hk:=jhb (show isB p.k (jcn p.k p.t) p.c (jcs p.k p.u) (jcg p.k p.o)=true from hok)
 obtain ⟨n1,_,n2⟩:=jg0 hok
 have n2:=n2 h1
 have ho1:1<=p.o:=by unfold jbn at n2;simp at n2;omega
 rw [jpn n1 n2]
 have hro:p.req.order=p.o:=by show jcg p.k p.o=p.o;unfold jcg;rw [if_neg h1]
 have hrc:p.req.cust=p.c:=rfl
 have hlen:=h.kn.len
 unfold Sal.doS
 rw [if_neg (show ¬ p.req.kind=1 from h1)]
 rcases (show p.k=2\/p.k=3 by omega) with e2|e3
 ·rw [if_pos (show p.req.kind=2 from e2)]
  unfold Sal.confirm Sal.poll
  rw [hro,hrc]
  dsimp only
  cases hf:jfo S.os p.c p.o with
  | none=>dsimp only;unfold jsf;rw [e2];simp [jks]
  | some i =>
    obtain ⟨hi,hcu,hio⟩:=jas ho1 hf
    dsimp only
    by_cases h13:(S.os.getD i ja3).state=13
    ·have n12:¬ (S.os.getD i ja3).state=12:=by omega
     rw [if_neg (fun c=>c h13),if_neg n12,if_pos h13,jbj]
     obtain ⟨u1,u2,_⟩:=jof hi
     refine ⟨?_,fun _=>ho1⟩
     have hii:(p.o - 1).toNat=i:=by omega
     have eh:∀ x,jc0 kl p ⟨7,p.o,x,0⟩=kl.set i { kl.getD i kn0 with paid:=true }:=fun x=>by
       unfold jc0
       rw [if_neg (fun c=>h1 c.1),if_pos rfl]
       dsimp only
       rw [hii]
     rw [u1,u2,eh]
     unfold jsf
     dsimp only
     rw [if_pos ⟨e2,rfl,by rw [List.length_set];omega⟩,hii,jy1 _ (by omega),if_pos rfl]
     dsimp only
     rw [(h.kn.at' i hi).2.1,Int.mul_comm]
    ·rw [if_pos h13]
     unfold jsf
     rw [e2]
     constructor
     ·rw [if_neg (fun c=>?_),if_neg (fun c=>by have:=c.1;omega)]
      obtain ⟨_,c,_⟩:=c
      revert c
      by_cases h12:(S.os.getD i ja3).state=12
      ·rw [if_pos h12];simp
      ·rw [if_neg h12,if_neg h13]
       split
       ·simp
       split
       ·simp
       ·exact fun c=>h13 c
     ·by_cases h12:(S.os.getD i ja3).state=12
      ·rw [if_pos h12];simp
      ·rw [if_neg h12,if_neg h13]
       split
       ·simp
       split
       ·simp
       ·exact fun c=>absurd c h13
 ·rw [if_neg (show ¬ p.req.kind=2 by show ¬ p.k=2;omega)]
  unfold Sal.cancel Sal.poll
  rw [hro,hrc]
  dsimp only
  cases hf:jfo S.os p.c p.o with
  | none=>dsimp only;unfold jsf;rw [e3];simp [jks]
  | some i =>
    obtain ⟨hi,hcu,hio⟩:=jas ho1 hf
    dsimp only
    have n2:¬ (3:Int)=2:=by decide
    unfold jsf
    rw [e3]
    by_cases h12:(S.os.getD i ja3).state=12
    ·rw [if_neg (fun c=>c.2 h12),if_pos h12]
     simp
    ·rw [if_neg h12]
     by_cases h13:(S.os.getD i ja3).state=13
     ·rw [if_neg (fun c=>c.1 h13),if_pos h13]
      simp [ho1]
     ·rw [if_pos ⟨h13,h12⟩,if_neg h13]
      split
      ·simp [jks]
      split
      ·simp
      ·exact ⟨by rw [if_neg (fun c=>by have:=c.1;omega),if_neg (fun c=>c.2.elim h13 h12)],fun c=>absurd c h13⟩
theorem jj1 (os:List Ord):((ja5 os).length:Int)=0↔ja5 os=[]:=by
 constructor
 ·intro e;exact List.length_eq_zero_iff.1 (by omega)
 ·intro e;rw [e];rfl
theorem jry {S:Sal} {p:Stp} (hok:p.ok=true) (h1:p.k=1) :
 (S.doS p.req).1.kind=qb8 S.C.cap S.C.stock S.C.queue p.u S.free (ja4 S.os 14 0) (ja5 S.os).length (S.acc p.c).1 (S.acc p.c).2.1 (S.acc p.c).2.2.1 S.os.length/\((S.doS p.req).1.kind=2->(S.doS p.req).1.cents=S.price):=by
 obtain ⟨n1,_,_⟩:=jg0 hok
 have hu:p.req.units=p.u:=if_pos h1
 have hc:p.req.cust=p.c:=rfl
 have ha:S.acc p.c=(ja4 S.os 13 p.c,ja4 S.os 14 p.c,ja4 S.os 12 p.c,0):=by unfold Sal.acc;rw [if_pos n1];rfl
 unfold Sal.doS
 rw [if_pos (show p.req.kind=1 from h1)]
 unfold Sal.ask qb8
 rw [hu,hc,ha]
 have hl:S.left=S.C.stock - ja4 S.os 14 0:=rfl
 rw [← hl]
 dsimp only
 split
 ·simp
 split
 ·simp
 split
 ·next e=>rw [if_pos (by omega)];simp
 ·next e =>
  rw [if_neg (show ¬ (4294967296:Int)<=S.os.length by omega)]
  by_cases hq:ja5 S.os=[]/\p.u<=S.free
  ·rw [if_pos hq,if_pos ⟨(jj1 _).2 hq.1,hq.2⟩]
   refine ⟨rfl,fun _=>?_⟩
   obtain ⟨e1,e2⟩:=jcw S p.c p.u
   dsimp only
   rw [e1,e2]
   have hg:(S.more ⟨p.c,p.u,13,S.price,S.now+S.C.lease,0⟩).os.getD S.os.length ja3=⟨p.c,p.u,13,S.price,S.now+S.C.lease,0⟩:=by
    show (S.os++[_]).getD S.os.length ja3=_
    rw [jaw (by omega),if_pos rfl]
   rw [hg]
  ·have hq':¬ (((ja5 S.os).length:Int)=0/\p.u<=S.free):=fun c=>hq ⟨(jj1 _).1 c.1,c.2⟩
   rw [if_neg hq,if_neg hq']
   split
   ·simp
   ·simp
def jrb (os:List Ord):Nat->Bool
 | 0=>false
 | k+1=>jrb os k || decide ((os.getD k ja3).state=12)
theorem jmv (os:List Ord):∀ k,jrb os k=true↔∃ i,i<k/\(os.getD i ja3).state=12
 | 0=>by simp [jrb]
 | k+1=>by
   rw [jrb,Bool.or_eq_true,jmv os k,decide_eq_true_eq]
   constructor
   ·rintro (⟨i,hi,hs⟩|hs)
    ·exact ⟨i,by omega,hs⟩
    ·exact ⟨k,by omega,hs⟩
   ·rintro ⟨i,hi,hs⟩
    by_cases e:i=k
    ·subst e;exact .inr hs
    ·exact .inl ⟨i,by omega,hs⟩
theorem jzb {S:Sal} {kl:List Kn} (h:kInv S kl) (hl:S.os.length<=4294967296) (hR:restS S) (hline:jeq S.os) {i:Nat} (hi:i<S.os.length) :
 (jrb S.os i=true->(S.pollK (kl.getD i kn0).cust ((i:Int)+1)).kind≠13/\(S.pollK (kl.getD i kn0).cust ((i:Int)+1)).kind≠14/\(S.pollK (kl.getD i kn0).cust ((i:Int)+1)).kind≠15) ∧
 ((S.pollK (kl.getD i kn0).cust ((i:Int)+1)).kind=12↔(S.os.getD i ja3).state=12) ∧
 ((S.os.getD i ja3).state=12->jrb S.os i=false->S.free<(kl.getD i kn0).units):=by
 rw [jve h hl hi]
 refine ⟨fun hw=>?_,?_,fun h12 hw=>?_⟩
 ·obtain ⟨k,hk,hs⟩:=(jmv _ _).1 hw
  have hn:=hline k i hk hi hs
  unfold qar at hn
  generalize S.os.getD i ja3=o at *
  split
  ·simp
  split
  ·omega
  split
  ·simp
  split
  ·omega
  ·exact ⟨fun c=>hn (.inl c),fun c=>hn (.inr (.inl c)),fun c=>hn (.inr (.inr c))⟩
 ·generalize S.os.getD i ja3=o at *
  split
  ·next e=>simp [e]
  ·next e =>
   split
   ·simp [e]
   split
   ·simp [e]
   split
   ·simp [e]
   ·simp [e]
 ·have hm:i∈ja5 S.os:=(jb6 S.os S.os.length i).2 ⟨hi,h12⟩
  cases hq:ja5 S.os with
  | nil=>rw [hq] at hm;exact absurd hm (by simp)
  | cons q qs =>
    have hst:=hR.stable q qs hq
    have hqi:q=i:=by
     rw [hq] at hm
     rcases List.mem_cons.1 hm with e|e
     ·exact e.symm
     ·have hp:=jcp S.os S.os.length
      rw [show jam S.os S.os.length=q :: qs from hq] at hp
      have hlt:=(List.pairwise_cons.1 hp).1 i e
      have h12q:(S.os.getD q ja3).state=12:=(jbh hq ja3 (by decide)).2.2
      exact absurd ((jmv S.os i).2 ⟨q,hlt,h12q⟩) (by rw [hw];simp)
    rw [hqi] at hst
    rw [(h.kn.at' i hi).2.1]
    exact hst
theorem jq5 (c0 c1 c2:Int) (v3 v4 v5 v6 v7 v8:Value) (rk rt rc ru ro b0 b1 b2 b3 b4 a0 a1 a2 n:Int) (w:World) (ha0:0<=a0/\a0<=4294967296) (ha1:0<=a1/\a1<=4294967296) (ha2:0<=a2/\a2<=4294967296) (hu:0<=ru/\ru<=4294967296) (hb2:0<=b2/\b2<=4294967296) (hc0:0<=c0/\c0<=4294967296) :
 Calls Tryz.prog 42 #[.agg #[iv c0,iv c1,iv c2,v3,v4,v5,v6,v7,v8],.agg #[iv rk,iv rt,iv rc,iv ru,iv ro],.agg #[iv b0,iv b1,iv b2,iv b3,iv b4],.agg #[iv a0,iv a1,iv a2],iv n] w fun e w'=>e=.returned (iv (qb8 c1 c0 c2 ru b0 b2 b3 a0 a1 a2 n))/\Below w.heap.size w w':=by
 have w1:IntKind.i64.wrap (a0+a1)=a0+a1:=jab (by omega) (by omega)
 have w2:IntKind.i64.wrap (a0+a1+a2)=a0+a1+a2:=jab (by omega) (by omega)
 have w3:IntKind.i64.wrap (a0+a1+a2+ru)=a0+a1+a2+ru:=jab (by omega) (by omega)
 have w4:IntKind.i64.wrap (c0 - b2)=c0 - b2:=jab (by omega) (by omega)
 clear ha0 ha1 ha2 hu hb2 hc0
 unfold qb8
 go_enter Tryz.func42,Tryz.ntmps42
 by_cases t0:c1<a0+a1+a2+ru
 ·rw [if_pos t0]
  go_wp2
  refine bodyPost_ret (v:=iv 4) (by simp [results,Tryz.results42,go_sem]) rfl ⟨rfl,bL⟩
 rw [if_neg t0]
 by_cases t1:c0 - b2<ru
 ·rw [if_pos t1]
  go_wp2
  refine bodyPost_ret (v:=iv 5) (by simp [results,Tryz.results42,go_sem]) rfl ⟨rfl,bL⟩
 rw [if_neg t1]
 by_cases t2:(4294967296:Int)<=n
 ·rw [if_pos t2]
  go_wp2
  refine bodyPost_ret (v:=iv 6) (by simp [results,Tryz.results42,go_sem]) rfl ⟨rfl,bL⟩
 rw [if_neg t2]
 by_cases t3:b3=0/\ru<=b0
 ·rw [if_pos t3]
  obtain ⟨t3,t4⟩:=t3
  subst t3
  go_wp2
  refine bodyPost_ret (v:=iv 2) (by simp [results,Tryz.results42,go_sem]) rfl ⟨rfl,bL⟩
 rw [if_neg t3]
 have t5:(b3==0)=false\/((b3==0)=true/\¬ ru<=b0):=by
  by_cases e:b3=0
  ·exact .inr ⟨by simpa using e,fun c=>t3 ⟨e,c⟩⟩
  ·exact .inl (by simpa using e)
 clear t3
 by_cases t6:b3=c2
 ·rw [if_pos t6]
  have t7:(b3==c2)=true:=by simpa using t6
  clear t6
  rcases t5 with d1|⟨d1,d2⟩
  all_goals
   go_wp2
   refine bodyPost_ret (v:=iv 6) (by simp [results,Tryz.results42,go_sem]) rfl ⟨rfl,bL⟩
 ·rw [if_neg t6]
  have t7:(b3==c2)=false:=by simpa using t6
  clear t6
  rcases t5 with d1|⟨d1,d2⟩
  all_goals
   go_wp2
   refine bodyPost_ret (v:=iv 3) (by simp [results,Tryz.results42,go_sem]) rfl ⟨rfl,bL⟩
theorem qd3 (v0 v1 v2 v3 v4 v5 v6 v8:Value) (ap:Option Addr) (lp cp:Nat) (ps:List (Int × Int)) (sold:Int) (w:World) (ht:tiersAt w ap lp cp ps) :
 Calls Tryz.prog 43 #[.agg #[v0,v1,v2,v3,v4,v5,v6,.slice ap lp cp,v8],iv sold] w fun e w'=>e=.returned (iv (jc7 ps sold ps.length))/\Below w.heap.size w w':=by
 obtain ⟨t1,t2,t3,t4,t5⟩:=ht
 subst t1
 have HT:Hid (0<ps.length->∃ b off,ap=some (aq b off)/\b<w.heap.size/\∀ i,i<ps.length->w.cell? (aq b (off+i * 2))=some (iv (ps.getD i (0,0)).1)/\w.cell? (aq b (off+i * 2+1))=some (iv (ps.getD i (0,0)).2)):=fun h=>t5 (List.length_pos_iff.1 h)
 have hB0:Hid (Below w.heap.size w (w.alloc (.cells #[v0,v1,v2,v3,v4,v5,v6,.slice ap ps.length cp,v8] 32))):=(Below.refl _ _).alloc (Nat.le_refl _) _
 have xb0:Hid ((w.alloc (.cells #[v0,v1,v2,v3,v4,v5,v6,.slice ap ps.length cp,v8] 32)).heap[w.heap.size]?=some (.cells #[v0,v1,v2,v3,v4,v5,v6,.slice ap ps.length cp,v8] 32 (0,0))):=heap_alloc_new w _
 clear t4 t5
 go_enter Tryz.func43,Tryz.ntmps43
 go_wp2_with fail
 generalize w.alloc (.cells #[v0,v1,v2,v3,v4,v5,v6,.slice ap ps.length cp,v8] 32)=W0 at hB0 xb0 ⊢
 go_loopw [5,6] (fun c i wr=>∃ k:Nat,k<=ps.length/\i=iv k/\c=iv (jc7 ps sold k)/\Hid (Below w.heap.size w wr)/\Hid (wr.heap[w.heap.size]?=some (.cells #[v0,v1,v2,v3,v4,v5,v6,.slice ap ps.length cp,v8] 32 (0,0)))) (fun _ i _=>ps.length - (intOf i).toNat)
 case atStart=>exact ⟨0,Nat.zero_le _,rfl,rfl,hB0,xb0⟩
 case round =>
  obtain ⟨k,hk,rfl,rfl,hB,xb⟩:=hrel
  clear hB0 xb0
  obtain ⟨k0,k1,k2,k3,k4,k5,k6,k7,k8⟩:=je2 xb.out
  have lx:w.heap.size<wr.heap.size:=(blt xb.out)
  by_cases hlt:k<ps.length
  ·obtain ⟨b,off,rfl,hbw,hcell⟩:=HT.out (by omega)
   obtain ⟨g0,g1⟩:=hcell k hlt
   have d0:=(hB.out.cell (p:=(aq b (off+k * 2))) hbw).trans g0
   have d1:=(hB.out.cell (p:=(aq b (off+k * 2+1))) hbw).trans g1
   have hbr:b<wr.heap.size:=Nat.lt_of_lt_of_le hbw hB.out.size
   have HP:Hid (jc7 ps sold (k+1)=if (ps.getD k (0,0)).1<=sold then (ps.getD k (0,0)).2 else jc7 ps sold k):=rfl
   have b0:(0:Int)<=(k:Int):=by omega
   have b1':(k:Int)<(ps.length:Int):=by omega
   have hwj:IntKind.i64.wrap ((k:Int)+1)=(k:Int)+1:=jab (by omega) (by omega)
   clear g0 g1 hcell HT hbw
   generalize ps.getD k (0,0)=p at d0 d1 HP
   obtain ⟨p0,p1⟩:=p
   simp only at d0 d1 HP
   by_cases hle:p0<=sold
   ·have HP2:Hid (jc7 ps sold (k+1)=p1):=by rw [Hid,HP.out,if_pos hle]
    go_wp2
    exact ⟨⟨k+1,by omega,by go_num,by rw [HP2.out],bL,xb.out⟩,by simp [intOf];omega⟩
   ·have HP2:Hid (jc7 ps sold (k+1)=jc7 ps sold k):=by rw [Hid,HP.out,if_neg hle]
    have hle':decide (p0<=sold)=false:=by simpa using hle
    go_wp2
    exact ⟨⟨k+1,by omega,by go_num,by rw [HP2.out],bL,xb.out⟩,by simp [intOf];omega⟩
  ·have hke:k=ps.length:=by omega
   subst hke
   go_wp2
   refine bodyPost_ret (v:=iv (jc7 ps sold ps.length)) (by simp [results,Tryz.results43,go_sem]) rfl ⟨rfl,bL⟩
def qgx (L:Nat) (kl:List Kn) (W:World):Prop:=∃ a c,L<W.heap.size/\W.cell? (aq L 0)=some (.slice a kl.length c)/\∀ j,j<kl.length->∃ b,a=some (aq b 0)/\b<W.heap.size/\W.cell? (aq b (j * 3))=some (iv (kl.getD j kn0).cust)/\W.cell? (aq b (j * 3+1))=some (iv (kl.getD j kn0).units)/\W.cell? (aq b (j * 3+2))=some (.bool (kl.getD j kn0).paid)
theorem qe2 (L:Nat) (kl:List Kn) (rk rt rc ru ro:Int) (was:Rep) (w:World) (hL:qgx L kl w) (hn:kl.length<=4294967296) (h1:was.kind=13->1<=was.order) (hc:was.kind=13->0<=was.cents/\was.cents<=1073741824) (hu:∀ j,j<kl.length->0<=(kl.getD j kn0).units/\(kl.getD j kn0).units<=4294967296) :
 Calls Tryz.prog 41 #[pt L 0,.agg #[iv rk,iv rt,iv rc,iv ru,iv ro],.agg #[iv was.kind,iv was.order,iv was.cents,iv was.upto]] w fun e w'=>e=.returned (.agg #[iv (jsf kl rk was).kind,iv (jsf kl rk was).order,iv (jsf kl rk was).cents,iv (jsf kl rk was).upto])/\Below w.heap.size w w':=by
 obtain ⟨a,c,hLw,cL,hrow⟩:=hL
 obtain ⟨p1,p2,p3,p4⟩:=was
 simp only at h1 hc ⊢
 obtain ⟨W0,hW0⟩:∃ W0,W0=((w.alloc (.cells #[iv rk,iv rt,iv rc,iv ru,iv ro] 46)).alloc (.cells #[iv p1,iv p2,iv p3,iv p4] 42)).alloc (.cells #[iv 0,iv 0,iv 0,iv 0] 42):=⟨_,rfl⟩
 have hB:Hid (Below w.heap.size w W0):=by rw [hW0];exact (((Below.refl _ _).alloc (Nat.le_refl _) _).alloc (by simp) _).alloc (by simp;omega) _
 have rb:W0.heap[w.heap.size]?=some (.cells #[iv rk,iv rt,iv rc,iv ru,iv ro] 46 (0,0)):=by rw [hW0];exact (Below.heap_alloc _ _ _ (by simp;omega)).trans ((Below.heap_alloc _ _ _ (by simp)).trans (heap_alloc_new w _))
 have qb:W0.heap[w.heap.size+1]?=some (.cells #[iv p1,iv p2,iv p3,iv p4] 42 (0,0)):=by rw [hW0];exact (Below.heap_alloc _ _ _ (by simp)).trans (jbd w _ _)
 have zb:W0.heap[w.heap.size+2]?=some (.cells #[iv 0,iv 0,iv 0,iv 0] 42 (0,0)):=by
  rw [hW0]
  have e:((w.alloc (.cells #[iv rk,iv rt,iv rc,iv ru,iv ro] 46)).alloc (.cells #[iv p1,iv p2,iv p3,iv p4] 42)).heap.size=w.heap.size+2:=by simp
  have:=heap_alloc_new ((w.alloc (.cells #[iv rk,iv rt,iv rc,iv ru,iv ro] 46)).alloc (.cells #[iv p1,iv p2,iv p3,iv p4] 42)) (.cells #[iv 0,iv 0,iv 0,iv 0] 42)
  rw [e] at this
  exact this
 have cL':=(hB.out.cell (p:=(aq L 0)) hLw).trans cL
 have lL:L<W0.heap.size:=Nat.lt_of_lt_of_le hLw hB.out.size
 have nL0:w.heap.size≠L:=by omega
 have nL1:w.heap.size+1≠L:=by omega
 have nL2:w.heap.size+2≠L:=by omega
 obtain ⟨r0,r1,r2,r3,r4⟩:=jer rb
 obtain ⟨q0,q1,q2,q3⟩:=jck qb
 obtain ⟨y0,y1,y2,y3⟩:=jck zb
 have z0:=ja0 zb 0
 have z1:=ja0 zb 1
 have z2:=ja0 zb 2
 have z3:=ja0 zb 3
 have lr:w.heap.size<W0.heap.size:=(blt rb)
 have lq:w.heap.size+1<W0.heap.size:=(blt qb)
 have lz:w.heap.size+2<W0.heap.size:=(blt zb)
 replace hW0:=hW0.symm
 replace zb:Hid _:=zb
 clear rb qb cL
 by_cases t1:rk=2/\p1=13/\p2<=kl.length
 ·have e1:jsf kl rk ⟨p1,p2,p3,p4⟩=⟨7,p2,p3 * (kl.getD (p2 - 1).toNat kn0).units,0⟩:=if_pos t1
  rw [e1]
  obtain ⟨t1,t2,t3⟩:=t1
  have t4:=h1 t2
  replace hc:=hc t2
  obtain ⟨g,rfl,hg,g0,g1,g2⟩:=hrow (p2 - 1).toNat (by omega)
  obtain ⟨u1,u2⟩:=hu (p2 - 1).toNat (by omega)
  have g1':=(hB.out.cell (p:=(aq g ((p2 - 1).toNat * 3+1))) hg).trans g1
  have lg:g<W0.heap.size:=Nat.lt_of_lt_of_le hg hB.out.size
  generalize hj:(p2 - 1).toNat=j at g1' u1 u2 ⊢
  have t5:p2=(j:Int)+1:=by omega
  subst t1 t2 t5
  generalize (kl.getD j kn0).units=un at g1' u1 u2 ⊢
  have hb0:(0:Int)<=(j:Int):=by omega
  have hb1:(j:Int)<(kl.length:Int):=by omega
  have hb2:(j:Int)+1<=(kl.length:Int):=by omega
  have hw2:IntKind.i64.wrap ((j:Int)+1 - 1)=(j:Int):=by rw [Int.add_sub_cancel];exact jab (by omega) (by omega)
  have hm0:0<=p3 * un:=Int.mul_nonneg hc.1 u1
  have hm1:p3 * un<=1073741824 * 4294967296:=Int.mul_le_mul hc.2 u2 u1 (by decide)
  have hw3:IntKind.i64.wrap (p3 * un)=p3 * un:=jab (by omega) (by omega)
  clear hrow hu h1 e1 g0 g1 g2 t3 t4 hj hm0 hm1 hc u1 u2
  go_enter Tryz.func41,Tryz.ntmps41
  go_wp2_with fail
  go_quiet (fail)
  go_wp2_with fail
  go_region
  go_wp2
  refine bodyPost_ret (v:=.agg #[iv 7,iv ((j:Int)+1),iv (p3 * un),iv 0]) (by simp [results,Tryz.results41,go_sem, *]) rfl ⟨rfl,bL⟩
 ·by_cases t2:rk=3/\(p1=13\/p1=12)
  ·have e1:jsf kl rk ⟨p1,p2,p3,p4⟩=⟨8,p2,0,0⟩:=by unfold jsf;rw [if_neg t1,if_pos t2]
   rw [e1]
   obtain ⟨t3,t4⟩:=t2
   subst t3
   clear hrow hu h1 e1 t1 hc
   rcases t4 with t4|t4
   all_goals
    subst t4
    go_enter Tryz.func41,Tryz.ntmps41
    go_wp2_with fail
    go_quiet (fail)
    go_wp2
    refine bodyPost_ret (v:=.agg #[iv 8,iv p2,iv 0,iv 0]) (by simp [results,Tryz.results41,go_sem, *]) rfl ⟨rfl,bL⟩
  ·have e1:jsf kl rk ⟨p1,p2,p3,p4⟩=⟨9,0,0,0⟩:=by unfold jsf;rw [if_neg t1,if_neg t2]
   rw [e1]
   have c1:(rk==2)=false\/((rk==2)=true/\(p1==13)=false)\/((rk==2)=true/\(p1==13)=true/\¬ p2<=(kl.length:Int)):=by
    by_cases x1:rk=2
    ·by_cases x2:p1=13
     ·exact .inr (.inr ⟨by simpa using x1,by simpa using x2,fun c=>t1 ⟨x1,x2,c⟩⟩)
     ·exact .inr (.inl ⟨by simpa using x1,by simpa using x2⟩)
    ·exact .inl (by simpa using x1)
   have c2:(rk==3)=false\/((rk==3)=true/\(p1==13)=false/\(p1==12)=false):=by
    by_cases x1:rk=3
    ·exact .inr ⟨by simpa using x1,by simp;exact fun c=>t2 ⟨x1,.inl c⟩,by simp;exact fun c=>t2 ⟨x1,.inr c⟩⟩
    ·exact .inl (by simpa using x1)
   clear hrow hu h1 e1 t1 t2 hc
   rcases c1 with d1|⟨d1,d2⟩|⟨d1,d2,d3⟩<;>rcases c2 with f1|⟨f1,f2,f3⟩
   all_goals try (exfalso;simp_all;done)
   all_goals
    go_enter Tryz.func41,Tryz.ntmps41
    go_wp2_with fail
    go_quiet (fail)
    go_wp2
    refine bodyPost_ret (v:=.agg #[iv 9,iv 0,iv 0,iv 0]) (by simp [results,Tryz.results41,go_sem, *]) rfl ⟨rfl,bL⟩
theorem je9 {P:World->(Nat->Prop)->Prop} {w U:World} {own loc loc':Nat->Prop} (h:ja7 P w own loc U) (hl:∀ k,loc' k->loc k):ja7 P w own loc' U:=by
 obtain ⟨o1,a1,a2,a3,a4⟩:=h
 exact ⟨o1,a1,a2,fun k e=>(a3 k e).imp id (fun c=>⟨c.1,fun d=>c.2 (hl k d)⟩),fun k e=>a4 k (hl k e)⟩
theorem jtk (L x n:Nat) (w:World) (own:Nat->Prop) (P:World->(Nat->Prop)->Prop) (K:Keeps P) (h:P w own) (kn:Nat->Kn) (rep:Nat->Rep) (wb:Nat->Bool) (b0 b1 b2 b3 b4:Int) (hw0:wb 0=false) (hn:n<=4294967296)
 (HF:Hid (∀ j,j<n->(wb j=true->(rep j).kind≠13/\(rep j).kind≠14/\(rep j).kind≠15)/\wb (j+1)=(wb j || decide ((rep j).kind=12))/\((rep j).kind=12->wb j=false->b0<(kn j).units)))
 (HX:Hid (∀ loc W,ja7 P w own loc W->∃ a c,L<W.heap.size/\W.cell? (aq L 0)=some (.slice a n c)/\∀ j,j<n->∃ b,a=some (aq b 0)/\b<W.heap.size/\W.cell? (aq b (j * 3))=some (iv (kn j).cust)/\W.cell? (aq b (j * 3+1))=some (iv (kn j).units)/\W.cell? (aq b (j * 3+2))=some (.bool (kn j).paid)))
 (HB:Hid (jc2 w own P P 29 #[pt x 0] (.agg #[iv b0,iv b1,iv b2,iv b3,iv b4])))
 (HP:Hid (∀ j,j<n->jc2 w own P P 37 #[pt x 0,iv (kn j).cust,iv ((j:Int)+1)] (.tuple #[.agg #[iv (rep j).kind,iv (rep j).order,iv (rep j).cents,iv (rep j).upto],.bool true]))) :
 Calls Tryz.prog 18 #[pt L 0,pt x 0] w fun e w'=>e=.returned (.bool true)/\jap P w w' own:=by
 have HW:Hid (∀ k,own k->k<w.heap.size):=K.lt h
 have hT0:Hid (ja7 P w own (fun _=>False) w):=jah K h (Below.refl _ _) (fun _ e=>e.elim)
 clear h
 go_enter Tryz.func18,Tryz.ntmps18
 go_wp2_with fail
 refine (HB.out _ _ hT0.out).mono ?_
 rintro e W1 ⟨rfl,hT1,_⟩
 have hTm:Hid (ja7 P w own (fun k=>False\/k=W1.heap.size) (W1.alloc (.cells #[iv b0,iv b1,iv b2,iv b3,iv b4] 78))):=jaz K hT1 _
 have mbm:Hid ((W1.alloc (.cells #[iv b0,iv b1,iv b2,iv b3,iv b4] 78)).heap[W1.heap.size]?=some (.cells #[iv b0,iv b1,iv b2,iv b3,iv b4] 78 (0,0))):=heap_alloc_new W1 _
 clear hT1 hT0 HB
 go_wp2_with fail
 generalize W1.alloc (.cells #[iv b0,iv b1,iv b2,iv b3,iv b4] 78)=Wm at hTm mbm ⊢
 generalize W1.heap.size=mz at hTm mbm ⊢
 go_loopw [6,7] (fun u i wr=>∃ j:Nat,j<=n/\i=iv j/\u=.bool (wb j)/\Hid (ja7 P w own (fun k=>False\/k=mz) wr)/\Hid (wr.heap[mz]?=some (.cells #[iv b0,iv b1,iv b2,iv b3,iv b4] 78 (0,0)))) (fun _ i _=>n - (intOf i).toNat)
 case atStart=>exact ⟨0,Nat.zero_le _,rfl,by rw [hw0],hTm,mbm⟩
 case round =>
  obtain ⟨j,hj,rfl,rfl,HK,mb⟩:=hrel
  clear hTm mbm hw0
  obtain ⟨a,ca,hL,cL,hrow⟩:=HX.out _ _ HK.out
  by_cases hlt:j<n
  ·obtain ⟨g,rfl,hg,g0,g1,g2⟩:=hrow j hlt
   have HPj:Hid _:=HP.out j hlt
   have HFj:Hid _:=HF.out j hlt
   have HXj:Hid (∀ W,ja7 P w own (fun k=>(False\/k=mz)\/k=W.heap.size - 1) W->True):=fun _ _=>trivial
   have bj0:(0:Int)<=(j:Int):=by omega
   have bj1:(j:Int)<(n:Int):=by omega
   have hwj:IntKind.i64.wrap ((j:Int)+1)=(j:Int)+1:=jab (by omega) (by omega)
   have HNX:Hid (∀ u wr',u=wb (j+1)->ja7 P w own (fun k=>False\/k=mz) wr'->wr'.heap[mz]?=some (.cells #[iv b0,iv b1,iv b2,iv b3,iv b4] 78 (0,0))->∃ j':Nat,j'<=n/\Value.int .i64 ((j:Int)+1)=iv j'/\Value.bool u=.bool (wb j')/\Hid (ja7 P w own (fun k=>False\/k=mz) wr')/\Hid (wr'.heap[mz]?=some (.cells #[iv b0,iv b1,iv b2,iv b3,iv b4] 78 (0,0)))):=fun u wr' e h1 h2=>⟨j+1,by omega,by simp,by rw [e],h1,h2⟩
   generalize hkj:kn j=kj at g0 g1 g2 HPj HFj
   obtain ⟨kc,ku,kp⟩:=kj
   simp only at g0 g1 g2 HPj HFj
   generalize rep j=rj at HPj HFj
   obtain ⟨r1,r2,r3,r4⟩:=rj
   simp only at HPj HFj
   generalize wb (j+1)=u' at HFj HNX
   generalize wb j=u0 at HFj ⊢
   have HX':Hid (∀ loc W,ja7 P w own loc W->∃ g c,L<W.heap.size/\W.cell? (aq L 0)=some (.slice (some (aq g 0)) n c)/\g<W.heap.size/\W.cell? (aq g (j * 3+1))=some (iv ku)):=fun loc W hW=>by
    obtain ⟨a,c,h1,h2,h3⟩:=HX.out loc W hW
    obtain ⟨b,rfl,h4,_,h5,_⟩:=h3 j hlt
    rw [hkj] at h5
    exact ⟨b,c,h1,h2,h4,h5⟩
   clear HP HF hrow HX hkj HXj
   go_wp2_with fail
   refine (HPj.out _ _ HK.out).mono ?_
   rintro e V1 ⟨rfl,hV,hk⟩
   have mb1:Hid _:=(hk _ (.inr rfl)).trans mb.out
   have lm1:mz<V1.heap.size:=(blt mb1.out)
   have hU1:Hid (ja7 P w own (fun k=>(False\/k=mz)\/k=V1.heap.size) (V1.alloc (.cells #[iv r1,iv r2,iv r3,iv r4] 42))):=jaz K hV _
   have mu1:Hid ((V1.alloc (.cells #[iv r1,iv r2,iv r3,iv r4] 42)).heap[mz]?=some (.cells #[iv b0,iv b1,iv b2,iv b3,iv b4] 78 (0,0))):=(Below.heap_alloc _ _ _ lm1).trans mb1.out
   have pu1:Hid ((V1.alloc (.cells #[iv r1,iv r2,iv r3,iv r4] 42)).heap[V1.heap.size]?=some (.cells #[iv r1,iv r2,iv r3,iv r4] 42 (0,0))):=heap_alloc_new V1 _
   obtain ⟨gg,c,hL,cL,hg,g1⟩:=HX'.out _ _ hV
   obtain ⟨m0,m1,m2,m3,m4⟩:=jer mb1.out
   have nm1:V1.heap.size≠mz:=by omega
   obtain ⟨F1,F2,F3⟩:=HFj.out
   have fact:(u0=true/\u'=true/\r1=12)\/(u0=true/\u'=true/\(r1==13)=false/\(r1==14)=false/\(r1==15)=false/\(r1==12)=false)\/(u0=false/\u'=true/\r1=12/\¬ ku<=b0)\/(u0=false/\u'=false/\(r1==12)=false):=by
    cases u0
    ·by_cases e:r1=12
     ·exact .inr (.inr (.inl ⟨rfl,by simpa [e] using F2,e,by have:=F3 e rfl;omega⟩))
     ·exact .inr (.inr (.inr ⟨rfl,by simpa [e] using F2,by simpa using e⟩))
    ·obtain ⟨x1,x2,x3⟩:=F1 rfl
     by_cases e:r1=12
     ·exact .inl ⟨rfl,by simpa using F2,e⟩
     ·exact .inr (.inl ⟨rfl,by simpa using F2,by simpa using x1,by simpa using x2,by simpa using x3,by simpa using e⟩)
   clear hk hV HPj HK mb mb1 F1 F2 F3 HFj
   rcases fact with ⟨rfl,rfl,rfl⟩|⟨rfl,rfl,d1,d2,d3,d4⟩|⟨rfl,rfl,rfl,d1⟩|⟨rfl,rfl,d1⟩
   iterate 2
    ·clear HX'
     go_wp2_with fail
     go_roundw
     case rel=>first|exact HNX.out _ _ rfl (ja2 K (je9 hU1.out (fun k e=>.inl e)) bL) mu1.out|(rw [hwj];exact HNX.out _ _ rfl (ja2 K (je9 hU1.out (fun k e=>.inl e)) bL) mu1.out)
     case measure=>simp [intOf];omega
   ·go_wp2_with fail
    clear hL cL hg g1 m0 m1 m2 m3 m4 nm1 lm1
    generalize V1.alloc (.cells #[iv 12,iv r2,iv r3,iv r4] 42)=U1 at hU1 mu1 pu1 ⊢
    generalize V1.heap.size=pz at hU1 pu1 ⊢
    obtain ⟨g,c,hL,cL,hg,g1⟩:=HX'.out _ _ hU1.out
    obtain ⟨m0,m1,m2,m3,m4⟩:=jer mu1.out
    have lm:mz<U1.heap.size:=(blt mu1.out)
    have d1d:decide (ku<=b0)=false:=by simpa using d1
    clear HX'
    go_quiet (fail)
    go_wp2_with fail
    go_roundw
    case rel=>first|exact HNX.out _ _ rfl (ja2 K (je9 hU1.out (fun k e=>.inl e)) bL) mu1.out|(rw [hwj];exact HNX.out _ _ rfl (ja2 K (je9 hU1.out (fun k e=>.inl e)) bL) mu1.out)
    case measure=>simp [intOf];omega
   ·clear HX'
    go_wp2_with fail
    go_roundw
    case rel=>first|exact HNX.out _ _ rfl (ja2 K (je9 hU1.out (fun k e=>.inl e)) bL) mu1.out|(rw [hwj];exact HNX.out _ _ rfl (ja2 K (je9 hU1.out (fun k e=>.inl e)) bL) mu1.out)
    case measure=>simp [intOf];omega
  ·have hje:j=n:=by omega
   subst hje
   clear HP HF HX hrow
   go_wp2
   refine bodyPost_ret (v:=.bool true) (by simp [results,Tryz.results18,go_sem]) rfl ⟨rfl,jan (ja2 K HK.out bL)⟩
theorem jp3 {W:World} {sa:Option Addr} {n j:Nat} {ps:List Stp} (h:stepsAt W sa n ps) (hj:j<n):∃ b off,sa=some (aq b off)/\b<W.heap.size/\jw1 W b (off+j * 6) (ps.getD j jaq):=by
 obtain ⟨b,off,e,hb,hc⟩:=h.2 (by intro e;have:=h.1;rw [e] at this;simp at this;omega)
 exact ⟨b,off,e,hb,hc j hj⟩
theorem qev (n m:Nat) (v0 v1 v2 v3 v4 v5 v6 v7:Value) (sa:Option Addr) (sc:Nat) (ps:List Stp) (w:World) (hn:n<=4611686018427387904) (hm:m<n) (hps:stepsAt w sa n ps) (fr:Bool) (hfr:Hid (fr=true↔∀ k,k<m->(ps.getD k jaq).t≠(ps.getD m jaq).t)) :
 Calls Tryz.prog 40 #[.agg #[v0,v1,v2,v3,v4,v5,v6,v7,.slice sa n sc],iv m] w fun e w'=>e=.returned (.bool fr)/\Below w.heap.size w w':=by
 have HS:Hid (∀ W,Below w.heap.size w W->stepsAt W sa n ps):=fun W hW=>hps.below hW
 have hB0:Hid (Below w.heap.size w (w.alloc (.cells #[v0,v1,v2,v3,v4,v5,v6,v7,.slice sa n sc] 32))):=(Below.refl _ _).alloc (Nat.le_refl _) _
 have xb0:Hid ((w.alloc (.cells #[v0,v1,v2,v3,v4,v5,v6,v7,.slice sa n sc] 32)).heap[w.heap.size]?=some (.cells #[v0,v1,v2,v3,v4,v5,v6,v7,.slice sa n sc] 32 (0,0))):=heap_alloc_new w _
 clear hps
 go_enter Tryz.func40,Tryz.ntmps40
 go_wp2_with fail
 generalize w.alloc (.cells #[v0,v1,v2,v3,v4,v5,v6,v7,.slice sa n sc] 32)=W0 at hB0 xb0 ⊢
 go_loopw [5] (fun i wr=>∃ j:Nat,j<=m/\i=iv j/\Hid (∀ k,k<j->(ps.getD k jaq).t≠(ps.getD m jaq).t)/\Hid (Below w.heap.size w wr)/\Hid (wr.heap[w.heap.size]?=some (.cells #[v0,v1,v2,v3,v4,v5,v6,v7,.slice sa n sc] 32 (0,0)))) (fun i _=>m - (intOf i).toNat)
 case atStart=>exact ⟨0,Nat.zero_le _,rfl,fun k hk=>by omega,hB0,xb0⟩
 case round =>
  obtain ⟨j,hj,rfl,hno,hB,xb⟩:=hrel
  clear hB0 xb0
  obtain ⟨k0,k1,k2,k3,k4,k5,k6,k7,k8⟩:=je2 xb.out
  have lx:w.heap.size<wr.heap.size:=(blt xb.out)
  by_cases hlt:j<m
  ·obtain ⟨b,off,rfl,hb,s0,s1,s2,s3,s4,s5⟩:=jp3 (HS.out wr hB.out) (show j<n by omega)
   obtain ⟨b',off',e,_,r0,r1,r2,r3,r4,r5⟩:=jp3 (HS.out wr hB.out) hm
   simp only [Option.some.injEq,Addr.mk.injEq] at e
   obtain ⟨rfl,rfl,_⟩:=e
   have bj0:(0:Int)<=(j:Int):=by omega
   have bj1:(j:Int)<(m:Int):=by omega
   have bj2:(j:Int)<(n:Int):=by omega
   have bm0:(0:Int)<=(m:Int):=by omega
   have bm1:(m:Int)<(n:Int):=by omega
   have hwj:IntKind.i64.wrap ((j:Int)+1)=(j:Int)+1:=jab (by omega) (by omega)
   have HY:Hid ((ps.getD j jaq).t=(ps.getD m jaq).t->fr=false):=fun e=>by
    cases hf:fr
    ·rfl
    ·exact absurd e (hfr.out.1 hf j hlt)
   have HN:Hid ((ps.getD j jaq).t≠(ps.getD m jaq).t->∀ k,k<j+1->(ps.getD k jaq).t≠(ps.getD m jaq).t):=fun e k hk=>by
    by_cases ek:k=j
    ·rw [ek];exact e
    ·exact hno.out k (by omega)
   have HNX:Hid (∀ wr',Below w.heap.size w wr'->wr'.heap[w.heap.size]?=some (.cells #[v0,v1,v2,v3,v4,v5,v6,v7,.slice (some (aq b off)) n sc] 32 (0,0))->(∀ k,k<j+1->(ps.getD k jaq).t≠(ps.getD m jaq).t)->∃ j':Nat,j'<=m/\Value.int .i64 ((j:Int)+1)=iv j'/\Hid (∀ k,k<j'->(ps.getD k jaq).t≠(ps.getD m jaq).t)/\Hid (Below w.heap.size w wr')/\Hid (wr'.heap[w.heap.size]?=some (.cells #[v0,v1,v2,v3,v4,v5,v6,v7,.slice (some (aq b off)) n sc] 32 (0,0)))):=fun wr' e e' h=>⟨j+1,by omega,by simp,h,e,e'⟩
   generalize (ps.getD j jaq).t=tj at s2 HY HN
   generalize hg:(ps.getD m jaq).t=tm at r2 HY HN HNX
   clear hg hno hfr HS s0 s1 s3 s4 s5 r0 r1 r3 r4 r5
   by_cases ht:tj=tm
   ·have hf:=HY.out ht
    subst hf
    have et:(tj==tm)=true:=by simpa using ht
    clear HY HN HNX
    go_wp2_with fail
    try go_quiet (fail)
    try go_wp2
    refine bodyPost_ret (v:=.bool false) (by simp [results,Tryz.results40,go_sem]) rfl ⟨rfl,bL⟩
   ·have hf:=HN.out ht
    have et:(tj==tm)=false:=by simpa using ht
    replace hf:Hid _:=hf
    clear HY HN
    go_wp2_with fail
    try go_quiet (fail)
    try go_wp2_with fail
    go_roundw
    case rel=>first|exact HNX.out _ bL xb.out hf.out|(rw [hwj];exact HNX.out _ bL xb.out hf.out)
    case measure=>simp [intOf];omega
  ·have hje:j=m:=by omega
   subst hje
   have hf:fr=true:=hfr.out.2 hno.out
   subst hf
   clear hfr hno HS
   go_wp2
   refine bodyPost_ret (v:=.bool true) (by simp [results,Tryz.results40,go_sem]) rfl ⟨rfl,bL⟩
end Go.Proofs.YtfhncfghblkgeaaGreat
