import Derived.Test.YtfhncfghblkgeaaGreatL42
import Derived.Test.YtfhncfghblkgeaaGreatL43
set_option maxRecDepth 100000
set_option maxHeartbeats 2000000
namespace Go.Proofs.YtfhncfghblkgeaaGreat
open Go.RowKit
section
theorem jwg (x:Nat) (c o pk po pc pu:Int) (w:World) (own:Nat->Prop) (P0 P1:World->(Nat->Prop)->Prop) (K0:Keeps P0) (K1:Keeps P1) (h:P0 w own)
 (HD:Hid (∀ W o',P0 W o'->Calls Tryz.prog 15 #[pt x 0,.agg #[iv 0,iv 4,iv 0,iv c,iv 0,iv o]] W fun e w'=>e=.returned (.tuple #[.agg #[iv pk,iv po,iv pc,iv pu],.bool true])/\jar P1 W w' o')) :
 Calls Tryz.prog 37 #[pt x 0,iv c,iv o] w fun e w'=>e=.returned (.tuple #[.agg #[iv pk,iv po,iv pc,iv pu],.bool true])/\jar P1 w w' own:=by
 have HW:Hid (∀ k,own k->k<w.heap.size):=K0.lt h
 have HDs:Hid _:=jcb (m:=1) HW.out HD.out
 have hT0:Hid (jb5 P0 w own 1 (w.alloc (.cells #[iv 0,iv 0,iv 0,iv 0] 42))):=jcw K0 h ((Below.refl _ _).alloc (Nat.le_refl _) _) (by simp)
 have rb0:Hid ((w.alloc (.cells #[iv 0,iv 0,iv 0,iv 0] 42)).heap[w.heap.size]?=some (.cells #[iv 0,iv 0,iv 0,iv 0] 42 (0,0))):=heap_alloc_new w _
 clear h
 go_enter Tryz.func37,Tryz.ntmps37
 go_wp2_with fail
 generalize w.alloc (.cells #[iv 0,iv 0,iv 0,iv 0] 42)=W0 at hT0 rb0 ⊢
 refine (HDs.out _ hT0.out).mono ?_
 rintro e W1 ⟨rfl,hT1,hk⟩
 have rb1:Hid _:=(hk _ (Nat.le_refl _) (by omega)).trans rb0.out
 have lr1:w.heap.size<W1.heap.size:=(blt rb1.out)
 have HE:Hid (∀ v0 v1 v2 v3,jar P1 w ((((W1.setCell (aq w.heap.size 0) v0).setCell (aq w.heap.size 1) v1).setCell (aq w.heap.size 2) v2).setCell (aq w.heap.size 3) v3) own):=fun v0 v1 v2 v3=>jdg (jim K1 hT1 HW.out (by omega) (by omega) v0 v1 v2 v3)
 have f0:=ja0 rb1.out 0
 have f1:=ja0 rb1.out 1
 have f2:=ja0 rb1.out 2
 have f3:=ja0 rb1.out 3
 obtain ⟨z0,z1,z2,z3⟩:=jf2 rb1.out
 clear hT1 hk HW rb0 hT0 HDs HD
 go_wp2
 refine bodyPost_ret (v:=.tuple #[.agg #[iv pk,iv po,iv pc,iv pu],.bool true]) (by simp [results,Tryz.results37,go_sem,z0,z1,z2,z3]) rfl ⟨rfl,?_⟩
 exact HE.out _ _ _ _
theorem qbk:inI 0:=⟨by decide,by decide⟩
theorem qdj:inI 4:=⟨by decide,by decide⟩
section
variable {w:World} {x:Nat} {own:Nat->Prop} {S:Sal}
def Sal.pollK (S:Sal) (c o:Int):Rep:=(S.does ⟨0,4,0,c,0,o⟩).1
theorem ju1 (S:Sal) (c o:Int):(S.does ⟨0,4,0,c,0,o⟩).2=S:=by
 unfold Sal.does
 rw [if_pos (by show (0:Int)<=4/\(4:Int)<256;omega),if_neg (by show ¬ (4:Int)=0;omega)]
 unfold Sal.sendK
 split
 ·unfold Sal.send
  rw [if_neg (fun c=>c rfl),if_pos (show (Stp.req _).kind=4 from rfl)]
 ·rfl
theorem jye (h:PSK w x own S) (c o:Int) (hc:inI c) (ho:inI o) :
 Calls Tryz.prog 37 #[pt x 0,iv c,iv o] w fun e w'=>e=.returned (.tuple #[(S.pollK c o).val,.bool true])/\jar (juv x S) w w' own:=by
 refine jwg x c o _ _ _ _ w own (juv x S) (juv x S) (jh6 _ _) (jh6 _ _) h (fun W o' hp=>?_)
 have:=jsa hp ⟨0,4,0,c,0,o⟩ ⟨qbk,qdj,qbk,hc,qbk,ho⟩
 rw [ju1] at this
 exact this
def jh1 (C:Cfg):Sal:=⟨C,0,[],[]⟩
theorem qdd {n0 n1 n2 n3 n4 n5 n6:Int} {ts:List (Int × Int)} (hc:jgk [n0,n1,n2,n3,n4,n5,n6] ts=true):salJ (jh1 ⟨n0,n1,n2,n3,n4,n5,n6,ts⟩)/\keepI (jh1 ⟨n0,n1,n2,n3,n4,n5,n6,ts⟩):=by
 have hc':=hc
 unfold jgk at hc'
 simp only [List.all_cons,List.all_nil,Bool.and_true,Bool.and_eq_true] at hc'
 obtain ⟨⟨h0,h1,h2,h3,h4,h5,h6⟩,hp⟩:=hc'
 have hp':=hp
 unfold jbg at hp'
 simp only [Bool.and_eq_true,decide_eq_true_eq,List.all_eq_true,List.mem_range] at hp'
 obtain ⟨⟨hl1,hl4⟩,ht⟩:=hp'
 have hti:∀ i,i<ts.length->(1<=(ts.getD i (0,0)).2/\(ts.getD i (0,0)).2<=1073741824)/\(i=0->(ts.getD i (0,0)).1=0):=fun i hi=>by
  have:=ht i hi
  unfold jdt at this
  simp only [Bool.and_eq_true,decide_eq_true_eq] at this
  refine ⟨⟨this.1.1.1,this.1.1.2⟩,fun e=>?_⟩
  have h2:=this.2
  rw [if_pos e] at h2
  simpa using h2
 have hmem:∀ p∈ts,1<=p.2/\p.2<=1073741824:=fun p hp=>by
  obtain ⟨i,hi,e⟩:=List.getElem_of_mem hp
  have:=(hti i hi).1
  simpa [List.getD,List.getElem?_eq_getElem hi,e] using this
 have b0:=jch h0
 have b1:=jch h1
 have b2:=jch h2
 have b3:=jch h3
 have b4:=jch h4
 refine ⟨⟨⟨fun o ho=>by simp [jh1] at ho,?_,fun c _=>?_,?_,?_,fun o ho=>by simp [jh1] at ho,fun p hp=>?_⟩,b1.2,b2.1,by simp [jh1],fun a ha=>by simp [jh1] at ha⟩,⟨⟨hl1,?_,fun p hp=>(hmem p hp).1⟩,fun o ho=>by simp [jh1] at ho,fun a ha=>by simp [jh1] at ha⟩⟩
 ·show ja3 [] 13 0+ja3 [] 14 0<=n0
  simp [ja3];omega
 ·show ja3 [] 12 c<=4294967296
  simp [ja3]
 ·show 0<=n0/\n0<=4294967296/\0<=n3/\n3<=4294967296/\0<=n4/\n4<=4294967296
  omega
 ·show (0:Int)<=0/\(0:Int)<=4611686018427387904
  omega
 ·have:=hmem p hp
  omega
 ·exact (hti 0 (by omega)).2 rfl
theorem jrr {ts:List (Int × Int)} (hp:jbg ts=true):∀ k,1<=k->k<=ts.length->jd0 ts 0 k=(ts.getD 0 (0,0)).2:=by
 unfold jbg at hp
 simp only [Bool.and_eq_true,decide_eq_true_eq,List.all_eq_true,List.mem_range] at hp
 obtain ⟨⟨hl1,hl4⟩,ht⟩:=hp
 have hti:∀ i,i<ts.length->(i=0->(ts.getD i (0,0)).1=0)/\(i≠0->(ts.getD (i - 1) (0,0)).1<(ts.getD i (0,0)).1):=fun i hi=>by
  have:=ht i hi
  unfold jdt at this
  simp only [Bool.and_eq_true,decide_eq_true_eq] at this
  have h2:=this.2
  refine ⟨fun e=>?_,fun e=>?_⟩
  ·rw [if_pos e] at h2;simpa using h2
  ·rw [if_neg e] at h2;simpa using h2
 have hpos:∀ i,i<ts.length->i≠0->0<(ts.getD i (0,0)).1:=by
  intro i
  induction i with
  | zero=>intro _ h;exact absurd rfl h
  | succ i ih =>
    intro hi _
    have h1:=(hti (i+1) hi).2 (by omega)
    rw [Nat.add_sub_cancel] at h1
    by_cases e:i=0
    ·have:=(hti 0 (by omega)).1 rfl
     rw [e] at h1 ⊢
     omega
    ·have:=ih (by omega) e
     omega
 intro k
 induction k with
 | zero=>intro h;omega
 | succ k ih =>
   intro _ hk
   rw [jd0]
   by_cases e:k=0
   ·rw [e,(hti 0 (by omega)).1 rfl,if_pos (Int.le_refl _)]
   ·have:=hpos k (by omega) e
    rw [if_neg (by omega)]
    exact ih (by omega) (by omega)
theorem jun {n0 n1 n2 n3 n4 n5 n6:Int} {ts:List (Int × Int)} (hc:jgk [n0,n1,n2,n3,n4,n5,n6] ts=true):((jh1 ⟨n0,n1,n2,n3,n4,n5,n6,ts⟩).sendK ⟨0,1,1,1,1,0⟩).1=⟨2,1,(ts.getD 0 (0,0)).2,n3⟩:=by
 have hc':=hc
 unfold jgk at hc'
 simp only [List.all_cons,List.all_nil,Bool.and_true,Bool.and_eq_true] at hc'
 obtain ⟨⟨h0,h1,h2,h3,h4,h5,h6⟩,hp⟩:=hc'
 have b0:=jch h0
 have b1:=jch h1
 have b6:=jch h6
 have hlen:1<=ts.length:=by
  have hp':=hp
  unfold jbg at hp'
  simp only [Bool.and_eq_true,decide_eq_true_eq] at hp'
  exact hp'.1.1
 have hu:∀ st c:Int,ja3 [] st c=0:=fun st c=>by simp [ja3]
 have hpr:(jh1 ⟨n0,n1,n2,n3,n4,n5,n6,ts⟩).price=(ts.getD 0 (0,0)).2:=by
  show jd0 ts (ja3 [] 14 0) ts.length=_
  rw [hu]
  exact jrr hp _ hlen (Nat.le_refl _)
 have hask:((jh1 ⟨n0,n1,n2,n3,n4,n5,n6,ts⟩).ask ⟨1,1,1,1,0⟩).1=⟨2,1,(ts.getD 0 (0,0)).2,n3⟩:=by
  obtain ⟨e1,e2⟩:=jdu (jh1 ⟨n0,n1,n2,n3,n4,n5,n6,ts⟩) 1 1
  unfold Sal.ask
  rw [if_neg (by show ¬ n1<ja3 [] 13 1+ja3 [] 14 1+ja3 [] 12 1+1;rw [hu,hu,hu];omega)]
  rw [if_neg (by show ¬ n0 - ja3 [] 14 0<1;rw [hu];omega)]
  rw [if_neg (by show ¬ 4294967296<=0;omega)]
  rw [if_pos ⟨rfl,by show (1:Int)<=n0 - ja3 [] 14 0 - ja3 [] 13 0;rw [hu,hu];omega⟩]
  have e3:((jh1 ⟨n0,n1,n2,n3,n4,n5,n6,ts⟩).more ⟨1,1,0,0,0,0⟩).holds (jh1 ⟨n0,n1,n2,n3,n4,n5,n6,ts⟩).os.length=(jh1 ⟨n0,n1,n2,n3,n4,n5,n6,ts⟩).more ⟨1,1,13,(jh1 ⟨n0,n1,n2,n3,n4,n5,n6,ts⟩).price,(jh1 ⟨n0,n1,n2,n3,n4,n5,n6,ts⟩).now+(jh1 ⟨n0,n1,n2,n3,n4,n5,n6,ts⟩).C.lease,0⟩:=by rw [e1,e2]
  simp only
  rw [e3,hpr]
  simp [Sal.more,jh1]
 unfold Sal.sendK
 rw [if_pos (by rfl)]
 unfold Sal.send
 rw [if_neg (fun c=>c rfl),if_neg (by show ¬ (1:Int)=4;omega)]
 have hus:(jh1 ⟨n0,n1,n2,n3,n4,n5,n6,ts⟩).used (Stp.req ⟨0,1,1,1,1,0⟩).token=none:=rfl
 rw [hus]
 simp only
 rw [if_neg (by show ¬ ((0:Nat):Int)=n6;omega)]
 exact hask
theorem jvd (p:Stp) {ba:Option Addr} {bl bc:Nat} (hps:PSW w x own S) (hJ:salJ S) (hsl:jah w ba bl bc p.bytes) :
 Calls Tryz.prog 33 #[pt x 0,.slice ba bl bc] w fun e w'=>e=.returned (S.sendK p).1.val/\jar (fun W o=>PSW W x o (S.sendK p).2) w w' own:=by
 unfold Sal.sendK
 rcases p.un with ⟨hb,hun⟩|⟨hb,hun⟩
 ·rw [if_pos hb]
  exact sendW.send hps hJ hsl hun
 ·rw [if_neg (by rw [hb];decide)]
  have:=sendW.send hps hJ hsl hun
  unfold Sal.send at this
  rw [if_pos (by decide)] at this
  exact this
theorem jsh {n0 n1 n2 n3 n4 n5 n6:Int} {a sa:Option Addr} {len cap sl sc:Nat} {ts:List (Int × Int)} (ht:tiersAt w a len cap ts) :
 Calls Tryz.prog 13 #[.agg #[iv n0,iv n1,iv n2,iv n3,iv n4,iv n5,iv n6,.slice a len cap,.slice sa sl sc]] w fun e w' =>
  (jgk [n0,n1,n2,n3,n4,n5,n6] ts=false/\e=.returned (.tuple #[.pointer none,.bool true])/\Below w.heap.size w w') ∨
  (jgk [n0,n1,n2,n3,n4,n5,n6] ts=true/\∃ x own,e=.returned (.tuple #[pt x 0,.bool true])/\PSK w' x own (jh1 ⟨n0,n1,n2,n3,n4,n5,n6,ts⟩)/\(∀ k,own k->w.heap.size<=k)/\Below w.heap.size w w'):=by
 cases hc:jgk [n0,n1,n2,n3,n4,n5,n6] ts
 ·refine (jy7 n0 n1 n2 n3 n4 n5 n6 a sa len cap sl sc w (fun W hW=>openW.no (ht.below hW (Nat.le_refl _)) hc) (fun W hW=>?_)).mono (fun e w' h=>.inl ⟨rfl,h⟩)
  have:=jqh n0 n1 n2 n3 n4 n5 n6 a len cap ts W (ht.below hW (Nat.le_refl _))
  rw [hc] at this
  exact this
 ·obtain ⟨hJ,hI⟩:=qdd hc
  have hc':=hc
  unfold jgk at hc'
  simp only [List.all_cons,List.all_nil,Bool.and_true,Bool.and_eq_true] at hc'
  obtain ⟨⟨h0,h1,h2,h3,h4,h5,h6⟩,hp⟩:=hc'
  have hlen:1<=ts.length/\ts.length<=4:=by
   unfold jbg at hp
   simp only [Bool.and_eq_true,decide_eq_true_eq] at hp
   exact hp.1
  refine (jy2 n0 n1 n2 n3 n4 n5 n6 a sa len cap sl sc w (fun x W o=>PSK W x o (jh1 ⟨n0,n1,n2,n3,n4,n5,n6,ts⟩)) (fun x=>jh6 x _) (fun W hW=>?_) (fun W hW=>?_) (fun W hW=>?_)).mono (fun e w' h=>.inr ⟨rfl,h⟩)
  ·refine (openW.yes (ht.below hW (Nat.le_refl _)) hc).mono ?_
   rintro e w' ⟨x,own,rfl,p1,p2,p3⟩
   exact ⟨x,own,rfl,⟨p1,hJ,hI⟩,p2,p3⟩
  ·have:=jqh n0 n1 n2 n3 n4 n5 n6 a len cap ts W (ht.below hW (Nat.le_refl _))
   rw [hc] at this
   exact this
  ·obtain ⟨t1,t2,t3,t4,t5⟩:=ht.below hW (Nat.le_refl _)
   obtain ⟨b,off,rfl,hb,hcell⟩:=t5 (by intro e;have:=hlen.1;rw [e] at this;simp at this)
   obtain ⟨q0,q1⟩:=hcell 0 (by omega)
   simp only [Nat.zero_mul,Nat.add_zero] at q0 q1
   have hs:∀ W,Calls Tryz.prog 34 #[.agg #[iv 1,iv 1,iv 1,iv 1,iv 0]] W fun e w'=>∃ ba bl bc,e=.returned (.slice ba bl bc)/\jah w' ba bl bc (Stp.bytes ⟨0,1,1,1,1,0⟩)/\Below W.heap.size W w':=fun W=>by
    refine (jwp 1 1 1 1 0 W (by decide) (by decide) (by decide) (by decide) (by decide) (by decide)).mono ?_
    rintro e w' ⟨v,rfl,hown,hb⟩
    obtain ⟨g,cap,rfl,hs'⟩:=jib (jn6 hown (by unfold jak;simp)) (Stp.bytes_byte ⟨0,1,1,1,1,0⟩ (by show (0:Int)<=1/\(1:Int)<256;omega))
    exact ⟨_,_,_,rfl,hs',hb⟩
   refine jua n0 n1 n2 n3 n4 n5 n6 _ _ b off len cap W hb (by omega) (by omega) q0 q1 (fun x W o=>PSK W x o (jh1 ⟨n0,n1,n2,n3,n4,n5,n6,ts⟩)) (fun x W o=>PSW W x o ((jh1 ⟨n0,n1,n2,n3,n4,n5,n6,ts⟩).sendK ⟨0,1,1,1,1,0⟩).2) (fun x=>jh6 x _) (fun W ba bl bc=>jah W ba bl bc (Stp.bytes ⟨0,1,1,1,1,0⟩)) (fun W' hW'=>?_) hs (fun x W' o ba bl bc hp hsl=>?_)
   ·refine (openW.yes (ht.below (hW.trans (hW'.mono hW.size)) (Nat.le_refl _)) hc).mono ?_
    rintro e w' ⟨x,own,rfl,p1,p2,p3⟩
    exact ⟨x,own,rfl,⟨p1,hJ,hI⟩,p2,p3⟩
   ·have:=jvd ⟨0,1,1,1,1,0⟩ hp.ps hJ hsl
    rw [jun hc] at this
    exact this
end
end
theorem jsy (x L n:Nat) (c0 c1 c2 c6:Int) (v3 v4 v5 v7 v8:Value) (w:World) (own:Nat->Prop) (P:World->(Nat->Prop)->Prop) (K:Keeps P) (h:P w own) (kn:Nat->Kn) (b0 b1 b2 b3 b4 qq:Int) (sm:Int->Int × Int × Int × Int) (hn:n<=4294967296)
 (hb:(0<=b0/\b0<=4294967296)/\(0<=b1/\b1<=4294967296)/\(0<=b2/\b2<=4294967296)/\b0+b1+b2=c0/\b3<=c2/\0<=b4/\b4<=c6)
 (HM:Hid (∀ j,j<n->(0<=(sm (kn j).cust).1/\(sm (kn j).cust).1<=4294967296)/\(0<=(sm (kn j).cust).2.1/\(sm (kn j).cust).2.1<=4294967296)/\(0<=(sm (kn j).cust).2.2.1/\(sm (kn j).cust).2.2.1<=4294967296)/\(sm (kn j).cust).1+(sm (kn j).cust).2.1+(sm (kn j).cust).2.2.1<=c1))
 (HX:Hid (∀ loc W,ja9 P w own loc W->∃ a c,L<W.heap.size/\W.cell? (aq L 0)=some (.slice a n c)/\∀ j,j<n->∃ b,a=some (aq b 0)/\b<W.heap.size/\W.cell? (aq b (j * 3))=some (iv (kn j).cust)/\W.cell? (aq b (j * 3+1))=some (iv (kn j).units)/\W.cell? (aq b (j * 3+2))=some (.bool (kn j).paid)))
 (HB:Hid (jc2 w own P P 29 #[pt x 0] (.agg #[iv b0,iv b1,iv b2,iv b3,iv b4])))
 (HS:Hid (jc2 w own P P 30 #[pt L 0,pt x 0,iv 0] (.tuple #[.agg #[iv b1,iv b2,iv qq,iv b3],.bool true])))
 (HA:Hid (∀ j,j<n->jc2 w own P P 31 #[pt x 0,iv (kn j).cust] (.tuple #[.agg #[iv (sm (kn j).cust).1,iv (sm (kn j).cust).2.1,iv (sm (kn j).cust).2.2.1],iv 0])))
 (HSj:Hid (∀ j,j<n->jc2 w own P P 30 #[pt L 0,pt x 0,iv (kn j).cust] (.tuple #[.agg #[iv (sm (kn j).cust).1,iv (sm (kn j).cust).2.1,iv (sm (kn j).cust).2.2.1,iv (sm (kn j).cust).2.2.2],.bool true]))) :
 Calls Tryz.prog 14 #[.agg #[iv c0,iv c1,iv c2,v3,v4,v5,iv c6,v7,v8],pt x 0,pt L 0] w fun e w'=>e=.returned (.bool true)/\jar P w w' own:=by
 have HW:Hid (∀ k,own k->k<w.heap.size):=K.lt h
 have hTx:Hid (ja9 P w own (fun k=>k=w.heap.size) (w.alloc (.cells #[iv c0,iv c1,iv c2,v3,v4,v5,iv c6,v7,v8] 32))):=jaj K h ((Below.refl _ _).alloc (Nat.le_refl _) _) (fun k e=>by simp [e])
 have ybx:Hid ((w.alloc (.cells #[iv c0,iv c1,iv c2,v3,v4,v5,iv c6,v7,v8] 32)).heap[w.heap.size]?=some (.cells #[iv c0,iv c1,iv c2,v3,v4,v5,iv c6,v7,v8] 32 (0,0))):=heap_alloc_new w _
 clear h
 go_enter Tryz.func14,Tryz.ntmps14
 go_wp2_with fail
 generalize w.alloc (.cells #[iv c0,iv c1,iv c2,v3,v4,v5,iv c6,v7,v8] 32)=W0 at hTx ybx ⊢
 refine (HB.out _ _ hTx.out).mono ?_
 rintro e W1 ⟨rfl,hT1,hk1⟩
 have yb1:Hid _:=(hk1 _ rfl).trans ybx.out
 have lx1:w.heap.size<W1.heap.size:=(blt yb1.out)
 have hTm:Hid (ja9 P w own (fun k=>k=w.heap.size\/k=W1.heap.size) (W1.alloc (.cells #[iv b0,iv b1,iv b2,iv b3,iv b4] 78))):=jaf K hT1 _
 have ybm:Hid ((W1.alloc (.cells #[iv b0,iv b1,iv b2,iv b3,iv b4] 78)).heap[w.heap.size]?=_):=(Below.heap_alloc _ _ _ lx1).trans yb1.out
 have mbm:Hid ((W1.alloc (.cells #[iv b0,iv b1,iv b2,iv b3,iv b4] 78)).heap[W1.heap.size]?=some (.cells #[iv b0,iv b1,iv b2,iv b3,iv b4] 78 (0,0))):=heap_alloc_new W1 _
 clear hk1 hT1 hTx ybx HB yb1
 go_wp2_with fail
 generalize W1.alloc (.cells #[iv b0,iv b1,iv b2,iv b3,iv b4] 78)=Wm at hTm ybm mbm ⊢
 have hmz:W1.heap.size≠w.heap.size:=by omega
 generalize W1.heap.size=mz at hTm mbm hmz ⊢
 clear lx1
 refine (HS.out _ _ hTm.out).mono ?_
 rintro e W2 ⟨rfl,hT2,hk2⟩
 have yb2:Hid _:=(hk2 _ (.inl rfl)).trans ybm.out
 have mb2:Hid _:=(hk2 _ (.inr rfl)).trans mbm.out
 have lx2:w.heap.size<W2.heap.size:=(blt yb2.out)
 have lm2:mz<W2.heap.size:=(blt mb2.out)
 have hTn:Hid (ja9 P w own (fun k=>(k=w.heap.size\/k=mz)\/k=W2.heap.size) (W2.alloc (.cells #[iv b1,iv b2,iv qq,iv b3] 81))):=jaf K hT2 _
 have ybn:Hid ((W2.alloc (.cells #[iv b1,iv b2,iv qq,iv b3] 81)).heap[w.heap.size]?=_):=(Below.heap_alloc _ _ _ lx2).trans yb2.out
 have nbn:Hid ((W2.alloc (.cells #[iv b1,iv b2,iv qq,iv b3] 81)).heap[W2.heap.size]?=some (.cells #[iv b1,iv b2,iv qq,iv b3] 81 (0,0))):=heap_alloc_new W2 _
 obtain ⟨x0,x1,x2,x3,x4,x5,x6,x7,x8⟩:=jin yb2.out
 obtain ⟨m0,m1,m2,m3,m4⟩:=jhg mb2.out
 obtain ⟨⟨hb0,hb0'⟩,⟨hb1,hb1'⟩,⟨hb2,hb2'⟩,hb3,hb4,hb5,hb6⟩:=hb
 have w1:IntKind.i64.wrap (b0+b1)=b0+b1:=jag (by omega) (by omega)
 have w2:IntKind.i64.wrap (b0+b1+b2)=c0:=by rw [← hb3];exact jag (by omega) (by omega)
 have t0:¬ b0<0:=by omega
 have t1:¬ c2<b3:=by omega
 have t2:¬ b4<0:=by omega
 have t3:¬ c6<b4:=by omega
 clear hk2 hT2 hTm ybm mbm HS hb0 hb0' hb1 hb1' hb2 hb2' hb3 hb4 hb5 hb6
 go_wp2_with fail
 clear x0 x1 x2 x3 x4 x5 x6 x7 x8 m0 m1 m2 m3 m4 w1 w2 t0 t1 t2 t3 mb2
 have hTl:Hid (ja9 P w own (fun k=>k=w.heap.size\/k=W2.heap.size) (W2.alloc (.cells #[iv b1,iv b2,iv qq,iv b3] 81))):=by
  obtain ⟨o1,a1,a2,a3,a4⟩:=hTn.out
  exact ⟨o1,a1,a2,fun k e=>(a3 k e).imp id (fun c=>⟨c.1,fun d=>c.2 (d.elim (fun e=>.inl (.inl e)) .inr)⟩),fun k e=>a4 k (e.elim (fun e=>.inl (.inl e)) .inr)⟩
 have hnz:W2.heap.size≠w.heap.size:=by omega
 clear lx2 lm2 hTn yb2
 generalize W2.alloc (.cells #[iv b1,iv b2,iv qq,iv b3] 81)=Wn at hTl ybn nbn ⊢
 generalize W2.heap.size=nz at hTl nbn hnz ⊢
 go_loopw [10] (fun i wr=>∃ j:Nat,j<=n/\i=iv j/\Hid (ja9 P w own (fun k=>k=w.heap.size\/k=nz) wr)/\Hid (wr.heap[w.heap.size]?=some (.cells #[iv c0,iv c1,iv c2,v3,v4,v5,iv c6,v7,v8] 32 (0,0)))/\Hid (∃ q0 q1 q2 q3:Int,wr.heap[nz]?=some (.cells #[iv q0,iv q1,iv q2,iv q3] 81 (0,0)))) (fun i _=>n - (intOf i).toNat)
 case atStart=>exact ⟨0,Nat.zero_le _,rfl,hTl,ybn,⟨_,_,_,_,nbn.out⟩⟩
 case round =>
  obtain ⟨j,hj,rfl,HK,yb,nb⟩:=hrel
  clear hTl ybn nbn
  obtain ⟨a,ca,hL,cL,hrow⟩:=HX.out _ _ HK.out
  by_cases hlt:j<n
  ·obtain ⟨g,rfl,hg,g0,g1,g2⟩:=hrow j hlt
   have HAj:Hid _:=HA.out j hlt
   have HSj1:Hid _:=HSj.out j hlt
   have HMj:Hid _:=HM.out j hlt
   have bj0:(0:Int)<=(j:Int):=by omega
   have bj1:(j:Int)<(n:Int):=by omega
   have hwj:IntKind.i64.wrap ((j:Int)+1)=(j:Int)+1:=jag (by omega) (by omega)
   generalize kn j=kj at g0 g1 g2 HAj HSj1 HMj
   obtain ⟨kc,ku,kp⟩:=kj
   simp only at g0 g1 g2 HAj HSj1 HMj
   generalize sm kc=sj at HAj HSj1 HMj
   obtain ⟨s1,s2,s3,s4⟩:=sj
   simp only at HAj HSj1 HMj
   clear HA HSj HM hrow
   go_wp2_with fail
   refine (HAj.out _ _ HK.out).mono ?_
   rintro e V1 ⟨rfl,hV,hk⟩
   have yb1:Hid _:=(hk _ (.inl rfl)).trans yb.out
   have nb1:Hid (∃ q0 q1 q2 q3:Int,V1.heap[nz]?=some (.cells #[iv q0,iv q1,iv q2,iv q3] 81 (0,0))):=by
    obtain ⟨q0,q1,q2,q3,e⟩:=nb.out
    exact ⟨q0,q1,q2,q3,(hk _ (.inr rfl)).trans e⟩
   have ly1:w.heap.size<V1.heap.size:=(blt yb1.out)
   have ln1:nz<V1.heap.size:=by
    obtain ⟨q0,q1,q2,q3,e⟩:=nb1.out
    exact (blt e)
   have hU1:Hid (ja9 P w own (fun k=>(k=w.heap.size\/k=nz)\/k=V1.heap.size) (V1.alloc (.cells #[iv s1,iv s2,iv s3] 87))):=jaf K hV _
   have yu1:Hid ((V1.alloc (.cells #[iv s1,iv s2,iv s3] 87)).heap[w.heap.size]?=_):=(Below.heap_alloc _ _ _ ly1).trans yb1.out
   have nu1:Hid (∃ q0 q1 q2 q3:Int,(V1.alloc (.cells #[iv s1,iv s2,iv s3] 87)).heap[nz]?=some (.cells #[iv q0,iv q1,iv q2,iv q3] 81 (0,0))):=by
    obtain ⟨q0,q1,q2,q3,e⟩:=nb1.out
    exact ⟨q0,q1,q2,q3,(Below.heap_alloc _ _ _ ln1).trans e⟩
   have au1:Hid ((V1.alloc (.cells #[iv s1,iv s2,iv s3] 87)).heap[V1.heap.size]?=some (.cells #[iv s1,iv s2,iv s3] 87 (0,0))):=heap_alloc_new V1 _
   have ha1:V1.heap.size≠w.heap.size:=by omega
   have ha2:V1.heap.size≠nz:=by omega
   obtain ⟨q0,q1,q2,q3,en1⟩:=nb1.out
   obtain ⟨n0,n1,n2,n3⟩:=jf2 en1
   clear hk hV HAj HK yb nb g0 g1 g2 cL hL hg
   go_wp2_with fail
   clear n0 n1 n2 n3 en1
   generalize V1.alloc (.cells #[iv s1,iv s2,iv s3] 87)=U1 at hU1 yu1 nu1 au1 ⊢
   clear yb1 nb1 ly1 ln1
   generalize V1.heap.size=az at hU1 au1 ha1 ha2 ⊢
   refine (HSj1.out _ _ hU1.out).mono ?_
   rintro e V2 ⟨rfl,hV2,hk2⟩
   have yb2:Hid _:=(hk2 _ (.inl (.inl rfl))).trans yu1.out
   obtain ⟨q0,q1,q2,q3,en0⟩:=nu1.out
   have en2:Hid _:=(hk2 _ (.inl (.inr rfl))).trans en0
   have ab2:Hid _:=(hk2 _ (.inr rfl)).trans au1.out
   obtain ⟨x0,x1,x2,x3,x4,x5,x6,x7,x8⟩:=jin yb2.out
   obtain ⟨n0,n1,n2,n3⟩:=jf2 en2.out
   obtain ⟨a0,a1,a2⟩:=jbm ab2.out
   have z0:=ja0 en2.out 0
   have z1:=ja0 en2.out 1
   have z2:=ja0 en2.out 2
   have z3:=ja0 en2.out 3
   have ln2:nz<V2.heap.size:=(blt en2.out)
   have la2:az<V2.heap.size:=(blt ab2.out)
   have lx2:w.heap.size<V2.heap.size:=(blt yb2.out)
   obtain ⟨⟨hs1,hs1'⟩,⟨hs2,hs2'⟩,⟨hs3,hs3'⟩,hs4⟩:=HMj.out
   have w1:IntKind.i64.wrap (s1+s2)=s1+s2:=jag (by omega) (by omega)
   have w2:IntKind.i64.wrap (s1+s2+s3)=s1+s2+s3:=jag (by omega) (by omega)
   have t1:¬ c1<s1+s2+s3:=by omega
   replace hV2:Hid _:=hV2
   clear hk2 HSj1 hU1 yu1 nu1 en0 au1 HMj hs1 hs1' hs2 hs2' hs3 hs3' hs4
   go_wp2_with fail
   have hT:ja9 P w own (fun k=>k=w.heap.size\/k=nz) V2:=by
    obtain ⟨o1,p1,p2,p3,p4⟩:=hV2.out
    exact ⟨o1,p1,p2,fun k e=>(p3 k e).imp id (fun c=>⟨c.1,fun d=>c.2 (.inl d)⟩),fun k e=>p4 k (.inl e)⟩
   refine ⟨⟨j+1,by omega,by simp,jaq K (jaq K (jaq K (jaq K hT HW.out (.inr rfl) _) HW.out (.inr rfl) _) HW.out (.inr rfl) _) HW.out (.inr rfl) _,?_,s1,s2,s3,s4,?_⟩,by simp [intOf];omega⟩
   ·have hz:w.heap.size≠nz:=hnz.symm
    exact (Below.heap_setCell _ (aq nz 3) _ _ hz).trans ((Below.heap_setCell _ (aq nz 2) _ _ hz).trans ((Below.heap_setCell _ (aq nz 1) _ _ hz).trans ((Below.heap_setCell _ (aq nz 0) _ _ hz).trans yb2.out)))
   ·exact Joins.block_setCell (i:=3) (Joins.block_setCell (i:=2) (Joins.block_setCell (i:=1) (Joins.block_setCell (i:=0) en2.out _) _) _) _
  ·have hje:j=n:=by omega
   subst hje
   clear HA HSj HM HX hrow
   go_wp2
   refine bodyPost_ret (v:=.bool true) (by simp [results,Tryz.results14,go_sem]) rfl ⟨rfl,jb7 (ja4 K HK.out bL)⟩
def mvT (o o':Ord):Prop:=o'.cust=o.cust/\o'.units=o.units/\(o'.state=o.state\/((o.state=12\/o.state=13)/\o'.state≠12/\o'.state≠14))
def jck (os os':List Ord):Prop:=os'.length=os.length/\∀ i,i<os.length->mvT (os.getD i ja2) (os'.getD i ja2)
theorem jnr (o:Ord):mvT o o:=⟨rfl,rfl,.inl rfl⟩
theorem jw5 {a b c:Ord} (h:mvT a b) (h':mvT b c):mvT a c:=by
 obtain ⟨h1,h2,h3⟩:=h
 obtain ⟨k1,k2,k3⟩:=h'
 refine ⟨k1.trans h1,k2.trans h2,?_⟩
 rcases h3 with h3|h3<;>rcases k3 with k3|k3
 ·exact .inl (k3.trans h3)
 ·rw [h3] at k3;exact .inr k3
 ·rw [k3];exact .inr h3
 ·exact .inr ⟨h3.1,k3.2⟩
theorem jd8 (os:List Ord):jck os os:=⟨rfl,fun _ _=>jnr _⟩
theorem jcq {a b c:List Ord} (h:jck a b) (h':jck b c):jck a c :=
 ⟨h'.1.trans h.1,fun i hi=>jw5 (h.2 i hi) (h'.2 i (by rw [h.1];exact hi))⟩
theorem jmz {os:List Ord} {i:Nat} (hi:i<os.length) {o:Ord} (h:mvT (os.getD i ja2) o):jck os (os.set i o):=by
 refine ⟨List.length_set,fun k hk=>?_⟩
 rw [jb4 o hi]
 split
 ·next e=>rw [e];exact h
 ·exact jnr _
theorem jl6 {S:Sal} {i:Nat} (hi:i<S.os.length) (hs:(S.os.getD i ja2).state=12\/(S.os.getD i ja2).state=13) {st:Int} (hst:st≠12/\st≠14):jck S.os (S.ends i st).os :=
 jmz hi ⟨rfl,rfl,.inr ⟨hs,hst⟩⟩
theorem jfz:∀ (n:Nat) (S:Sal),jck S.os (jam n S).os
 | 0,S=>jd8 _
 | n+1,S=>by
   unfold jam
   split
   ·exact jd8 _
   ·next q qs hq =>
    split
    ·exact jd8 _
    ·obtain ⟨_,hl,hs⟩:=jcc hq ja2 (by decide)
     have h1:jck S.os (S.holds q).os:=jmz hl ⟨rfl,rfl,.inr ⟨.inl hs,by show (13:Int)≠12;decide,by show (13:Int)≠14;decide⟩⟩
     exact jcq h1 (jfz n (S.holds q))
theorem jf1 (S:Sal):jck S.os S.promote.os:=jfz _ S
theorem jmb (S:Sal):jck S.os S.drained.os:=by
 refine ⟨List.length_map ..,fun i hi=>?_⟩
 have e:S.drained.os.getD i ja2=dry S.left S.now (S.os.getD i ja2):=by
  show (S.os.map (dry S.left S.now)).getD i ja2=_
  simp [List.getD,List.getElem?_eq_getElem hi]
 rw [e]
 unfold dry
 split
 ·next h=>exact ⟨rfl,rfl,.inr ⟨.inl h.1,by show (18:Int)≠12;decide,by show (18:Int)≠14;decide⟩⟩
 ·exact jnr _
theorem jjm (S:Sal) {st en:Int} (hst:st=12\/st=13) (hen:en≠12/\en≠14):∀ n,n<=S.os.length->jck S.os (jbq S st en n).os
 | 0,_=>jd8 _
 | n+1,hn=>by
   have ih:=jjm S hst hen n (by omega)
   unfold jbq
   split
   ·next h =>
    have h1:=h.1
    exact jcq ih (jl6 (by rw [jc7];omega) (by omega) hen)
   ·exact ih
theorem jkv (S:Sal) {st en:Int} (hst:st=12\/st=13) (hen:en≠12/\en≠14):jck S.os (S.past st en).os :=
 jcq (jjm S hst hen _ (Nat.le_refl _)) (jf1 _)
theorem joy (S:Sal) (t:Int):jck S.os (S.round t).os :=
 jcq (jkv ({ S with now:=t }:Sal) (.inr rfl) (by decide)) (jkv _ (.inl rfl) (by decide))
theorem jga:∀ (n:Nat) (S:Sal) (to:Int),jck S.os (jdv n S to).os
 | 0,_,_=>jd8 _
 | n+1,S,to=>by
   unfold jdv
   split
   ·exact jd8 _
   ·exact jcq (joy S _) (jga n _ to)
theorem jqx (S:Sal) (n:Int):jck S.os (S.tick n).2.os:=by
 unfold Sal.tick
 split
 ·exact jd8 _
 split
 ·exact jga _ _ _
 ·exact jga _ _ _
theorem jr1 {o o':Ord} {os os':List Ord} (h:jck (o :: os) (o' :: os')):mvT o o'/\jck os os':=by
 obtain ⟨a,b⟩:=h
 refine ⟨b 0 (by simp),by simpa using a,fun i hi=>?_⟩
 have:=b (i+1) (by simpa using hi)
 simpa [List.getD] using this
def jry (os:List Ord) (c:Int):Int:=ja3 os 12 c+ja3 os 13 c+ja3 os 14 c
theorem jq8 (o:Ord) (os:List Ord) (c:Int):jry (o :: os) c=(o.part 12 c+o.part 13 c+o.part 14 c)+jry os c:=by
 have h:∀ st,ja3 (o :: os) st c=o.part st c+ja3 os st c:=fun st=>by
  unfold ja3 Ord.part
  rw [List.map_cons,List.sum_cons]
 unfold jry
 rw [h,h,h]
 omega
theorem jks (o:Ord) (c:Int) (st:Int):o.part st c=if o.state=st/\(c=0\/o.cust=c) then o.units else 0:=by
 unfold Ord.part Ord.is
 simp
theorem jrk:∀ {os os':List Ord} (c:Int),jck os os'->(∀ o∈os,0<=o.units)->jry os' c<=jry os c
 | [],[],_,_,_=>Int.le_refl _
 | [],_ :: _,_,h,_=>by have:=h.1;simp at this
 | _ :: _,[],_,h,_=>by have:=h.1;simp at this
 | o :: os,o' :: os',c,h,hu=>by
   obtain ⟨h1,h2⟩:=jr1 h
   have ih:=jrk c h2 (fun x hx=>hu x (List.mem_cons_of_mem _ hx))
   have h0:=hu o (by simp)
   rw [jq8,jq8]
   simp only [jks]
   obtain ⟨e1,e2,e3⟩:=h1
   rw [e1,e2]
   by_cases hc:c=0\/o.cust=c
   ·simp only [hc,and_true]
    rcases e3 with e3|⟨e3,e4,e5⟩
    ·rw [e3];omega
    ·rw [if_neg e4,if_neg e5]
     rcases e3 with e3|e3
     ·rw [if_pos e3,e3]
      split<;>split<;>omega
     ·rw [e3]
      split<;>split<;>omega
   ·simp only [hc,and_false,if_false]
    omega
theorem jqa {os os':List Ord} (h:jck os os') {i:Nat} (hi:i<os.length):(os'.getD i ja2).state=14↔(os.getD i ja2).state=14:=by
 obtain ⟨_,_,e|⟨e1,e2,e3⟩⟩:=h.2 i hi
 ·rw [e]
 ·constructor
  ·intro c;exact absurd c e3
  ·intro c;omega
theorem jpo {os os':List Ord} (h:jck os os'):∀ k,k<=os.length->(jal os' k).length<=(jal os k).length
 | 0,_=>Nat.le_refl _
 | k+1,hk=>by
   have ih:=jpo h k (by omega)
   obtain ⟨_,_,e⟩:=h.2 k (by omega)
   unfold jal
   by_cases h1:(os'.getD k ja2).state=12
   ·rw [if_pos h1,if_pos (by omega)]
    simp;exact ih
   ·rw [if_neg h1]
    split
    ·simp;omega
    ·exact ih
theorem js1 {os os':List Ord} (h:jck os os'):(ja5 os').length<=(ja5 os).length:=by
 have:=jpo h os.length (Nat.le_refl _)
 unfold ja5
 rw [h.1]
 exact this
def jcf (kl:List Kn) (p:Stp) (r:Rep):List Kn :=
 if p.k=1/\(r.kind=2\/r.kind=3) then (if r.order=kl.length+1 then kl++[⟨p.c,p.u,false⟩] else kl)
 else if r.kind=7 then kl.set (r.order - 1).toNat { kl.getD (r.order - 1).toNat kn0 with paid:=true } else kl
def jfe (kl:List Kn) (p:Stp) (r:Rep):Prop :=
 (p.k=1->(r.kind=2\/r.kind=3)->r.order=kl.length+1\/(1<=r.order/\r.order<=kl.length/\(kl.getD (r.order - 1).toNat kn0).cust=p.c/\(kl.getD (r.order - 1).toNat kn0).units=p.u)) ∧
 (r.kind=7->1<=r.order/\r.order<=kl.length/\(kl.getD (r.order - 1).toNat kn0).cust=p.c)
structure knAt (os:List Ord) (kl:List Kn):Prop where
 len:kl.length=os.length
 at':∀ i,i<os.length->(kl.getD i kn0).cust=(os.getD i ja2).cust/\(kl.getD i kn0).units=(os.getD i ja2).units/\((kl.getD i kn0).paid=true↔(os.getD i ja2).state=14)
def qai (os os':List Ord):Prop:=os.length<=os'.length/\∀ i,i<os.length->(os'.getD i ja2).cust=(os.getD i ja2).cust/\(os'.getD i ja2).units=(os.getD i ja2).units/\((os.getD i ja2).state=14->(os'.getD i ja2).state=14)
theorem jlp {os os':List Ord} (h:jck os os'):qai os os' :=
 ⟨by rw [h.1];exact Nat.le_refl _,fun i hi=>⟨(h.2 i hi).1,(h.2 i hi).2.1,(jqa h hi).2⟩⟩
theorem jur {a b c:List Ord} (h:qai a b) (h':qai b c):qai a c :=
 ⟨Nat.le_trans h.1 h'.1,fun i hi=>by
   obtain ⟨x1,x2,x3⟩:=h.2 i hi
   obtain ⟨y1,y2,y3⟩:=h'.2 i (Nat.lt_of_lt_of_le hi h.1)
   exact ⟨y1.trans x1,y2.trans x2,fun e=>y3 (x3 e)⟩⟩
theorem jjc {os:List Ord} {o:Ord} {i:Nat}:(os++[o]).getD i ja2=if i<os.length then os.getD i ja2 else if i=os.length then o else ja2:=by
 simp only [List.getD,List.getElem?_append]
 split
 ·rfl
 ·next h =>
  split
  ·next e=>simp [e]
  ·next e =>
   have:1<=i - os.length:=by omega
   simp [List.getElem?_eq_none,this]
theorem juz (os:List Ord) (o:Ord):qai os (os++[o]) :=
 ⟨by simp,fun i hi=>by rw [jjc,if_pos hi];exact ⟨rfl,rfl,id⟩⟩
def qao (os:List Ord) (a:Ans):Prop:=∃ k t c u o:Int,isB k t c u o=true/\a.frame=strOfNums (jak k (jat k t c u o)) ∧
 (k=1->(a.rep.kind=2\/a.rep.kind=3)->1<=a.rep.order/\a.rep.order<=os.length/\(os.getD (a.rep.order - 1).toNat ja2).cust=c/\(os.getD (a.rep.order - 1).toNat ja2).units=u) ∧
 (a.rep.kind=7->1<=a.rep.order/\a.rep.order<=os.length/\(os.getD (a.rep.order - 1).toNat ja2).cust=c/\(os.getD (a.rep.order - 1).toNat ja2).state=14)
theorem jny {os os':List Ord} (h:qai os os') {a:Ans} (ha:qao os a):qao os' a:=by
 obtain ⟨k,t,c,u,o,h1,h2,h3,h4⟩:=ha
 have hl:=h.1
 refine ⟨k,t,c,u,o,h1,h2,fun hk hr=>?_,fun hr=>?_⟩
 ·obtain ⟨a1,a2,a3,a4⟩:=h3 hk hr
  obtain ⟨e1,e2,_⟩:=h.2 (a.rep.order - 1).toNat (by omega)
  exact ⟨a1,by omega,e1.trans a3,e2.trans a4⟩
 ·obtain ⟨a1,a2,a3,a4⟩:=h4 hr
  obtain ⟨e1,_,e3⟩:=h.2 (a.rep.order - 1).toNat (by omega)
  exact ⟨a1,by omega,e1.trans a3,e3 a4⟩
theorem jqc {os os':List Ord} {kl:List Kn} (h:knAt os kl) (ht:jck os os'):knAt os' kl :=
 ⟨h.len.trans ht.1.symm,fun i hi=>by
   have hi':i<os.length:=by rw [← ht.1];exact hi
   obtain ⟨a,b,c⟩:=h.at' i hi'
   obtain ⟨d,e,_⟩:=ht.2 i hi'
   exact ⟨a.trans d.symm,b.trans e.symm,c.trans (jqa ht hi').symm⟩⟩
theorem jyw {kl:List Kn} {o:Kn} {i:Nat} (hi:i<=kl.length):(kl++[o]).getD i kn0=if i<kl.length then kl.getD i kn0 else o:=by
 simp only [List.getD,List.getElem?_append]
 split
 ·rfl
 ·next h =>
  have:i - kl.length=0:=by omega
  simp [this]
theorem jvc {os:List Ord} {kl:List Kn} (h:knAt os kl) {o:Ord} {c u:Int} (hc:o.cust=c) (hu:o.units=u) (hs:o.state≠14):knAt (os++[o]) (kl++[⟨c,u,false⟩]):=by
 refine ⟨by simp [h.len],fun i hi=>?_⟩
 have hi':i<=os.length:=by simp at hi;omega
 rw [jjc,jyw (by rw [h.len];exact hi'),h.len]
 by_cases e:i<os.length
 ·rw [if_pos e,if_pos e];exact h.at' i e
 ·rw [if_neg e,if_neg e,if_pos (by omega)]
  exact ⟨hc.symm,hu.symm,by simp [hs]⟩
theorem qbf {kl:List Kn} {i k:Nat} (o:Kn) (h:i<kl.length):(kl.set i o).getD k kn0=if k=i then o else kl.getD k kn0:=by
 simp only [List.getD,List.getElem?_set]
 by_cases e:i=k
 ·subst e;simp [h]
 ·rw [if_neg (fun c:k=i=>e c.symm)];simp [e]
theorem jvp {os:List Ord} {kl:List Kn} (h:knAt os kl) {i:Nat} (hi:i<os.length) {o:Ord} (hc:o.cust=(os.getD i ja2).cust) (hu:o.units=(os.getD i ja2).units) (hs:o.state=14):knAt (os.set i o) (kl.set i { kl.getD i kn0 with paid:=true }):=by
 refine ⟨by simp [h.len],fun k hk=>?_⟩
 have hk':k<os.length:=by simpa using hk
 rw [jb4 o hi,qbf _ (by rw [h.len];exact hi)]
 by_cases e:k=i
 ·rw [if_pos e,if_pos e]
  obtain ⟨a,b,_⟩:=h.at' i hi
  exact ⟨a.trans hc.symm,b.trans hu.symm,by simp [hs]⟩
 ·rw [if_neg e,if_neg e];exact h.at' k hk'
structure kInv (S:Sal) (kl:List Kn):Prop where
 kn:knAt S.os kl
 an:∀ a∈S.ansL,qao S.os a
 cap:∀ c,c≠0->jry S.os c<=S.C.cap
 queue:((ja5 S.os).length:Int)<=S.C.queue
 tokens:(S.answers:Int)<=S.C.tokens
 cu:∀ i,i<S.os.length->jby (S.os.getD i ja2).cust=true
theorem jgm {kl:List Kn} {p:Stp} {r:Rep} (h1:¬ (p.k=1/\(r.kind=2\/r.kind=3))) (h7:r.kind≠7):jcf kl p r=kl/\jfe kl p r :=
 ⟨by unfold jcf;rw [if_neg h1,if_neg h7],fun a b=>absurd ⟨a,b⟩ h1,fun a=>absurd a h7⟩
theorem jr0 {S:Sal} {kl:List Kn} (h:kInv S kl) {p:Stp} (hok:p.ok=true) {a:Ans} (ha:a∈S.ansL) (hf:a.frame=strOfNums p.bytes):jcf kl p a.rep=kl/\jfe kl p a.rep:=by
 obtain ⟨k,t,c,u,o,h1,h2,h3,h4⟩:=h.an a ha
 have hbytes:p.bytes=jak p.k (jat p.k (jdr p.k p.t) p.c (jdl p.k p.u) (jdc p.k p.o)):=by unfold Stp.bytes;rw [Stp.nums hok]
 rw [h2,hbytes] at hf
 obtain ⟨e1,_,e3,e4,_⟩:=ji6 h1 hok (jqw (jec h1) (jec hok) hf)
 have hlen:=h.kn.len
 by_cases hk:p.k=1/\(a.rep.kind=2\/a.rep.kind=3)
 ·obtain ⟨a1,a2,a3,a4⟩:=h3 (by omega) hk.2
  obtain ⟨b1,b2,_⟩:=h.kn.at' (a.rep.order - 1).toNat (by omega)
  have hu:jdl p.k p.u=p.u:=if_pos hk.1
  refine ⟨by unfold jcf;rw [if_pos hk,if_neg (by omega)],fun _ _=>.inr ⟨a1,by omega,by rw [b1,a3];exact e3,by rw [b2,a4,e4];exact hu⟩,fun c=>by omega⟩
 ·by_cases h7:a.rep.kind=7
  ·obtain ⟨a1,a2,a3,a4⟩:=h4 h7
   obtain ⟨b1,_,b3⟩:=h.kn.at' (a.rep.order - 1).toNat (by omega)
   have hp:=b3.2 a4
   refine ⟨?_,fun x y=>absurd ⟨x,y⟩ hk,fun _=>⟨a1,by omega,by rw [b1,a3];exact e3⟩⟩
   unfold jcf
   rw [if_neg hk,if_pos h7]
   have hi:(a.rep.order - 1).toNat<kl.length:=by omega
   have he:{ kl.getD (a.rep.order - 1).toNat kn0 with paid:=true }=kl[(a.rep.order - 1).toNat]:=by
    have hg:∀ m (hm:m<kl.length),kl.getD m kn0=kl[m]:=fun m hm=>by simp [List.getD,List.getElem?_eq_getElem hm]
    rw [hg _ hi] at hp ⊢
    cases hq:kl[(a.rep.order - 1).toNat] with
    | mk x y z=>rw [hq] at hp;simp only at hp;rw [hp]
   rw [he,List.set_getElem_self]
  ·exact jgm hk h7
theorem jhf (os:List Ord) (o:Ord) (st c:Int):ja3 (os++[o]) st c=ja3 os st c+o.part st c:=by
 unfold ja3 Ord.part
 rw [List.map_append,List.sum_append]
 simp
theorem jv0 (os:List Ord) (o:Ord) (c:Int):jry (os++[o]) c=jry os c+(o.part 12 c+o.part 13 c+o.part 14 c):=by
 unfold jry
 rw [jhf,jhf,jhf]
 omega
theorem jli (os:List Ord) (o:Ord):∀ k,k<=os.length->jal (os++[o]) k=jal os k
 | 0,_=>rfl
 | k+1,hk=>by
   have e:(os++[o]).getD k ja2=os.getD k ja2:=by rw [jjc,if_pos (show k<os.length by omega)]
   unfold jal
   rw [jli os o k (by omega),e]
theorem jrc (os:List Ord) (o:Ord):(ja5 (os++[o])).length=(ja5 os).length+if o.state=12 then 1 else 0:=by
 unfold ja5
 rw [List.length_append,List.length_singleton,jal,jli os o _ (Nat.le_refl _),show (os++[o]).getD os.length ja2=o by rw [jjc,if_neg (Nat.lt_irrefl _),if_pos rfl]]
 split<;>simp
theorem jpq {S S':Sal} {kl:List Kn} (h:kInv S kl) (hu:∀ o∈S.os,0<=o.units) (ht:jck S.os S'.os) (hC:S'.C=S.C) (hA:S'.ansL=S.ansL) (hn:(S'.answers:Int)<=S.answers):kInv S' kl :=
 ⟨jqc h.kn ht,by rw [hA];exact fun a ha=>jny (jlp ht) (h.an a ha),fun c hc=>by rw [hC];exact Int.le_trans (jrk c ht hu) (h.cap c hc),by rw [hC];have:=js1 ht;have:=h.queue;omega,by rw [hC];have:=h.tokens;omega,fun i hi=>by rw [(ht.2 i (by rw [← ht.1];exact hi)).1];exact h.cu i (by rw [← ht.1];exact hi)⟩
theorem jk1 {S S':Sal} (hC:S'.C=S.C) (hA:S'.ansL=S.ansL) (hn:S.now<=S'.now):S'.answers<=S.answers:=by
 unfold Sal.answers
 rw [hA,← List.countP_eq_length_filter,← List.countP_eq_length_filter]
 refine List.countP_mono_left (fun a _ ha=>?_)
 unfold Sal.remem at ha ⊢
 rw [hC] at ha
 simp only [decide_eq_true_eq] at ha ⊢
 omega
theorem jxy {S S':Sal} {kl:List Kn} {a:Ans} (h:kInv S' kl) (hC:S'.C=S.C) (hN:S'.now=S.now) (hA:S'.ansL=S.ansL) (ht:(S.answers:Int)<S.C.tokens) (ha:qao S'.os a):kInv { S' with ansL:=S'.ansL++[a] } kl :=
 ⟨h.kn,fun x hx=>by
   rcases List.mem_append.1 (show x∈S'.ansL++[a] from hx) with hx|hx
   ·exact h.an x hx
   ·rw [List.mem_singleton.1 hx];exact ha,h.cap,h.queue,by
   have e:({ S' with ansL:=S'.ansL++[a] }:Sal).remem=S.remem:=by
    funext x
    show decide (S'.now - x.at'<S'.C.keep)=decide (S.now - x.at'<S.C.keep)
    rw [hN,hC]
   show ((((S'.ansL++[a]).filter ({ S' with ansL:=S'.ansL++[a] }:Sal).remem).length:Nat):Int)<=S'.C.tokens
   rw [e,hA,hC,List.filter_append,List.length_append]
   have h1:([a].filter S.remem).length<=1:=List.length_filter_le ..
   have h2:(S.answers:Int)=((S.ansL.filter S.remem).length:Nat):=rfl
   omega,h.cu⟩
theorem jvg {S:Sal} {kl:List Kn} (h:kInv S kl) (hu:∀ o∈S.os,0<=o.units) {p:Stp} (hok:p.ok=true) :
 kInv (S.doS p.req).2 (jcf kl p (S.doS p.req).1)/\jfe kl p (S.doS p.req).1/\qao (S.doS p.req).2.os ⟨strOfNums p.bytes,p.req.token,(S.doS p.req).1,S.now⟩:=by
 have hok':isB p.k (jdr p.k p.t) p.c (jdl p.k p.u) (jdc p.k p.o)=true:=hok
 have hk:=jkb hok'
 have hpart:=jg3 hok'
 have hbytes:p.bytes=jak p.k (jat p.k (jdr p.k p.t) p.c (jdl p.k p.u) (jdc p.k p.o)):=by unfold Stp.bytes;rw [Stp.nums hok]
 have plain:∀ (r:Rep) (S':Sal),kInv S' kl->¬ (p.k=1/\(r.kind=2\/r.kind=3))->r.kind≠7->kInv S' (jcf kl p r)/\jfe kl p r/\qao S'.os ⟨strOfNums p.bytes,p.req.token,r,S.now⟩:=fun r S' hS h1 h7=>by
  obtain ⟨e1,e2⟩:=jgm (kl:=kl) h1 h7
  rw [e1]
  exact ⟨hS,e2,p.k,_,p.c,_,_,hok',by rw [hbytes],fun a b=>absurd ⟨a,b⟩ h1,fun a=>absurd a h7⟩
 have hans:∀ {S':Sal},S'.C=S.C->S'.now=S.now->S'.ansL=S.ansL->(S'.answers:Int)<=S.answers:=fun a b c=>by have:=jk1 (S:=S) a c (by rw [b];exact Int.le_refl _);omega
 have hlen:=h.kn.len
 obtain ⟨sC,sN,sA⟩:=jfq S p.req
 have hA:=hans sC sN sA
 revert sC sN sA hA
 unfold Sal.doS
 split
 ·next hk1 =>
  have hk1':p.k=1:=hk1
  have hU:p.req.units=p.u:=if_pos hk1'
  have hcn:jby p.c=true:=by
   unfold isB at hok'
   rw [if_pos hk1'] at hok'
   simp only [Bool.and_eq_true] at hok'
   exact hok'.1.1.2
  unfold Sal.ask
  split
  ·intro _ _ _ _;exact plain _ _ h (by simp) (by simp)
  ·next hcap =>
   split
   ·intro _ _ _ _;exact plain _ _ h (by simp) (by simp)
   split
   ·intro _ _ _ _;exact plain _ _ h (by simp) (by simp)
   have new:∀ (o:Ord) (S':Sal) (k:Int) (x y:Int),(k=2\/k=3)->S'.os=S.os++[o]->o.cust=p.c->o.units=p.u->(o.state=13\/(o.state=12/\((ja5 S.os).length:Int)≠S.C.queue))->S'.C=S.C->S'.ansL=S.ansL->(S'.answers:Int)<=S.answers->kInv S' (jcf kl p ⟨k,S.os.length+1,x,y⟩)/\jfe kl p ⟨k,S.os.length+1,x,y⟩/\qao S'.os ⟨strOfNums p.bytes,p.req.token,⟨k,S.os.length+1,x,y⟩,S.now⟩:=fun o S' k x y hkk ho hc hu' hst eC eA eN=>by
    have e1:jcf kl p ⟨k,S.os.length+1,x,y⟩=kl++[⟨p.c,p.u,false⟩]:=by
     unfold jcf
     rw [if_pos ⟨hk1',hkk⟩,if_pos (by show (S.os.length:Int)+1=kl.length+1;omega)]
    rw [e1]
    have hext:qai S.os S'.os:=by rw [ho];exact juz _ _
    refine ⟨⟨by rw [ho];exact jvc h.kn hc hu' (by omega),fun a ha=>jny hext (h.an a (by rw [← eA];exact ha)),fun c hc'=>?_,?_,by rw [eC];have:=h.tokens;omega,fun i hi=>by
     rw [ho] at hi ⊢
     rw [jjc]
     split
     ·next e=>exact h.cu i e
     ·rw [if_pos (by simp at hi;omega),hc];exact hcn⟩,⟨fun _ _=>.inl (by show (S.os.length:Int)+1=kl.length+1;omega),fun c=>by have c':k=7:=c;omega⟩,p.k,_,p.c,_,_,hok',by rw [hbytes],fun _ _=>?_,fun c=>by have c':k=7:=c;omega⟩
    ·rw [ho,eC,jv0,jks,jks,jks,hc,hu']
     have hcc:=h.cap c hc'
     by_cases e:p.c=c
     ·subst e
      have hcap':¬ S.C.cap<ja3 S.os 13 p.c+ja3 S.os 14 p.c+ja3 S.os 12 p.c+p.req.units:=hcap
      rw [hU] at hcap'
      have hd:jry S.os p.c=ja3 S.os 12 p.c+ja3 S.os 13 p.c+ja3 S.os 14 p.c:=rfl
      rcases hst with e|⟨e,_⟩<;>rw [e]<;>simp<;>omega
     ·simp [e,hc'];exact hcc
    ·rw [ho,eC,jrc]
     have:=h.queue
     rcases hst with e|⟨e,e'⟩
     ·rw [if_neg (by omega)];omega
     ·rw [if_pos e];omega
    ·have e2:((S.os.length:Int)+1 - 1).toNat=S.os.length:=by omega
     have e3:S'.os.getD S.os.length ja2=o:=by rw [ho,jjc,if_neg (Nat.lt_irrefl _),if_pos rfl]
     show 1<=(S.os.length:Int)+1/\(S.os.length:Int)+1<=S'.os.length/\(S'.os.getD ((S.os.length:Int)+1 - 1).toNat ja2).cust=p.c/\(S'.os.getD ((S.os.length:Int)+1 - 1).toNat ja2).units=jdl p.k p.u
     rw [e2,e3]
     exact ⟨by omega,by rw [ho];simp,hc,hu'.trans hU.symm⟩
   split
   ·intro sC _ sA hA
    obtain ⟨e1,_⟩:=jdu S p.req.cust p.req.units
    exact new _ _ 2 _ _ (.inl rfl) (by rw [e1];rfl) rfl hU (.inl rfl) sC sA hA
   split
   ·intro _ _ _ _;exact plain _ _ h (by simp) (by simp)
   ·next hq =>
    intro sC _ sA hA
    exact new _ _ 3 _ _ (.inr rfl) rfl rfl hU (.inr ⟨rfl,hq⟩) sC sA hA
 ·next hk1 =>
  have hk1':p.k≠1:=hk1
  have hO:p.req.order=p.o:=if_neg hk1'
  have ho1:1<=p.req.order:=by
   rcases hpart with c|c
   ·omega
   ·exact c.2.1
  split
  ·unfold Sal.confirm
   split
   ·intro _ _ _ _;exact plain _ _ h (by simp) (by simp)
   ·next i hf =>
    obtain ⟨hi,hcu,hio⟩:=jbw ho1 hf
    split
    ·intro _ _ _ _;exact plain _ _ h (by simp) (by simp)
    ·next hs =>
     have hs':(S.os.getD i ja2).state=13:=Classical.not_not.1 hs
     rw [jc6]
     intro sC _ sA hA
     have hii:(p.req.order - 1).toNat=i:=by omega
     have ht:jck (S.ends i 14).os (S.ends i 14).drained.promote.os:=jcq (jmb _) (jf1 _)
     have hkn:=jvp h.kn hi (o:={ S.os.getD i ja2 with state:=14,ended:=S.now }) rfl rfl rfl
     have hext:qai S.os (S.ends i 14).os:=⟨by show _<=(S.os.set i _).length;rw [List.length_set];exact Nat.le_refl _,fun j hj=>by
      show ((S.os.set i _).getD j ja2).cust=_/\((S.os.set i _).getD j ja2).units=_/\(_->((S.os.set i _).getD j ja2).state=14)
      rw [jb4 _ hi]
      split
      ·next e=>rw [e];exact ⟨rfl,rfl,fun _=>rfl⟩
      ·exact ⟨rfl,rfl,id⟩⟩
     have hext2:=jur hext (jlp ht)
     have e1:∀ x,jcf kl p ⟨7,p.req.order,x,0⟩=kl.set i { kl.getD i kn0 with paid:=true }:=fun x=>by
      unfold jcf
      rw [if_neg (fun c=>hk1' c.1),if_pos rfl,hii]
     have hu':∀ o∈(S.ends i 14).os,0<=o.units:=fun o ho=>by
      rcases jei (show o∈S.os.set i _ from ho) with rfl|ho
      ·exact (show 0<=(S.os.getD i ja2).units from hu _ (jb2 hi))
      ·exact hu o ho
     have hg:(S.ends i 14).os.getD i ja2={ S.os.getD i ja2 with state:=14,ended:=S.now }:=by
      show (S.os.set i _).getD i ja2=_
      rw [jb4 _ hi,if_pos rfl]
     have hL:(S.ends i 14).os.length=S.os.length:=List.length_set
     refine ⟨?_,⟨fun a=>absurd a hk1',fun _=>⟨ho1,by show p.req.order<=kl.length;omega,by show (kl.getD (p.req.order - 1).toNat kn0).cust=p.c;rw [hii,(h.kn.at' i hi).1];exact hcu⟩⟩,p.k,_,p.c,_,_,hok',by rw [hbytes],fun a=>absurd a hk1',fun _=>?_⟩
     ·rw [e1]
      refine ⟨jqc hkn ht,fun a ha=>jny hext2 (h.an a (by rw [← sA];exact ha)),fun c hc=>?_,?_,by rw [sC];have:=h.tokens;omega,fun j hj=>by
       have hj':j<S.os.length:=by rw [← hL,← ht.1];exact hj
       rw [(hext2.2 j hj').1];exact h.cu j hj'⟩
      ·rw [sC]
       refine Int.le_trans (jrk c ht hu') (Int.le_trans ?_ (h.cap c hc))
       show jry (S.os.set i _) c<=_
       unfold jry
       rw [jc5 hi,jc5 hi,jc5 hi]
       simp only [jks]
       rw [hs']
       simp
       split<;>omega
      ·rw [sC]
       have h1:=js1 ht
       have h2:=h.queue
       have h3:(ja5 (S.ends i 14).os).length<=(ja5 S.os).length:=by
          show (ja5 (S.os.set i _)).length<=_
          rw [jhu _ hi (by show (14:Int)≠12;decide)]
          exact List.length_filter_le ..
       show ((ja5 (S.ends i 14).drained.promote.os).length:Int)<=S.C.queue
       omega
     ·obtain ⟨x1,_,x3⟩:=(jlp ht).2 i (by rw [hL];exact hi)
      show 1<=p.req.order/\p.req.order<=_/\((S.ends i 14).drained.promote.os.getD (p.req.order - 1).toNat ja2).cust=p.c/\((S.ends i 14).drained.promote.os.getD (p.req.order - 1).toNat ja2).state=14
      rw [hii]
      refine ⟨ho1,by rw [ht.1,hL];omega,?_,x3 (by rw [hg])⟩
      rw [x1,hg]
      exact hcu
  ·unfold Sal.cancel
   split
   ·intro _ _ _ _;exact plain _ _ h (by simp) (by simp)
   ·next i hf =>
    obtain ⟨hi,_,_⟩:=jbw ho1 hf
    split
    ·intro _ _ _ _;exact plain _ _ h (by simp) (by simp)
    ·next hs =>
     intro sC _ sA hA
     exact plain _ _ (jpq h hu (jcq (jl6 hi (by omega) (by decide)) (jf1 _)) sC sA hA) (by simp) (by simp)
theorem jt0 {S:Sal} {kl:List Kn} (h:kInv S kl) (h0:0<=S.now/\S.now<=4611686018427387904) (hu:∀ o∈S.os,jjl o) (p:Stp) :
 kInv (S.does p).2 (jcf kl p (S.does p).1)/\jfe kl p (S.does p).1:=by
 have hu':∀ o∈S.os,0<=o.units:=fun o ho=>by have:=(hu o ho).1;omega
 have same:∀ (r:Rep),¬ (p.k=1/\(r.kind=2\/r.kind=3))->r.kind≠7->kInv S (jcf kl p r)/\jfe kl p r:=fun r h1 h7=>by
  obtain ⟨e1,e2⟩:=jgm (kl:=kl) h1 h7
  rw [e1]
  exact ⟨h,e2⟩
 unfold Sal.does
 split
 ·split
  ·obtain ⟨a,b,_⟩:=ji8 S p.n
   obtain ⟨e1,e2⟩:=jgm (kl:=kl) (p:=p) (r:=jse) (by simp [jse]) (by simp [jse])
   rw [e1]
   refine ⟨jpq h hu' (jqx S p.n) a b ?_,e2⟩
   have:=jk1 (S:=S) a b (by
    unfold Sal.tick
    split
    ·exact Int.le_refl _
    split
    ·show S.now<=(jdv _ _ _).now
     rw [jkd];omega
    ·show S.now<=(jdv _ _ _).now
     rw [jkd];omega)
   show ((S.tick p.n).2.answers:Int)<=S.answers
   omega
  ·unfold Sal.sendK
   split
   ·next hok =>
    have hk:=jkb (show isB p.k (jdr p.k p.t) p.c (jdl p.k p.u) (jdc p.k p.o)=true from hok)
    unfold Sal.send
    rw [if_neg (fun c=>c rfl)]
    split
    ·next h4 =>
     have h4':p.k=4:=h4
     refine same _ (by omega) ?_
     unfold Sal.poll
     split
     ·simp
     ·next i hf =>
      have ho1:1<=p.req.order:=by
       rcases jg3 (show isB p.k (jdr p.k p.t) p.c (jdl p.k p.u) (jdc p.k p.o)=true from hok) with c|c
       ·omega
       ·exact c.2.1
      obtain ⟨hi,_,_⟩:=jbw ho1 hf
      have hst:=(hu _ (jb2 hi)).2.1
      split
      ·simp
      split
      ·simp
      split
      ·simp
      split
      ·simp
      ·intro c
       have c':(S.os.getD i ja2).state=7:=c
       omega
    ·split
     ·next a ha =>
      obtain ⟨m1,_,_⟩:=jsj ha
      split
      ·next hf =>
       obtain ⟨e1,e2⟩:=jr0 h hok m1 hf
       show kInv S (jcf kl p a.rep)/\_
       rw [e1]
       exact ⟨h,e2⟩
      ·exact same _ (by simp) (by simp)
     ·split
      ·exact same _ (by simp) (by simp)
      ·next hfull =>
       obtain ⟨a,b,c⟩:=jvg h hu' hok
       obtain ⟨d,e,f⟩:=jfq S p.req
       have:=h.tokens
       exact ⟨jxy (S:=S) a d e f (by omega) c,b⟩
   ·exact same _ (by simp) (by simp)
 ·exact same jse (by simp [jse]) (by simp [jse])
def jut (os:List Ord) (c:Int):Nat->Int
 | 0=>0
 | k+1=>jut os c k+if (os.getD k ja2).is 12 c then 1 else 0
theorem jp5 (os:List Ord):∀ k,jut os 0 k=(jal os k).length
 | 0=>rfl
 | k+1=>by
   rw [jut,jal,jp5 os k]
   unfold Ord.is
   generalize os.getD k ja2=o
   by_cases h:o.state=12
   ·simp [h]
   ·simp [h]
theorem jkq (os:List Ord) (c:Int):∀ k,0<=jut os c k/\jut os c k<=k
 | 0=>⟨Int.le_refl _,Int.le_refl _⟩
 | k+1=>by
   have:=jkq os c k
   rw [jut]
   split<;>omega
def jlx (os:List Ord) (c:Int):Nat->Int
 | 0=>0
 | k+1=>if (os.getD k ja2).is 12 c then IntKind.i64.wrap (jlx os c k+(os.getD k ja2).units) else jlx os c k
theorem jit {os:List Ord} (h:∀ o∈os,0<=o.units) (st c:Int):∀ k,k<=os.length->0<=ja3 (os.take k) st c/\ja3 (os.take k) st c<=ja3 os st c:=fun k hk=>by
 have hn:∀ l:List Ord,(∀ o∈l,0<=o.units)->0<=ja3 l st c:=fun l hl=>jay st c hl
 have h1:=hn (os.take k) (fun o ho=>h o (List.mem_of_mem_take ho))
 have h2:=hn (os.drop k) (fun o ho=>h o (List.mem_of_mem_drop ho))
 have e:ja3 os st c=ja3 (os.take k) st c+ja3 (os.drop k) st c:=by
  have:ja3 (os.take k++os.drop k) st c=ja3 (os.take k) st c+ja3 (os.drop k) st c:=by
   unfold ja3
   rw [List.map_append,List.sum_append]
  rw [List.take_append_drop] at this
  exact this
 omega
theorem jlo {os:List Ord} (h:∀ o∈os,0<=o.units) {c:Int} (hc:ja3 os 12 c<=4611686018427387904):∀ k,k<=os.length->jlx os c k=ja3 (os.take k) 12 c
 | 0,_=>by simp [jlx,ja3]
 | k+1,hk=>by
   have ih:=jlo h hc k (by omega)
   have e:=jja os 12 c (show k<os.length by omega)
   have hb:=jit h 12 c (k+1) hk
   rw [jlx,ih,e]
   rw [e] at hb
   split
   ·next hi =>
    rw [if_pos hi] at hb
    exact jag (by omega) (by omega)
   ·omega
def jgu (os:List Ord) (c:Int) (j:Nat):Int × Int × Int × Int:=(ja3 (os.take j) 13 c,ja3 (os.take j) 14 c,jlx os c j,jut os c j)
theorem jsp {S:Sal} {kl:List Kn} (h:kInv S kl) (hl:S.os.length<=4294967296) {i:Nat} (hi:i<S.os.length):S.pollK (kl.getD i kn0).cust ((i:Int)+1) =
 (if (S.os.getD i ja2).state=12 then ⟨12,(i:Int)+1,0,(S.os.getD i ja2).upto⟩
 else if (S.os.getD i ja2).state=13 then ⟨13,(i:Int)+1,(S.os.getD i ja2).cents,(S.os.getD i ja2).upto⟩
 else if S.C.keep<=S.now - (S.os.getD i ja2).ended then { jse with kind:=19 }
 else if (S.os.getD i ja2).state=14 then ⟨14,(i:Int)+1,(S.os.getD i ja2).units * (S.os.getD i ja2).cents,0⟩
 else ⟨(S.os.getD i ja2).state,(i:Int)+1,0,0⟩):=by
 have hcu:=h.cu i hi
 rw [← (h.kn.at' i hi).1] at hcu
 have hc:=(h.kn.at' i hi).1
 have hok:Stp.ok ⟨0,4,0,(kl.getD i kn0).cust,0,(i:Int)+1⟩=true:=by
  have hh:∀ cu j:Int,jby cu=true->jby j=true->Stp.ok ⟨0,4,0,cu,0,j⟩=true:=fun cu j h1 h2=>by
   show isB 4 (jdr 4 0) cu (jdl 4 0) (jdc 4 j)=true
   unfold isB jdr jdl jdc
   simp [h1,h2]
  exact hh _ _ hcu (by unfold jby;simp;omega)
 unfold Sal.pollK Sal.does
 rw [if_pos (by show (0:Int)<=4/\(4:Int)<256;omega),if_neg (by show ¬ (4:Int)=0;omega)]
 unfold Sal.sendK
 rw [if_pos hok]
 unfold Sal.send
 rw [if_neg (fun c=>c rfl),if_pos (show (Stp.req _).kind=4 from rfl)]
 unfold Sal.poll
 have hf:jgt S.os (Stp.req ⟨0,4,0,(kl.getD i kn0).cust,0,(i:Int)+1⟩).cust (Stp.req ⟨0,4,0,(kl.getD i kn0).cust,0,(i:Int)+1⟩).order=some i:=by
  show jgt S.os (kl.getD i kn0).cust ((i:Int)+1)=some i
  have e:((i:Int)+1 - 1).toNat=i:=by omega
  unfold jgt
  rw [e,if_pos ⟨by omega,hc.symm⟩]
 rw [hf]
 rfl
theorem jxe {S:Sal} {kl:List Kn} (h:kInv S kl) (hJ:salJ S) (hR:restS S) (hK:∀ o∈S.os,jjl o) (c:Int) {i:Nat} (hi:i<S.os.length) :
 jr2 c S.now (kl.getD i kn0) (S.pollK (kl.getD i kn0).cust ((i:Int)+1)) (jgu S.os c i) (jgu S.os c (i+1)):=by
 have hu:∀ o∈S.os,0<=o.units:=fun o ho=>by have:=(hK o ho).1;omega
 obtain ⟨k1,k2,k3⟩:=h.kn.at' i hi
 have hm:=jb2 hi
 obtain ⟨o1,o2,_⟩:=hK _ hm
 have hub:=(hJ.I.units _ hm).2
 have e13:=jja S.os 13 c hi
 have e14:=jja S.os 14 c hi
 have hst:=hJ.I.stock
 have hcf:=hJ.I.cfg
 have b13:=jit hu 13 c i (by omega)
 have b14:=jit hu 14 c i (by omega)
 have a13:ja3 S.os 13 c<=4294967296:=by
  have:=jgs hu 13 c
  have:=jay 14 0 hu
  omega
 have a14:ja3 S.os 14 c<=4294967296:=by
  have:=jgs hu 14 c
  have:=jay 13 0 hu
  omega
 have hcb:=jkq S.os c i
 have hlen:=hJ.len
 have hp:=jsp h hlen hi
 have ew:jlx S.os c (i+1)=if (S.os.getD i ja2).is 12 c then IntKind.i64.wrap (jlx S.os c i+(S.os.getD i ja2).units) else jlx S.os c i:=rfl
 have ec:jut S.os c (i+1)=jut S.os c i+if (S.os.getD i ja2).is 12 c then 1 else 0:=rfl
 have hfut:=hR.fut _ hm
 rw [hp]
 unfold jr2 jgu
 rw [e13,e14,ew,ec,k1,k2]
 generalize S.os.getD i ja2=o at *
 generalize kl.getD i kn0=k at *
 by_cases hc:c≠0/\o.cust≠c
 ·have n:∀ st,o.is st c=false:=fun st=>by unfold Ord.is;simp [hc.1,hc.2]
  refine .inl ⟨hc.1,hc.2,?_⟩
  simp [n]
 ·have hc':c=0\/o.cust=c:=by omega
  have y:∀ st,o.is st c=decide (o.state=st):=fun st=>by
   unfold Ord.is
   by_cases hs:o.state=st<;>rcases hc' with e|e<;>simp [hs,e]
  refine .inr ⟨hc',⟨⟨by dsimp only;omega,by dsimp only;omega⟩,⟨by dsimp only;omega,by dsimp only;omega⟩,⟨by dsimp only;omega,by dsimp only;omega⟩,by omega,by omega⟩,?_⟩
  simp only [y]
  by_cases h12:o.state=12
  ·have hp0:k.paid=false:=by cases hh:k.paid with|false=>rfl|true=>have:=k3.1 hh;omega
   refine .inr (.inl ⟨hp0,?_,?_,?_⟩)
   ·rw [if_pos h12]
   ·rw [if_pos h12];exact hfut (.inl h12)
   ·simp [h12]
  ·by_cases h13:o.state=13
   ·have hp0:k.paid=false:=by cases hh:k.paid with|false=>rfl|true=>have:=k3.1 hh;omega
    refine .inl ⟨hp0,?_,?_,?_⟩
    ·rw [if_neg h12,if_pos h13]
    ·rw [if_neg h12,if_pos h13];exact hfut (.inr h13)
    ·simp [h13]
   ·rw [if_neg h12,if_neg h13]
    by_cases h14:o.state=14
    ·have hp1:k.paid=true:=k3.2 h14
     by_cases hk:S.C.keep<=S.now - o.ended
     ·refine .inr (.inr (.inr (.inl ⟨hp1,?_,?_,?_,?_⟩)))
      ·rw [if_pos hk];simp
      ·rw [if_pos hk];simp
      ·rw [if_pos hk];simp
      ·simp [h14]
     ·refine .inr (.inr (.inl ⟨hp1,?_,?_⟩))
      ·rw [if_neg hk,if_pos h14]
      ·simp [h14]
    ·have hp0:k.paid=false:=by cases hh:k.paid with|false=>rfl|true=>exact absurd (k3.1 hh) h14
     refine .inr (.inr (.inr (.inr ⟨hp0,?_,?_,?_,?_⟩)))
     ·by_cases hk:S.C.keep<=S.now - o.ended
      ·rw [if_pos hk];simp
      ·rw [if_neg hk,if_neg h14];exact h12
     ·by_cases hk:S.C.keep<=S.now - o.ended
      ·rw [if_pos hk];simp
      ·rw [if_neg hk,if_neg h14];exact h13
     ·by_cases hk:S.C.keep<=S.now - o.ended
      ·rw [if_pos hk];simp
      ·rw [if_neg hk,if_neg h14];exact h14
     ·simp [h12,h13,h14]
theorem jz3 {S:Sal} {kl:List Kn} (h:kInv S kl) (hJ:salJ S) (hK:∀ o∈S.os,jjl o) {c:Int} (hc:c≠0):jgu S.os c S.os.length=(ja3 S.os 13 c,ja3 S.os 14 c,ja3 S.os 12 c,jut S.os c S.os.length):=by
 have hu:∀ o∈S.os,0<=o.units:=fun o ho=>by have:=(hK o ho).1;omega
 have hcap:=h.cap c hc
 have h1:=jay 13 c hu
 have h2:=jay 14 c hu
 have h3:=hJ.cap
 have hd:jry S.os c=ja3 S.os 12 c+ja3 S.os 13 c+ja3 S.os 14 c:=rfl
 unfold jgu
 rw [List.take_length,jlo hu (by omega) _ (Nat.le_refl _),List.take_length]
theorem qa3 (S:Sal):(jgu S.os 0 S.os.length).1=ja3 S.os 13 0/\(jgu S.os 0 S.os.length).2.1=ja3 S.os 14 0/\(jgu S.os 0 S.os.length).2.2.2=(ja5 S.os).length:=by
 unfold jgu
 rw [List.take_length]
 exact ⟨rfl,rfl,jp5 _ _⟩
theorem jkg (L n cap:Nat) (a:Option Addr) (k t c u o r1 r2 r3 r4:Int) (w:World) (hL:L<w.heap.size) (cL:w.cell? (aq L 0)=some (.slice a n cap)) (hn:n<=4294967296) (h7:r1≠7)
 (hc:(¬ (k=1/\(r1=2\/r1=3)))\/(k=1/\(r1=2\/r1=3)/\∃ i g:Nat,r2=(i:Int)+1/\i<n/\a=some (aq g 0)/\g<w.heap.size/\w.cell? (aq g (i * 3))=some (iv c)/\w.cell? (aq g (i * 3+1))=some (iv u))) :
 Calls Tryz.prog 16 #[pt L 0,.agg #[iv k,iv t,iv c,iv u,iv o],.agg #[iv r1,iv r2,iv r3,iv r4]] w fun e w'=>e=.returned (.bool true)/\Below w.heap.size w w':=by
 have e7:(r1==7)=false:=by simpa using h7
 have hB:Hid (Below w.heap.size w ((w.alloc (.cells #[iv k,iv t,iv c,iv u,iv o] 46)).alloc (.cells #[iv r1,iv r2,iv r3,iv r4] 42))):=((Below.refl _ _).alloc (Nat.le_refl _) _).alloc (by simp) _
 go_enter Tryz.func16,Tryz.ntmps16
 rcases hc with hc|⟨hk,hr,i,g,hi,hin,ha,hg,g0,g1⟩
 ·have hcc:(k==1)=false\/((k==1)=true/\(r1==2)=false/\(r1==3)=false):=by
   by_cases e:k=1
   ·exact .inr ⟨by simpa using e,by simp;omega,by simp;omega⟩
   ·exact .inl (by simpa using e)
  rcases hcc with d1|⟨d1,d2,d3⟩
  all_goals
   go_wp2
   refine bodyPost_ret (v:=.bool true) (by simp [results,Tryz.results16,go_sem]) rfl ⟨rfl,bL⟩
 ·subst hk hi ha
  have b0:(0:Int)<=(i:Int):=by omega
  have b1:(i:Int)<(n:Int):=by omega
  have hw1:IntKind.i64.wrap ((n:Int)+1)=(n:Int)+1:=jag (by omega) (by omega)
  have hw2:IntKind.i64.wrap ((i:Int)+1 - 1)=(i:Int):=by rw [Int.add_sub_cancel];exact jag (by omega) (by omega)
  have e1:((i:Int)+1==(n:Int)+1)=false:=by simp;omega
  have e1b:¬ (i:Int)=(n:Int):=by omega
  have e1c:((i:Int)==(n:Int))=false:=by simp;omega
  have e1d:¬ i=n:=by omega
  have e2:(1:Int)<=(i:Int)+1:=by omega
  have e3:(i:Int)+1<=(n:Int):=by omega
  obtain ⟨W0,hW0⟩:∃ W0,W0=(w.alloc (.cells #[iv 1,iv t,iv c,iv u,iv o] 46)).alloc (.cells #[iv r1,iv ((i:Int)+1),iv r3,iv r4] 42):=⟨_,rfl⟩
  have qb:W0.heap[w.heap.size]?=some (.cells #[iv 1,iv t,iv c,iv u,iv o] 46 (0,0)):=by rw [hW0];exact (Below.heap_alloc _ _ _ (by simp)).trans (heap_alloc_new w _)
  have pb:W0.heap[w.heap.size+1]?=some (.cells #[iv r1,iv ((i:Int)+1),iv r3,iv r4] 42 (0,0)):=by rw [hW0];exact jcj w _ _
  obtain ⟨q0,q1,q2,q3,q4⟩:=jhg qb
  obtain ⟨p0,p1,p2,p3⟩:=jf2 pb
  have lq:=(blt qb)
  have lp:=(blt pb)
  rw [← hW0] at hB
  have cL':=(hB.out.cell (p:=(aq L 0)) hL).trans cL
  have g0':=(hB.out.cell (p:=(aq g (i * 3))) hg).trans g0
  have g1':=(hB.out.cell (p:=(aq g (i * 3+1))) hg).trans g1
  have lL:L<W0.heap.size:=Nat.lt_of_lt_of_le hL hB.out.size
  have lg:g<W0.heap.size:=Nat.lt_of_lt_of_le hg hB.out.size
  clear g0 g1 cL qb pb
  replace hW0:Hid _:=hW0
  rcases hr with rfl|rfl
  all_goals
   go_wp2_with fail
   rw [← hW0.out]
   clear hW0
   go_quiet (fail)
   try go_wp2_with fail
   try go_quiet (fail)
   try go_wp2
   refine bodyPost_ret (v:=.bool true) (by simp [results,Tryz.results16,go_sem]) rfl ⟨rfl,bL⟩
theorem juk (L n cap g i:Nat) (cur:Array Value) (k t c u o r3 r4:Int) (pd:Value) (w:World) (hL:L<w.heap.size) (cL:w.cell? (aq L 0)=some (.slice (some (aq g 0)) n cap)) (hn:n<=4294967296) (hin:i<n)
 (hg:w.heap[g]?=some (.cells cur 85 (0,0))) (g0:w.cell? (aq g (i * 3))=some (iv c)) (g2:w.cell? (aq g (i * 3+2))=some pd) :
 Calls Tryz.prog 16 #[pt L 0,.agg #[iv k,iv t,iv c,iv u,iv o],.agg #[iv 7,iv ((i:Int)+1),iv r3,iv r4]] w fun e w'=>e=.returned (.bool true)/\w'.heap[g]?=some (.cells (cur.setIfInBounds (i * 3+2) (.bool true)) 85 (0,0))/\Same (fun b=>b=g) w w':=by
 have lg0:g<w.heap.size:=(blt hg)
 obtain ⟨W0,hW0⟩:∃ W0,W0=(w.alloc (.cells #[iv k,iv t,iv c,iv u,iv o] 46)).alloc (.cells #[iv 7,iv ((i:Int)+1),iv r3,iv r4] 42):=⟨_,rfl⟩
 have hB:Hid (Below w.heap.size w W0):=by rw [hW0];exact ((Below.refl _ _).alloc (Nat.le_refl _) _).alloc (by simp) _
 have qb:W0.heap[w.heap.size]?=some (.cells #[iv k,iv t,iv c,iv u,iv o] 46 (0,0)):=by rw [hW0];exact (Below.heap_alloc _ _ _ (by simp)).trans (heap_alloc_new w _)
 have pb:W0.heap[w.heap.size+1]?=some (.cells #[iv 7,iv ((i:Int)+1),iv r3,iv r4] 42 (0,0)):=by rw [hW0];exact jcj w _ _
 obtain ⟨q0,q1,q2,q3,q4⟩:=jhg qb
 obtain ⟨p0,p1,p2,p3⟩:=jf2 pb
 have lq:=(blt qb)
 have lp:=(blt pb)
 have cL':=(hB.out.cell (p:=(aq L 0)) hL).trans cL
 have g0':=(hB.out.cell (p:=(aq g (i * 3))) lg0).trans g0
 have g2':=(hB.out.cell (p:=(aq g (i * 3+2))) lg0).trans g2
 have lL:L<W0.heap.size:=Nat.lt_of_lt_of_le hL hB.out.size
 have lg:g<W0.heap.size:=Nat.lt_of_lt_of_le lg0 hB.out.size
 have hgW:W0.heap[g]?=some (.cells cur 85 (0,0)):=(hB.out.block g lg0).trans hg
 have fz:=ja0 hgW (i * 3+2)
 have HE:Hid (∀ N,((W0.drewN N).setCell (aq g (i * 3+2)) (.bool true)).heap[g]?=some (.cells (cur.setIfInBounds (i * 3+2) (.bool true)) 85 (0,0))/\Same (fun b=>b=g) w ((W0.drewN N).setCell (aq g (i * 3+2)) (.bool true))):=fun N=>⟨Joins.block_setCell (w:=W0.drewN N) (i:=i * 3+2) hgW _,by
  have h1:Same (fun b=>b=g) w (W0.drewN N):=Same.of_below (jae hB.out)
  have hz:(W0.drewN N).heap.size=((W0.drewN N).setCell (aq g (i * 3+2)) (.bool true)).heap.size:=by simp [World.setCell]
  exact ⟨h1.os,h1.tape,h1.output,by rw [← hz];exact h1.size,fun b hb hn=>(Below.heap_setCell _ (aq g (i * 3+2)) _ _ hn).trans (h1.block b hb hn)⟩⟩
 have b0:(0:Int)<=(i:Int):=by omega
 have b1:(i:Int)<(n:Int):=by omega
 have hw2:IntKind.i64.wrap ((i:Int)+1 - 1)=(i:Int):=by rw [Int.add_sub_cancel];exact jag (by omega) (by omega)
 have e2:¬ (i:Int)+1<1:=by omega
 have e2d:decide ((i:Int)+1<1)=false:=by simp;omega
 have e3:¬ (n:Int)<(i:Int)+1:=by omega
 have e3d:decide ((n:Int)<(i:Int)+1)=false:=by simp;omega
 have hkc:(k==1)=true\/(k==1)=false:=by cases (k==1)<;>simp
 clear g0 g2 cL qb pb hg hgW
 replace hW0:Hid _:=hW0
 go_enter Tryz.func16,Tryz.ntmps16
 rcases hkc with d1|d1
 all_goals
  go_wp2_with fail
  rw [← hW0.out]
  clear hW0
  go_quiet (fail)
  go_wp2_with fail
  go_region
  go_wp2
  refine bodyPost_ret (v:=.bool true) (by simp [results,Tryz.results16,go_sem]) rfl ⟨rfl,?_⟩
  exact HE.out _
theorem Tryz.infoKnown:(Tryz.prog.info? 85).map (fun i=>(i.zero,i.size,i.bytes))=some (some (.agg #[iv 0,iv 0,.bool false]),3,24):=by kernel_rfl
def jv8 (w w':World) (L n:Nat) (v:Value) (E X:List Value):Prop :=
 ∃ g cap,w'.heap[L]?=some (.cells #[.slice (some (aq g 0)) (n+1) cap] 39 (0,0))/\w'.ownsRow 0 85 3 (.slice (some (aq g 0)) (n+1) cap) (n+1) (E++X)/\Same (fun b=>b=L\/v.ownBlock=some b) w w'/\(v.ownBlock=some g\/w.heap.size<=g)
theorem qcg {w w1 w3:World} {L n g cap:Nat} {v:Value} {E X:List Value} {O:Obj} (hB:Below w.heap.size w w1) (hL:L<w.heap.size) (hR1:w1.heap[L]?=some (.cells #[v] 39 (0,0))) (hv:v.ownBlock≠some L)
 (hown:w3.ownsRow 0 85 3 (.slice (some (aq g 0)) (n+1) cap) (n+1) (E++X)) (hg:(w1.alloc O).grownBy w3 v.ownBlock) (hat:v.ownBlock=some g\/g=w1.heap.size+1) :
 jv8 w (w3.setCell (aq L 0) (.slice (some (aq g 0)) (n+1) cap)) L n v E X:=by
 have hz:=hB.size
 have k1:∀ k,k<w1.heap.size->v.ownBlock≠some k->w3.heap[k]?=w1.heap[k]?:=fun k hk hn=>(hg.block k (by simp;omega) (fun e=>hn e.symm)).trans (Below.heap_alloc w1 O k hk)
 have z3:w1.heap.size+1<=w3.heap.size:=by have:=hg.size;simpa using this
 have hR3:w3.heap[L]?=some (.cells #[v] 39 (0,0)):=(k1 L (by omega) hv).trans hR1
 have ks:∀ k,k≠L->(w3.setCell (aq L 0) (.slice (some (aq g 0)) (n+1) cap)).heap[k]?=w3.heap[k]?:=fun k hk=>Below.heap_setCell _ (aq L 0) _ _ hk
 have hgR:g≠L:=by
  rintro rfl
  rcases hat with e|e
  ·exact hv e
  ·omega
 have hsm:Same (fun b=>b=L\/v.ownBlock=some b) w (w3.setCell (aq L 0) (.slice (some (aq g 0)) (n+1) cap)):=by
  refine ⟨hg.os.trans hB.os,hg.tape.trans hB.tape,hg.output.trans hB.output,by simp [World.setCell];omega,fun k hk hn=>?_⟩
  rw [ks k (fun e=>hn (.inl e)),k1 k (by omega) (fun e=>hn (.inr e))]
  exact hB.block k hk
 exact ⟨g,cap,Joins.block_setCell (i:=0) hR3 _,jad hown (fun k hk=>ks k (fun e=>hgR (by simp [Value.ownBlock] at hk;exact hk.trans e))),hsm,hat.imp id (fun e=>by omega)⟩
theorem juf {w w':World} {L n:Nat} {v:Value} {E X:List Value} (h:jv8 w w' L n v E X) {W:World} (hW:Below w'.heap.size w' W):jv8 w W L n v E X:=by
 obtain ⟨g,cap,a,b,c,d⟩:=h
 exact ⟨g,cap,(hW.block L (blt a)).trans a,jbs b hW (Nat.le_refl _),Same.trans c (Same.of_below (own:=fun _=>False) hW) (fun k _ e=>e.elim id (fun e=>e.elim)),d⟩
theorem jwd (L n vc:Nat) (va:Option Addr) (E:List Value) (t c u o r1 r3 r4:Int) (w:World) (hLb:w.heap[L]?=some (.cells #[.slice va n vc] 39 (0,0))) (hO:w.ownsRow 0 85 3 (.slice va n vc) n E) (hv:Value.ownBlock (.slice va n vc)≠some L) (hn:n<=4294967296) (hr:r1=2\/r1=3) :
 Calls Tryz.prog 16 #[pt L 0,.agg #[iv 1,iv t,iv c,iv u,iv o],.agg #[iv r1,iv ((n:Int)+1),iv r3,iv r4]] w fun e w'=>e=.returned (.bool true)/\jv8 w w' L n (.slice va n vc) E [iv c,iv u,.bool false]:=by
 obtain ⟨i0,hi,hz0,hz1,hz2⟩:=info_parts Tryz.infoKnown
 have hL:L<w.heap.size:=(blt hLb)
 obtain ⟨W0,hW0⟩:∃ W0,W0=(w.alloc (.cells #[iv 1,iv t,iv c,iv u,iv o] 46)).alloc (.cells #[iv r1,iv ((n:Int)+1),iv r3,iv r4] 42):=⟨_,rfl⟩
 have hB:Hid (Below w.heap.size w W0):=by rw [hW0];exact ((Below.refl _ _).alloc (Nat.le_refl _) _).alloc (by simp) _
 have qb:Hid (W0.heap[w.heap.size]?=some (.cells #[iv 1,iv t,iv c,iv u,iv o] 46 (0,0))):=by rw [hW0];exact (Below.heap_alloc _ _ _ (by simp)).trans (heap_alloc_new w _)
 have pb:Hid (W0.heap[w.heap.size+1]?=some (.cells #[iv r1,iv ((n:Int)+1),iv r3,iv r4] 42 (0,0))):=by rw [hW0];exact jcj w _ _
 obtain ⟨q0,q1,q2,q3,q4⟩:=jhg qb.out
 obtain ⟨p0,p1,p2,p3⟩:=jf2 pb.out
 have lq:=(blt qb.out)
 have lp:=(blt pb.out)
 have hLW:Hid (W0.heap[L]?=some (.cells #[.slice va n vc] 39 (0,0))):=(hB.out.block L hL).trans hLb
 have hO3:Hid (W0.ownsRow 0 85 3 (.slice va n vc) n E):=jbs hO hB.out (Nat.le_refl _)
 have cL':W0.cell? (aq L 0)=some (.slice va n vc):=by rw [Joins.cell_of_block hLW.out];rfl
 have lL:L<W0.heap.size:=Nat.lt_of_lt_of_le hL hB.out.size
 have hw1:IntKind.i64.wrap ((n:Int)+1)=(n:Int)+1:=jag (by omega) (by omega)
 clear hLb hO
 replace hW0:Hid _:=hW0
 go_enter Tryz.func16,Tryz.ntmps16
 rcases hr with rfl|rfl
 all_goals
  go_wp2_with fail
  rw [← hW0.out]
  clear hW0
  go_quiet (fail)
  have HQ:Hid (Below w.heap.size w (W0.drewN nq)/\(W0.drewN nq).heap[L]?=some (.cells #[.slice va n vc] 39 (0,0))/\(W0.drewN nq).ownsRow 0 85 3 (.slice va n vc) n E/\(W0.drewN nq).heap[w.heap.size]?=some (.cells #[iv 1,iv t,iv c,iv u,iv o] 46 (0,0))):=⟨jae hB.out,hLW.out,hO3.out,qb.out⟩
  clear q0 q1 q2 q3 q4 p0 p1 p2 p3 lq lp hLW hO3 cL' lL qb pb hB
  generalize W0.drewN nq=wq at HQ ⊢
  obtain ⟨hB,hLb,hO3,qb⟩:=HQ.out
  replace hB:Hid _:=hB
  have qh:Hid _:=qb
  obtain ⟨q0,q1,q2,q3,q4⟩:=jhg qb
  have cL':wq.cell? (aq L 0)=some (.slice va n vc):=by rw [Joins.cell_of_block hLb];rfl
  have hRwq:L<wq.heap.size:=(blt hLb)
  have howq:w.heap.size<wq.heap.size:=(blt qb)
  have hRb:Hid _:=hLb
  have hOh:Hid _:=hO3
  have HX2:Hid (∀ w3 g cap O,w3.ownsRow 0 85 3 (.slice (some (aq g 0)) (n+1) cap) (n+1) (E++[iv c,iv u,.bool false])->(wq.alloc O).grownBy w3 (Value.ownBlock (.slice va n vc))->(Value.ownBlock (.slice va n vc)=some g\/g=wq.heap.size+1)->jv8 w (w3.setCell (aq L 0) (.slice (some (aq g 0)) (n+1) cap)) L n (.slice va n vc) E [iv c,iv u,.bool false]):=fun w3 g cap O h1 h2 h3=>qcg hB.out hL hLb hv h1 h2 h3
  clear HQ hLb qb hO3
  go_wp2_with fail
  go_region_law ((refine step_append_lies _ (by rfl) _ _ _ (by rfl) 0 85 i0 (.agg #[iv 0,iv 0,.bool false]) 3 24 Tryz.underlying37 hi hz0 hz1 hz2 rfl (by omega) (.slice va n vc) n E (by rfl) ((show wq.ownsRow 0 85 3 (.slice va n vc) n E from hOh.out).alloc _).drew (aq wq.heap.size 0) 1 1 [iv c,iv u,.bool false] (by rfl) (by rfl) (World.news_of_block (cs:=#[iv c,iv u,.bool false]) (t:=85) (fr:=(0,0)) (heap_alloc_new wq _)) (by simp [Value.oneCell']) (by omega) (by unfold maxLen;omega) (by omega) (by simp) (wq.heap.size+1) (by simp) ?_
                  intro gg cap w3 hown3 hgrow hat hlt
                  have hR3:w3.heap[L]?=some (.cells #[.slice va n vc] 39 (0,0)):=(hgrow.block L (by simp;omega) (fun e=>hv e.symm)).trans ((Below.heap_alloc wq _ L hRwq).trans hRb.out)
                  have g1:w3.cell? (aq L 0)=some (.slice va n vc):=by rw [Joins.cell_of_block hR3];rfl
                  have gf:=ja0 hR3 0))
  all_goals
   have hfin:=HX2.out w3 gg cap (.cells #[iv c,iv u,.bool false] 85) hown3 ⟨hgrow.os,hgrow.tape,hgrow.output,hgrow.size,hgrow.block⟩ hat
   replace hfin:Hid _:=hfin
   clear HX2 hown3 hgrow hat
   go_wp2
   refine bodyPost_ret (v:=.bool true) (by simp [results,Tryz.results16,go_sem]) rfl ⟨rfl,juf hfin.out bL⟩
theorem jxr (kl:List Kn):(jfx kl).length=kl.length * 3:=by
 induction kl with
 | nil=>rfl
 | cons a l ih=>simp only [jfx,List.flatMap_cons,List.length_append,List.length_cons] at ih ⊢;rw [ih];simp [Kn.vals];omega
theorem js2:∀ {kl:List Kn} {i:Nat},i<kl.length->∀ j,j<3->(jfx kl)[i * 3+j]?=(kl.getD i kn0).vals[j]?
 | [],_,h,_,_=>by simp at h
 | a :: l,0,_,j,hj=>by
   show (a.vals++jfx l)[0 * 3+j]?=_
   rw [List.getElem?_append_left (by simpa [Kn.vals] using hj)]
   simp
 | a :: l,i+1,h,j,hj=>by
   have ih:=js2 (kl:=l) (i:=i) (by simpa using h) j hj
   show (a.vals++jfx l)[(i+1) * 3+j]?=_
   rw [List.getElem?_append_right (by simp [Kn.vals];omega)]
   have e:(i+1) * 3+j - a.vals.length=i * 3+j:=by simp [Kn.vals];omega
   rw [e,ih]
   simp
theorem jsx (kl:List Kn) (k:Kn):jfx (kl++[k])=jfx kl++k.vals:=by simp [jfx]
theorem jn1:∀ (kl:List Kn) (i:Nat),i<kl.length->(jfx kl).set (i * 3+2) (.bool true)=jfx (kl.set i { kl.getD i kn0 with paid:=true })
 | [],_,h=>by simp at h
 | a :: l,0,_=>by
   show (a.vals++jfx l).set (0 * 3+2) (.bool true)=_
   simp [jfx,Kn.vals]
 | a :: l,i+1,h=>by
   have ih:=jn1 l i (by simpa using h)
   show (a.vals++jfx l).set ((i+1) * 3+2) (.bool true)=a.vals++jfx (l.set i { (a :: l).getD (i+1) kn0 with paid:=true })
   have e:(a :: l).getD (i+1) kn0=l.getD i kn0:=by simp
   have hl:a.vals.length=3:=rfl
   have e2:(i+1) * 3+2 - a.vals.length=i * 3+2:=by omega
   rw [List.set_append,if_neg (by omega),e2,ih,e]
theorem jl8 {W:World} {g n c:Nat} {kl:List Kn} (h:W.ownsRow 0 85 3 (.slice (some (aq g 0)) n c) n (jfx kl)) {i:Nat} (hi:i<kl.length):W.cell? (aq g (i * 3))=some (iv (kl.getD i kn0).cust)/\W.cell? (aq g (i * 3+1))=some (iv (kl.getD i kn0).units)/\W.cell? (aq g (i * 3+2))=some (.bool (kl.getD i kn0).paid):=by
 have c:∀ k,k<3->∀ u,(kl.getD i kn0).vals[k]?=some u->W.cell? (aq g (i * 3+k))=some u:=fun k hk u hu=>by
  have:=h.cells (g:=g) rfl _ _ ((js2 hi k hk).trans hu)
  rwa [Addr.add_lit,Nat.zero_add] at this
 exact ⟨c 0 (by omega) _ rfl,c 1 (by omega) _ rfl,c 2 (by omega) _ rfl⟩
theorem jo2 (L:Nat) (kl:List Kn):Keeps (jgx L kl):=by
 refine ⟨fun {W o} h k hk=>?_,fun {W W' o} h hz hk=>?_⟩
 ·obtain ⟨a,c,h1,h2,h3⟩:=h
  rcases (h3 k).1 hk with e|e
  ·rw [e];exact (blt h1)
  ·rcases h2.2 with ⟨hv,_⟩|⟨b,cap,cur,hv,_,hh,_⟩
   ·rw [hv] at e;simp [Value.ownBlock] at e
   ·rw [hv] at e
    simp only [Value.ownBlock,Option.some.injEq] at e
    rw [← e];exact (blt hh)
 ·obtain ⟨a,c,h1,h2,h3⟩:=h
  exact ⟨a,c,(hk L ((h3 L).2 (.inl rfl))).trans h1,jad h2 (fun k e=>hk k ((h3 k).2 (.inr e))),h3⟩
theorem jtp {W:World} {L n:Nat} {v x:Value} {E:List Value} (hL:W.heap[L]?=some (.cells #[x] 39 (0,0))) (h:W.ownsRow 0 85 3 v n E):v.ownBlock≠some L:=by
 intro e
 rcases h.2 with ⟨hv,_⟩|⟨b,cap,cur,hv,_,hh,_⟩
 ·rw [hv] at e;simp [Value.ownBlock] at e
 ·rw [hv] at e
  simp only [Value.ownBlock,Option.some.injEq] at e
  rw [e,hL] at hh
  simp at hh
theorem qbn {L:Nat} {kl:List Kn} {p:Stp} {r:Rep} {W:World} {o:Nat->Prop} (h:jgx L kl W o) (hn:kl.length<=4294967296) (hk:jfe kl p r) :
 Calls Tryz.prog 16 #[pt L 0,.agg #[iv p.k,iv p.t,iv p.c,iv p.u,iv p.o],.agg #[iv r.kind,iv r.order,iv r.cents,iv r.upto]] W fun e w'=>e=.returned (.bool true)/\jar (jgx L (jcf kl p r)) W w' o:=by
 have KL:=jo2 L kl
 have hlt:=KL.lt h
 have hh:=h
 obtain ⟨a,c,h1,h2,h3⟩:=h
 have hL:L<W.heap.size:=(blt h1)
 have cL:W.cell? (aq L 0)=some (.slice a kl.length c):=by rw [Joins.cell_of_block h1];rfl
 have hap:=jtp h1 h2
 have stay:∀ {w':World},Below W.heap.size W w'->jar (jgx L kl) W w' o:=fun hb=>⟨o,KL.keep hh hb.size (fun k e=>hb.block k (hlt k e)),Same.of_below hb,fun k e=>.inl e⟩
 have jbz:∀ i,i<kl.length->∃ g cur,a=some (aq g 0)/\W.heap[g]?=some (.cells cur 85 (0,0))/\cur.toList.take (kl.length * 3)=jfx kl/\cur.size=c * 3/\kl.length<=c/\c<=maxLen:=fun i hi=>by
  rcases h2.2 with ⟨_,h0⟩|⟨g,cap,cur,hv,_,hg,x1,x2,x3,x4⟩
  ·omega
  ·simp only [Value.slice.injEq] at hv
   obtain ⟨e1,_,e3⟩:=hv
   exact ⟨g,cur,e1,hg,x4,by rw [e3];exact x3,by omega,by omega⟩
 by_cases hkk:p.k=1/\(r.kind=2\/r.kind=3)
 ·rcases hk.1 hkk.1 hkk.2 with ho|⟨o1,o2,o3,o4⟩
  ·have e1:jcf kl p r=kl++[⟨p.c,p.u,false⟩]:=by unfold jcf;rw [if_pos hkk,if_pos ho]
   rw [e1,hkk.1,ho]
   refine (jwd L kl.length c a (jfx kl) p.t p.c p.u p.o r.kind r.cents r.upto W h1 h2 hap hn hkk.2).mono ?_
   rintro e w' ⟨rfl,g,cap,k1,k2,k3,k4⟩
   refine ⟨rfl,fun k=>k=L\/Value.ownBlock (.slice (some (aq g 0)) (kl.length+1) cap)=some k,⟨some (aq g 0),cap,by simpa using k1,by rw [jsx];simpa [Kn.vals] using k2,fun k=>by simp⟩,⟨k3.os,k3.tape,k3.output,k3.size,fun k hk hn=>k3.block k hk (fun e=>hn ((h3 k).2 e))⟩,fun k e=>?_⟩
   rcases e with e|e
   ·exact .inl ((h3 k).2 (.inl e))
   ·simp only [Value.ownBlock,Option.some.injEq] at e
    rw [← e]
    exact k4.imp (fun d=>(h3 g).2 (.inr d)) id
  ·have e1:jcf kl p r=kl:=by unfold jcf;rw [if_pos hkk,if_neg (by omega)]
   rw [e1]
   obtain ⟨g,cur,e2,hg,_⟩:=jbz (r.order - 1).toNat (by omega)
   subst e2
   obtain ⟨c0,c1,_⟩:=jl8 h2 (i:=(r.order - 1).toNat) (by omega)
   rw [o3] at c0
   rw [o4] at c1
   refine (jkg L kl.length c _ p.k p.t p.c p.u p.o r.kind r.order r.cents r.upto W hL cL hn (by omega) (.inr ⟨hkk.1,hkk.2,(r.order - 1).toNat,g,by omega,by omega,rfl,(blt hg),c0,c1⟩)).mono ?_
   rintro e w' ⟨rfl,hb⟩
   exact ⟨rfl,stay hb⟩
 ·by_cases h7:r.kind=7
  ·obtain ⟨o1,o2,o3⟩:=hk.2 h7
   have e1:jcf kl p r=kl.set (r.order - 1).toNat { kl.getD (r.order - 1).toNat kn0 with paid:=true }:=by unfold jcf;rw [if_neg hkk,if_pos h7]
   rw [e1]
   generalize hi:(r.order - 1).toNat=i at o3
   have hin:i<kl.length:=by omega
   have hr:r.order=(i:Int)+1:=by omega
   obtain ⟨g,cur,e2,hg,x1,x2,x3,x4⟩:=jbz i hin
   subst e2
   obtain ⟨c0,_,c2⟩:=jl8 h2 hin
   rw [o3] at c0
   rw [h7,hr]
   refine (juk L kl.length c g i cur p.k p.t p.c p.u p.o r.cents r.upto _ W hL cL hn hin hg c0 c2).mono ?_
   rintro e w' ⟨rfl,k1,k2⟩
   have hgL:L≠g:=fun e=>hap (by rw [e];rfl)
   have hlen:(kl.set i { kl.getD i kn0 with paid:=true }).length=kl.length:=List.length_set
   refine ⟨rfl,o,⟨some (aq g 0),c,by rw [hlen];exact (k2.block L hL hgL).trans h1,?_,by rw [hlen];exact h3⟩,⟨k2.os,k2.tape,k2.output,k2.size,fun k hk hn=>k2.block k hk (fun e=>hn ((h3 k).2 (.inr (by rw [e];rfl))))⟩,fun k e=>.inl e⟩
   rw [hlen]
   refine ⟨by rw [jxr,hlen],.inr ⟨g,c,_,rfl,Nat.zero_le _,k1,x3,x4,by simp [x2],?_⟩⟩
   rw [Array.toList_setIfInBounds,List.take_set,x1]
   exact jn1 kl i hin
  ·have e1:jcf kl p r=kl:=by unfold jcf;rw [if_neg hkk,if_neg h7]
   rw [e1]
   refine (jkg L kl.length c a p.k p.t p.c p.u p.o r.kind r.order r.cents r.upto W hL cL hn h7 (.inl hkk)).mono ?_
   rintro e w' ⟨rfl,hb⟩
   exact ⟨rfl,stay hb⟩
section
open Go.ChangeShapes Go.WideShapes Go.ChangeAt Go.RowKit
def jkc:Stp:=⟨0,0,0,0,0,0⟩
def jx1 (w:World) (b o:Nat) (p:Stp):Prop:=w.cell? (aq b o)=some (iv p.n)/\w.cell? (aq b (o+1))=some (iv p.k)/\w.cell? (aq b (o+2))=some (iv p.t)/\w.cell? (aq b (o+3))=some (iv p.c)/\w.cell? (aq b (o+4))=some (iv p.u)/\w.cell? (aq b (o+5))=some (iv p.o)
def stepsAt (w:World) (a:Option Addr) (len:Nat) (ps:List Stp):Prop :=
 ps.length=len/\(ps≠[]->∃ b off,a=some (aq b off)/\b<w.heap.size/\∀ i,i<len->jx1 w b (off+i * 6) (ps.getD i jkc))
theorem jnd {w w':World} {b o:Nat} {p:Stp} (h:jx1 w b o p) (hk:w'.heap[b]?=w.heap[b]?):jx1 w' b o p:=by
 obtain ⟨a0,a1,a2,a3,a4,a5⟩:=h
 exact ⟨(World.cell?_of_block (a:=(aq b o)) hk).trans a0,(World.cell?_of_block (a:=(aq b (o+1))) hk).trans a1,(World.cell?_of_block (a:=(aq b (o+2))) hk).trans a2,(World.cell?_of_block (a:=(aq b (o+3))) hk).trans a3,(World.cell?_of_block (a:=(aq b (o+4))) hk).trans a4,(World.cell?_of_block (a:=(aq b (o+5))) hk).trans a5⟩
theorem stepsAt.below {w w':World} {a:Option Addr} {len:Nat} {ps:List Stp} (h:stepsAt w a len ps) (hb:Below w.heap.size w w'):stepsAt w' a len ps:=by
 refine ⟨h.1,fun hn=>?_⟩
 obtain ⟨b,off,e,hbw,hc⟩:=h.2 hn
 exact ⟨b,off,e,Nat.lt_of_lt_of_le hbw hb.size,fun i hi=>jnd (hc i hi) (hb.block b hbw)⟩
theorem Tryz.cellsCase:Tryz.prog.cellsOf 32=9:=by kernel_rfl
theorem Tryz.cellsStep:Tryz.prog.cellsOf 48=6:=by kernel_rfl
theorem Tryz.cellsSteps:Tryz.prog.cellsOf 30=1:=by kernel_rfl
theorem Tryz.bytesStep:Tryz.prog.bytesOf 48=48:=by kernel_rfl
theorem qca {α:Type} {cs:Array α} (h:cs.size=9):∃ c0 c1 c2 c3 c4 c5 c6 c7 c8,cs=#[c0,c1,c2,c3,c4,c5,c6,c7,c8]:=by
 obtain ⟨l⟩:=cs
 match l,h with
 | [c0,c1,c2,c3,c4,c5,c6,c7,c8],_=>exact ⟨c0,c1,c2,c3,c4,c5,c6,c7,c8,rfl⟩
theorem jh7 {H:Type} {enc:TypeId × Value->H} {w:World} {held:Bool} {t:TypeId} {fs:Array Field} {fuel:Nat} {cs:List Value} {x:DataW H × List MemPlace}
 (he:Tryz.prog.underlying t=some (.struct fs)) (h:DataW.trod enc Tryz.prog w 0 (fun _=>true) held fuel t cs=some x) (hw:wOK t x.1) :
 ∃ (xs:List (DataW H × List MemPlace)) (n:Nat),xs.length=fs.size/\(∀ (k:Nat) (f:Field),fs[k]?=some f->DataW.trod enc Tryz.prog w 0 (fun _=>true) held n f.type ((cs.drop f.offset).take (Tryz.prog.cellsOf f.type))=xs[k]?)/\(∀ (k:Nat) (f:Field) y,fs[k]?=some f->xs[k]?=some y->wOK f.type y.1):=by
 obtain ⟨xs,m,_,hy,_,hxl,hxf⟩:=DataW.trod_struct he h
 refine ⟨xs,m,hxl,hxf,fun k f y hf hy'=>?_⟩
 rw [hy] at hw
 exact jxc he hw hf (by simp [hy'])
theorem jst {H:Type} {enc:TypeId × Value->H} {w:World} {held:Bool} {fuel:Nat} {a:Option Addr} {len cap:Nat} {x:DataW H × List MemPlace}
 (h:DataW.trod enc Tryz.prog w 0 (fun _=>true) held fuel 30 [.slice a len cap]=some x) (hw:wOK 30 x.1):∃ ps,stepsAt w a len ps/\(∀ p∈ps,p.fine)/\len * 48<=140737488351232:=by
 rcases jpj Tryz.underlying30 Tryz.underlying48 Tryz.cellsStep h hw with ⟨rfl,rfl,rfl⟩|⟨ad,rfl,hlc,hb,hrow⟩
 ·exact ⟨[],⟨rfl,fun h=>absurd rfl h⟩,fun p hp=>by simp at hp,by omega⟩
 ·rw [Tryz.bytesStep] at hb
  have hb':len * 48<=140737488351232:=by simp only [reachBytes] at hb;omega
  by_cases h0:len=0
  ·subst h0
   exact ⟨[],⟨rfl,fun h=>absurd rfl h⟩,fun p hp=>by simp at hp,by omega⟩
  obtain ⟨b,off,rfl⟩:∃ b off,ad=(aq b off):=by
   obtain ⟨cs,xs,n,hcl,hcc,_⟩:=hrow 0 (by omega)
   have:=hcc 0 (by omega)
   rw [List.getElem?_eq_getElem (by omega)] at this
   exact jn2 (by simpa using this)
  have hall:∀ i,i<len->∃ q:Stp,jx1 w b (off+i * 6) q/\q.fine:=by
   intro i hi
   obtain ⟨cs,xs,n,hcl,hcc,hxl,hf,hwt⟩:=hrow i hi
   have hxl':xs.length=2:=hxl
   obtain ⟨n0,e0,b0⟩:=jbx (k:=0) (by omega) (hf 0 _ rfl) (jbz hxl' (by omega))
   obtain ⟨z,hz⟩:=Option.isSome_iff_exists.1 (jbz hxl' (show 1<2 by omega))
   have h1:DataW.trod enc Tryz.prog w 0 (fun _=>true) held n 46 ((cs.drop 1).take (Tryz.prog.cellsOf 46))=xs[1]?:=hf 1 _ rfl
   have hw1:wOK 46 z.1:=hwt 1 _ z rfl hz
   rw [hz,Tryz.cellsReq] at h1
   have hdl:((cs.drop 1).take 5).length=5:=by simp;omega
   obtain ⟨ys,m,hyl,hyf,_⟩:=jh7 Tryz.underlying46 h1 hw1
   have hyl':ys.length=5:=hyl
   obtain ⟨r0,q0,s0⟩:=jbx (k:=0) (by omega) (hyf 0 _ rfl) (jbz hyl' (by omega))
   obtain ⟨r1,q1,s1⟩:=jbx (k:=1) (by omega) (hyf 1 _ rfl) (jbz hyl' (by omega))
   obtain ⟨r2,q2,s2⟩:=jbx (k:=2) (by omega) (hyf 2 _ rfl) (jbz hyl' (by omega))
   obtain ⟨r3,q3,s3⟩:=jbx (k:=3) (by omega) (hyf 3 _ rfl) (jbz hyl' (by omega))
   obtain ⟨r4,q4,s4⟩:=jbx (k:=4) (by omega) (hyf 4 _ rfl) (jbz hyl' (by omega))
   have hq:∀ j,j<5->((cs.drop 1).take 5)[j]?=cs[1+j]?:=fun j hj=>by rw [List.getElem?_take_of_lt hj,List.getElem?_drop]
   rw [hq _ (by omega)] at q0 q1 q2 q3 q4
   have hc:∀ j,j<6->w.cell? (aq b (off+i * 6+j))=cs[j]?:=fun j hj=>by rw [← hcc j hj,Addr.add_lit,Nat.add_assoc]
   exact ⟨⟨n0,r0,r1,r2,r3,r4⟩,⟨(hc 0 (by omega)).trans e0,(hc 1 (by omega)).trans q0,(hc 2 (by omega)).trans q1,(hc 3 (by omega)).trans q2,(hc 4 (by omega)).trans q3,(hc 5 (by omega)).trans q4⟩,⟨b0.1,by show n0<_;omega⟩,⟨s0.1,by show r0<_;omega⟩,⟨s1.1,by show r1<_;omega⟩,⟨s2.1,by show r2<_;omega⟩,⟨s3.1,by show r3<_;omega⟩,⟨s4.1,by show r4<_;omega⟩⟩
  obtain ⟨f,hff⟩:=@Deep.choose_lt Stp ⟨jkc⟩ _ _ hall
  refine ⟨(List.range len).map f,⟨by simp,fun _=>⟨b,off,rfl,World.block_lt_of_cell? w _ (hff 0 (by omega)).1.1,fun i hi=>?_⟩⟩,fun p hp=>?_,hb'⟩
  ·rw [jsm f jkc hi];exact (hff i hi).1
  ·obtain ⟨i,hi,rfl⟩:=List.mem_map.1 hp
   exact (hff i (List.mem_range.1 hi)).2
theorem jwx {H:Type} {enc:TypeId × Value->H} {w:World} {held:Bool} {r:Reach} {b0:Nat} {v:Value} {d:DataW H} {p:List MemPlace}
 (hv:Value.okWide Tryz.prog w r b0 32 v) (h:DataW.Trod enc Tryz.prog w 0 (fun _=>true) held 32 v d p) (hw:wOK 32 d) :
 ∃ (n0 n1 n2 n3 n4 n5 n6:Int) (a:Option Addr) (len cap:Nat) (ts:List (Int × Int)) (sa:Option Addr) (sl sc:Nat) (ps:List Stp),v=.agg #[iv n0,iv n1,iv n2,iv n3,iv n4,iv n5,iv n6,.slice a len cap,.slice sa sl sc]/\tiersAt w a len cap ts/\stepsAt w sa sl ps/\(∀ p∈ps,p.fine)/\sl * 48<=140737488351232:=by
 obtain ⟨cs,rfl,hsz⟩:=okWide_struct Tryz.underlying32 hv
 rw [Tryz.cellsCase] at hsz
 obtain ⟨c0,c1,c2,c3,c4,c5,c6,c7,c8,rfl⟩:=qca hsz
 obtain ⟨fuel,hf⟩:=h
 obtain ⟨xs,n,hxl,hxf,hwt⟩:=jh7 Tryz.underlying32 hf hw
 have hxl':xs.length=2:=hxl
 obtain ⟨z0,hz0⟩:=Option.isSome_iff_exists.1 (jbz hxl' (show 0<2 by omega))
 obtain ⟨z1,hz1⟩:=Option.isSome_iff_exists.1 (jbz hxl' (show 1<2 by omega))
 have h0:DataW.trod enc Tryz.prog w 0 (fun _=>true) held n 29 (([c0,c1,c2,c3,c4,c5,c6,c7,c8].drop 0).take (Tryz.prog.cellsOf 29))=xs[0]?:=hxf 0 _ rfl
 have h1:DataW.trod enc Tryz.prog w 0 (fun _=>true) held n 30 (([c0,c1,c2,c3,c4,c5,c6,c7,c8].drop 8).take (Tryz.prog.cellsOf 30))=xs[1]?:=hxf 1 _ rfl
 have hw0:wOK 29 z0.1:=hwt 0 _ z0 rfl hz0
 have hw1:wOK 30 z1.1:=hwt 1 _ z1 rfl hz1
 rw [hz0,Tryz.cellsCfg] at h0
 rw [hz1,Tryz.cellsSteps] at h1
 have e0:([c0,c1,c2,c3,c4,c5,c6,c7,c8].drop 0).take 8=[c0,c1,c2,c3,c4,c5,c6,c7]:=rfl
 have e1:([c0,c1,c2,c3,c4,c5,c6,c7,c8].drop 8).take 1=[c8]:=rfl
 rw [e0] at h0
 rw [e1] at h1
 obtain ⟨ys,m,hyl,hyf,hyt⟩:=jh7 Tryz.underlying29 h0 hw0
 have hyl':ys.length=8:=hyl
 obtain ⟨n0,q0,_⟩:=jbx (k:=0) (by simp) (hyf 0 _ rfl) (jbz hyl' (by omega))
 obtain ⟨n1,q1,_⟩:=jbx (k:=1) (by simp) (hyf 1 _ rfl) (jbz hyl' (by omega))
 obtain ⟨n2,q2,_⟩:=jbx (k:=2) (by simp) (hyf 2 _ rfl) (jbz hyl' (by omega))
 obtain ⟨n3,q3,_⟩:=jbx (k:=3) (by simp) (hyf 3 _ rfl) (jbz hyl' (by omega))
 obtain ⟨n4,q4,_⟩:=jbx (k:=4) (by simp) (hyf 4 _ rfl) (jbz hyl' (by omega))
 obtain ⟨n5,q5,_⟩:=jbx (k:=5) (by simp) (hyf 5 _ rfl) (jbz hyl' (by omega))
 obtain ⟨n6,q6,_⟩:=jbx (k:=6) (by simp) (hyf 6 _ rfl) (jbz hyl' (by omega))
 obtain ⟨z,hz⟩:=Option.isSome_iff_exists.1 (jbz hyl' (show 7<8 by omega))
 have h7:DataW.trod enc Tryz.prog w 0 (fun _=>true) held m 27 (([c0,c1,c2,c3,c4,c5,c6,c7].drop 7).take (Tryz.prog.cellsOf 27))=ys[7]?:=hyf 7 _ rfl
 have hw7:wOK 27 z.1:=hyt 7 _ z rfl hz
 rw [hz,Tryz.cellsTiers] at h7
 have e7:([c0,c1,c2,c3,c4,c5,c6,c7].drop 7).take 1=[c7]:=rfl
 rw [e7] at h7
 obtain ⟨a,l,c,hs⟩:∃ a l c,[c7]=[Value.slice a l c]:=by
  rcases DataW.trod_slice Tryz.underlying27 h7 with ⟨hcs,_⟩|⟨ad,l,cp,_,_,_,_,hcs,_⟩
  ·exact ⟨_,_,_,hcs⟩
  ·exact ⟨_,_,_,hcs⟩
 obtain ⟨sa,sl,sc,hss⟩:∃ a l c,[c8]=[Value.slice a l c]:=by
  rcases DataW.trod_slice Tryz.underlying30 h1 with ⟨hcs,_⟩|⟨ad,l,cp,_,_,_,_,hcs,_⟩
  ·exact ⟨_,_,_,hcs⟩
  ·exact ⟨_,_,_,hcs⟩
 rw [hs] at h7
 rw [hss] at h1
 obtain ⟨ts,hts,_⟩:=jtg h7 hw7
 obtain ⟨ps,hps,hfine,hl⟩:=jst h1 hw1
 simp at q0 q1 q2 q3 q4 q5 q6 hs hss
 subst q0 q1 q2 q3 q4 q5 q6 hs hss
 exact ⟨n0,n1,n2,n3,n4,n5,n6,a,l,c,ts,sa,sl,sc,ps,rfl,hts,hps,hfine,hl⟩
end
section
section
variable {w:World} {x:Nat} {own:Nat->Prop} {S:Sal}
theorem qbr (h:PSK w x own S):Calls Tryz.prog 19 #[pt x 0] w fun e w'=>e=.returned (iv S.now)/\jar (juv x S) w w' own:=by
 refine (tickW.clock h.ps h.J).mono ?_
 rintro e w' ⟨rfl,hq⟩
 exact ⟨rfl,jc4 (P:=fun W o=>PSW W x o S) hq (fun W o hp=>⟨hp,h.J,h.I⟩)⟩
theorem qb8 (h:PSK w x own S):Calls Tryz.prog 29 #[pt x 0] w fun e w'=>e=.returned (.agg #[iv S.free,iv (ja3 S.os 13 0),iv (ja3 S.os 14 0),iv (ja5 S.os).length,iv S.answers])/\jar (juv x S) w w' own:=by
 refine (bookW.books h.ps h.J).mono ?_
 rintro e w' ⟨rfl,hq⟩
 exact ⟨rfl,jc4 (P:=fun W o=>PSW W x o S) hq (fun W o hp=>⟨hp,h.J,h.I⟩)⟩
theorem jwr (h:PSK w x own S) (c:Int):Calls Tryz.prog 31 #[pt x 0,iv c] w fun e w'=>e=.returned (.tuple #[.agg #[iv (S.acc c).1,iv (S.acc c).2.1,iv (S.acc c).2.2.1],iv (S.acc c).2.2.2])/\jar (juv x S) w w' own:=by
 refine (bookW.account c h.ps h.J).mono ?_
 rintro e w' ⟨rfl,hq⟩
 exact ⟨rfl,jc4 (P:=fun W o=>PSW W x o S) hq (fun W o hp=>⟨hp,h.J,h.I⟩)⟩
end
def qb9 (S0:Sal) (ps:List Stp):Nat->Sal
 | 0=>S0
 | j+1=>((qb9 S0 ps j).does (ps.getD j jkc)).2
end
section
def jey (x L:Nat) (S:Sal) (kl:List Kn) (W:World) (o:Nat->Prop):Prop:=jzp (juv x S) (jgx L kl) W o
theorem jf6 (x L:Nat) (S:Sal) (kl:List Kn):Keeps (jey x L S kl):=qdi (jh6 x S) (jo2 L kl)
section
variable {x L:Nat} {S:Sal} {kl:List Kn}
theorem onS {S':Sal} {f:FuncId} {args:Array Value} {v:Value} (h:∀ W o,juv x S W o->Calls Tryz.prog f args W fun e w'=>e=.returned v/\jar (juv x S') W w' o) (W:World) (o:Nat->Prop) (hp:jey x L S kl W o):Calls Tryz.prog f args W fun e w'=>e=.returned v/\jar (jey x L S' kl) W w' o:=jp7 (jo2 L kl) h W o hp
theorem onL {kl':List Kn} {f:FuncId} {args:Array Value} {v:Value} (h:∀ W o,jgx L kl W o->Calls Tryz.prog f args W fun e w'=>e=.returned v/\jar (jgx L kl') W w' o) (W:World) (o:Nat->Prop) (hp:jey x L S kl W o):Calls Tryz.prog f args W fun e w'=>e=.returned v/\jar (jey x L S kl') W w' o:=jsv (jh6 x S) h W o hp
theorem jn3 {W:World} {o:Nat->Prop} (h:jgx L kl W o):∃ a c,L<W.heap.size/\W.cell? (aq L 0)=some (.slice a kl.length c)/\∀ j,j<kl.length->∃ b,a=some (aq b 0)/\b<W.heap.size/\W.cell? (aq b (j * 3))=some (iv (kl.getD j kn0).cust)/\W.cell? (aq b (j * 3+1))=some (iv (kl.getD j kn0).units)/\W.cell? (aq b (j * 3+2))=some (.bool (kl.getD j kn0).paid):=by
 obtain ⟨a,c,h1,h2,h3⟩:=h
 refine ⟨a,c,(blt h1),by rw [Joins.cell_of_block h1];rfl,fun j hj=>?_⟩
 rcases h2.2 with ⟨_,h0⟩|⟨g,cap,cur,hv,_,hg,_⟩
 ·omega
 ·have e1:a=some (aq g 0):=by simp only [Value.slice.injEq] at hv;exact hv.1
  subst e1
  obtain ⟨c0,c1,c2⟩:=jl8 h2 hj
  exact ⟨g,rfl,(blt hg),c0,c1,c2⟩
theorem jnb {w W:World} {own loc:Nat->Prop} (h:ja9 (jey x L S kl) w own loc W):∃ o,jgx L kl W o:=by
 obtain ⟨o1,⟨_,o2,_,a2,_⟩,_⟩:=h
 exact ⟨o2,a2⟩
theorem qa7 (hI:kInv S kl) (c:Int) (W:World) (o:Nat->Prop) (h:jey x L S kl W o) :
 Calls Tryz.prog 30 #[pt L 0,pt x 0,iv c] W fun e w'=>e=.returned (.tuple #[.agg #[iv (jgu S.os c S.os.length).1,iv (jgu S.os c S.os.length).2.1,iv (jgu S.os c S.os.length).2.2.1,iv (jgu S.os c S.os.length).2.2.2],.bool true])/\jar (jey x L S kl) W w' o:=by
 have K:=jf6 x L S kl
 have hw:=K.lt h
 have hlen:=hI.kn.len
 obtain ⟨o1,o2,a1,a2,a3,a4⟩:=id h
 have hJ:=a1.J
 have hR:restS S:=a1.ps.2.R
 have hO:∀ o∈S.os,jjl o:=a1.I.os
 have hz:=hJ.len
 refine jvv L x S.os.length c S.now W o (jey x L S kl) K h (fun j=>kl.getD j kn0) (fun j=>S.pollK (kl.getD j kn0).cust ((j:Int)+1)) (jgu S.os c) (by simp [jgu,ja3,jlx,jut]) hJ.len ?_ ?_ ?_ ?_
 ·intro loc W' hT
  obtain ⟨o',hl⟩:=jnb hT
  rw [← hlen]
  exact jn3 hl
 ·intro j hj
  exact jxe hI hJ hR hO c hj
 ·exact fun loc W' hT=>ja6 hw (onS (fun W o hp=>qbr hp)) W' hT
 ·intro j hj loc W' hT
  have hcu:=hI.cu j hj
  rw [← (hI.kn.at' j hj).1] at hcu
  unfold jby at hcu
  simp only [Bool.and_eq_true,decide_eq_true_eq] at hcu
  exact ja6 hw (onS (fun W o hp=>jye hp _ _ ⟨by omega,by omega⟩ ⟨by omega,by omega⟩)) W' hT
theorem qc9 (hI:kInv S kl) (v3 v4 v5 v7 v8:Value) (W:World) (o:Nat->Prop) (h:jey x L S kl W o) :
 Calls Tryz.prog 14 #[.agg #[iv S.C.stock,iv S.C.cap,iv S.C.queue,v3,v4,v5,iv S.C.tokens,v7,v8],pt x 0,pt L 0] W fun e w'=>e=.returned (.bool true)/\jar (jey x L S kl) W w' o:=by
 have K:=jf6 x L S kl
 have hw:=K.lt h
 have hlen:=hI.kn.len
 obtain ⟨o1,o2,a1,a2,a3,a4⟩:=id h
 have hJ:=a1.J
 have hO:∀ o∈S.os,jjl o:=a1.I.os
 have hu:∀ o∈S.os,0<=o.units:=fun o ho=>by have:=(hO o ho).1;omega
 have hz:=hJ.len
 have hst:=hJ.I.stock
 have hcf:=hJ.I.cfg
 have hcp:=hJ.cap
 have p13:=jay 13 0 hu
 have p14:=jay 14 0 hu
 have hfree:S.free=S.C.stock - ja3 S.os 14 0 - ja3 S.os 13 0:=rfl
 have hcu:∀ j,j<S.os.length->jby (kl.getD j kn0).cust=true/\(kl.getD j kn0).cust≠0:=fun j hj=>by
  have:=hI.cu j hj
  rw [← (hI.kn.at' j hj).1] at this
  refine ⟨this,fun e=>?_⟩
  rw [e] at this
  exact absurd this (by decide)
 obtain ⟨s1,s2,s3⟩:=qa3 S
 refine jsy x L S.os.length S.C.stock S.C.cap S.C.queue S.C.tokens v3 v4 v5 v7 v8 W o (jey x L S kl) K h (fun j=>kl.getD j kn0) S.free (ja3 S.os 13 0) (ja3 S.os 14 0) (ja5 S.os).length S.answers (jgu S.os 0 S.os.length).2.2.1 (fun c=>(ja3 S.os 13 c,ja3 S.os 14 c,ja3 S.os 12 c,jut S.os c S.os.length)) hz ⟨⟨by omega,by omega⟩,⟨by omega,by omega⟩,⟨by omega,by omega⟩,by omega,hI.queue,by omega,hI.tokens⟩ ?_ ?_ ?_ ?_ ?_ ?_
 ·intro j hj
  have hc:=hI.cap _ (hcu j hj).2
  have hd:jry S.os (kl.getD j kn0).cust=ja3 S.os 12 (kl.getD j kn0).cust+ja3 S.os 13 (kl.getD j kn0).cust+ja3 S.os 14 (kl.getD j kn0).cust:=rfl
  have x1:=jay 12 (kl.getD j kn0).cust hu
  have x2:=jay 13 (kl.getD j kn0).cust hu
  have x3:=jay 14 (kl.getD j kn0).cust hu
  dsimp only
  omega
 ·intro loc W' hT
  obtain ⟨o',hl⟩:=jnb hT
  rw [← hlen]
  exact jn3 hl
 ·exact fun loc W' hT=>ja6 hw (onS (fun W o hp=>qb8 hp)) W' hT
 ·intro loc W' hT
  have:=ja6 hw (fun W o hp=>qa7 hI 0 W o hp) W' hT
  rw [s1,s2,s3] at this
  exact this
 ·intro j hj loc W' hT
  have:=ja6 hw (onS (L:=L) (kl:=kl) (fun W o hp=>jwr hp (kl.getD j kn0).cust)) W' hT
  have e:S.acc (kl.getD j kn0).cust=(ja3 S.os 13 (kl.getD j kn0).cust,ja3 S.os 14 (kl.getD j kn0).cust,ja3 S.os 12 (kl.getD j kn0).cust,0):=by
   unfold Sal.acc
   rw [if_pos (hcu j hj).1]
   rfl
  rw [e] at this
  exact this
 ·intro j hj loc W' hT
  have:=ja6 hw (fun W o hp=>qa7 hI (kl.getD j kn0).cust W o hp) W' hT
  rw [jz3 hI hJ hO (hcu j hj).2] at this
  exact this
end
end
section
def sdP (x L:Nat) (S:Sal) (kl:List Kn) (W:World) (o:Nat->Prop):Prop:=jey x L S kl W o/\kInv S kl
def sdQ (x L:Nat) (S:Sal) (kl:List Kn) (p:Stp) (r:Rep) (W:World) (o:Nat->Prop):Prop:=jey x L S kl W o/\kInv S (jcf kl p r)/\jfe kl p r/\kl.length<=4294967296
theorem qbl (x L:Nat) (S:Sal) (kl:List Kn):Keeps (sdP x L S kl):=⟨fun h=>(jf6 x L S kl).lt h.1,fun h hz hk=>⟨(jf6 x L S kl).keep h.1 hz hk,h.2⟩⟩
theorem qak (x L:Nat) (S:Sal) (kl:List Kn) (p:Stp) (r:Rep):Keeps (sdQ x L S kl p r):=⟨fun h=>(jf6 x L S kl).lt h.1,fun h hz hk=>⟨(jf6 x L S kl).keep h.1 hz hk,h.2⟩⟩
section
variable {x L:Nat} {S:Sal} {kl:List Kn} {W:World} {o:Nat->Prop}
theorem qbx (h:sdP x L S kl W o) (p:Stp) (hf:p.fine) :
 Calls Tryz.prog 15 #[pt x 0,p.val] W fun e w'=>e=.returned (.tuple #[(S.does p).1.val,.bool true])/\jar (sdQ x L (S.does p).2 kl p (S.does p).1) W w' o:=by
 obtain ⟨hs,hI⟩:=h
 obtain ⟨o1,o2,a1,a2,a3,a4⟩:=id hs
 obtain ⟨k1,k2⟩:=jt0 hI a1.J.I.now a1.I.os p
 have hl:kl.length<=4294967296:=by rw [hI.kn.len];exact a1.J.len
 refine (onS (fun W o hq=>jsa hq p hf) W o hs).mono ?_
 rintro e w' ⟨rfl,hq⟩
 exact ⟨rfl,jc4 hq (fun _ _ h=>⟨h,k1,k2,hl⟩)⟩
theorem jzb {p:Stp} {r:Rep} (h:sdQ x L S kl p r W o) :
 Calls Tryz.prog 16 #[pt L 0,.agg #[iv p.k,iv p.t,iv p.c,iv p.u,iv p.o],.agg #[iv r.kind,iv r.order,iv r.cents,iv r.upto]] W fun e w'=>e=.returned (.bool true)/\jar (sdP x L S (jcf kl p r)) W w' o:=by
 obtain ⟨hs,k1,k2,k3⟩:=h
 refine (onL (fun W o hq=>qbn hq k3 k2) W o hs).mono ?_
 rintro e w' ⟨rfl,hq⟩
 exact ⟨rfl,jc4 hq (fun _ _ h=>⟨h,k1⟩)⟩
theorem jz2 (h:sdP x L S kl W o) (v3 v4 v5 v7 v8:Value) :
 Calls Tryz.prog 14 #[.agg #[iv S.C.stock,iv S.C.cap,iv S.C.queue,v3,v4,v5,iv S.C.tokens,v7,v8],pt x 0,pt L 0] W fun e w'=>e=.returned (.bool true)/\jar (sdP x L S kl) W w' o:=by
 refine (qc9 h.2 v3 v4 v5 v7 v8 W o h.1).mono ?_
 rintro e w' ⟨rfl,hq⟩
 exact ⟨rfl,jc4 hq (fun _ _ h'=>⟨h',h.2⟩)⟩
end
theorem jsu {S:Sal} (h1:S.os=[]) (h2:S.ansL=[]) (hc:0<=S.C.cap) (hq:0<=S.C.queue) (ht:0<=S.C.tokens):kInv S []:=by
 refine ⟨⟨by rw [h1];rfl,fun i hi=>by rw [h1] at hi;simp at hi⟩,fun a ha=>by rw [h2] at ha;simp at ha,fun c _=>by rw [h1];exact hc,by rw [h1];exact hq,?_,fun i hi=>by rw [h1] at hi;simp at hi⟩
 unfold Sal.answers
 rw [h2]
 exact ht
theorem jte {W:World} {L:Nat} (h:W.heap[L]?=some (.cells #[.slice none 0 0] 39 (0,0))):jgx L [] W (fun k=>k=L) :=
 ⟨none,0,h,⟨rfl,.inl ⟨rfl,rfl⟩⟩,fun k=>by simp [Value.ownBlock]⟩
end
theorem jta (n:Nat) (v0 v1 v2 v3 v4 v5 v6 v7:Value) (sa:Option Addr) (sc:Nat) (ps:List Stp) (w:World) (Q:Nat->World->(Nat->Prop)->Prop) (KQ:∀ x,Keeps (Q x)) (P Pm:Nat->Nat->Nat->World->(Nat->Prop)->Prop) (KP:∀ a b j,Keeps (P a b j)) (KPm:∀ a b j,Keeps (Pm a b j)) (rep:Nat->Rep) (hn:n<=4611686018427387904) (hps:stepsAt w sa n ps)
 (HO:Hid (∀ W,Below w.heap.size w W->Calls Tryz.prog 13 #[.agg #[v0,v1,v2,v3,v4,v5,v6,v7,.slice sa n sc]] W fun e w'=>∃ x own,e=.returned (.tuple #[pt x 0,.bool true])/\Q x w' own/\(∀ k,own k->W.heap.size<=k)/\Below W.heap.size W w'))
 (HP0:Hid (∀ a L W o1 o,Q a W o1->W.heap[L]?=some (.cells #[.slice none 0 0] 39 (0,0))->(∀ k,o1 k->k≠L)->(∀ k,o k↔o1 k\/k=L)->P a L 0 W o))
 (HSd:Hid (∀ a b j,j<=n->∀ W o,P a b j W o->Calls Tryz.prog 14 #[.agg #[v0,v1,v2,v3,v4,v5,v6,v7,.slice sa n sc],pt a 0,pt b 0] W fun e w'=>e=.returned (.bool true)/\jar (P a b j) W w' o))
 (HDa:Hid (∀ a b j,j<n->∀ W o,P a b j W o->Calls Tryz.prog 15 #[pt a 0,.agg #[iv (ps.getD j jkc).n,iv (ps.getD j jkc).k,iv (ps.getD j jkc).t,iv (ps.getD j jkc).c,iv (ps.getD j jkc).u,iv (ps.getD j jkc).o]] W fun e w'=>e=.returned (.tuple #[.agg #[iv (rep j).kind,iv (rep j).order,iv (rep j).cents,iv (rep j).upto],.bool true])/\jar (Pm a b j) W w' o))
 (HHe:Hid (∀ a b j,j<n->∀ W o,Pm a b j W o->Calls Tryz.prog 16 #[pt b 0,.agg #[iv (ps.getD j jkc).k,iv (ps.getD j jkc).t,iv (ps.getD j jkc).c,iv (ps.getD j jkc).u,iv (ps.getD j jkc).o],.agg #[iv (rep j).kind,iv (rep j).order,iv (rep j).cents,iv (rep j).upto]] W fun e w'=>e=.returned (.bool true)/\jar (P a b (j+1)) W w' o)) :
 Calls Tryz.prog 9 #[.agg #[v0,v1,v2,v3,v4,v5,v6,v7,.slice sa n sc]] w fun e w'=>e=.returned (.bool true)/\Below w.heap.size w w':=by
 have hlen:ps.length=n:=hps.1
 go_enter Tryz.func9,Tryz.ntmps9
 go_wp2_with fail
 refine (HO.out _ ((Below.refl _ _).alloc (Nat.le_refl _) _)).mono ?_
 rintro e W1 ⟨xa,oa,rfl,hqa,hfa,b1⟩
 have hb1:Below w.heap.size w W1:=Below.trans ((Below.refl _ _).alloc (Nat.le_refl _) _) (b1.mono (by simp))
 have x1:Hid _:=(b1.block w.heap.size (by simp)).trans (heap_alloc_new w (.cells #[v0,v1,v2,v3,v4,v5,v6,v7,.slice sa n sc] 32))
 have hfa1:∀ k,oa k->w.heap.size+1<=k:=fun k e=>Nat.le_trans (by simp) (hfa k e)
 obtain ⟨k0,k1,k2,k3,k4,k5,k6,k7,k8⟩:=jin x1.out
 have l1:w.heap.size<W1.heap.size:=(blt x1.out)
 replace hqa:Hid _:=hqa
 replace hfa1:Hid _:=hfa1
 replace hb1:Hid _:=hb1
 clear b1 hfa
 go_wp2_with fail
 clear k0 k1 k2 k3 k4 k5 k6 k7 k8
 have hb2:Hid (Below w.heap.size w (W1.alloc (.cells #[.slice none 0 0] 39))):=hb1.out.alloc hb1.out.size _
 have x2:Hid ((W1.alloc (.cells #[.slice none 0 0] 39)).heap[w.heap.size]?=some (.cells #[v0,v1,v2,v3,v4,v5,v6,v7,.slice sa n sc] 32 (0,0))):=(Below.heap_alloc _ _ _ l1).trans x1.out
 obtain ⟨own2,hiff⟩:∃ own2:Nat->Prop,∀ k,own2 k↔oa k\/k=W1.heap.size:=⟨fun k=>oa k\/k=W1.heap.size,fun _=>Iff.rfl⟩
 have hown:Hid (∀ k,own2 k->w.heap.size+1<=k):=fun k e=>((hiff k).1 e).elim (hfa1.out k) (fun e=>by omega)
 have hp2:Hid (P xa W1.heap.size 0 (W1.alloc (.cells #[.slice none 0 0] 39)) own2):=HP0.out xa W1.heap.size (W1.alloc (.cells #[.slice none 0 0] 39)) oa own2 ((KQ xa).keep hqa.out (by simp) (fun k e=>Below.heap_alloc _ _ _ ((KQ xa).lt hqa.out k e))) (heap_alloc_new W1 _) (fun k e c=>by have:=(KQ xa).lt hqa.out k e;omega) hiff
 generalize W1.alloc (.cells #[.slice none 0 0] 39)=W2 at hb2 x2 hp2 ⊢
 generalize hxb:W1.heap.size=xb at hp2 ⊢
 have l2:w.heap.size<W2.heap.size:=(blt x2.out)
 have HS2:Hid (∀ W,Same own2 W2 W->stepsAt W sa n ps):=fun W hs=>⟨hps.1,fun hne=>by
  obtain ⟨b,off,e,hb,hc⟩:=hps.2 hne
  have hbW:=hb2.out.block b hb
  have hk:=(hs.block b (by omega) (fun c=>by have:=hown.out b c;omega)).trans hbW
  exact ⟨b,off,e,by have:=hs.size;omega,fun i hi=>jnd (hc i hi) hk⟩⟩
 have HX2:Hid (∀ W,Same own2 W2 W->W.heap[w.heap.size]?=some (.cells #[v0,v1,v2,v3,v4,v5,v6,v7,.slice sa n sc] 32 (0,0))):=fun W hs=>(hs.block _ l2 (fun e=>by have:=hown.out _ e;omega)).trans x2.out
 have HD2:Hid (∀ b off,sa=some (aq b off)->ps≠[]->¬ own2 b):=fun b off e hne c=>by
  obtain ⟨b',off',e',hb,_⟩:=hps.2 hne
  rw [e] at e'
  simp only [Option.some.injEq,Addr.mk.injEq] at e'
  have:=hown.out b c
  omega
 have HE2:Hid (∀ W,jar (P xa xb n) W2 W own2->Below w.heap.size w W):=fun W h=>by
  obtain ⟨_,_,hs,_⟩:=h
  exact hb2.out.trans (hs.toBelow hb2.out.size (fun k e=>by have:=hown.out k e;omega))
 have HW2:Hid (∀ k,own2 k->k<W2.heap.size):=(KP xa xb 0).lt hp2.out
 obtain ⟨k0,k1,k2,k3,k4,k5,k6,k7,k8⟩:=jin x2.out
 clear hqa hfa1 hb1 x1 hown l1 hiff hxb
 go_wp2_with fail
 have hT2:Hid (ja9 (P xa xb 0) W2 own2 (fun _=>False) W2):=jaj (KP xa xb 0) hp2.out (Below.refl _ _) (fun _ e=>e.elim)
 refine (ja6 (loc:=fun _=>False) HW2.out (HSd.out xa xb 0 (Nat.zero_le _)) W2 hT2.out).mono ?_
 rintro e W3 ⟨rfl,hT3,_⟩
 clear k0 k1 k2 k3 k4 k5 k6 k7 k8 hT2
 replace hT3:Hid _:=hT3
 go_wp2_with fail
 go_loopw [6] (fun i wr=>∃ j:Nat,j<=n/\i=iv j/\Hid (ja9 (P xa xb j) W2 own2 (fun _=>False) wr)) (fun i _=>n - (intOf i).toNat)
 case atStart=>exact ⟨0,Nat.zero_le _,rfl,hT3⟩
 case round =>
  obtain ⟨j,hj,rfl,HK⟩:=hrel
  clear hT3 hp2 HP0 HO hb2 x2 l2
  have HXj:Hid _:=HX2.out
  by_cases hlt:j<n
  ·obtain ⟨b,off,hsa,_,_⟩:=(HS2.out wr (jau HK.out)).2 (by intro e;rw [e] at hlen;simp at hlen;omega)
   have HDaj:Hid _:=ja6 (loc:=fun _=>False) HW2.out (HDa.out xa xb j hlt)
   have HHj:Hid (∀ pz W,ja9 (Pm xa xb j) W2 own2 (fun k=>False\/k=pz) W->_):=fun pz W hW=>ja6 (loc:=fun k=>False\/k=pz) HW2.out (HHe.out xa xb j hlt) W hW
   have HSj1:Hid (∀ pz W,ja9 (P xa xb (j+1)) W2 own2 (fun k=>False\/k=pz) W->_):=fun pz W hW=>ja6 (loc:=fun k=>False\/k=pz) HW2.out (HSd.out xa xb (j+1) hlt) W hW
   have bj0:(0:Int)<=(j:Int):=by omega
   have bj1:(j:Int)<(n:Int):=by omega
   have hwj:IntKind.i64.wrap ((j:Int)+1)=(j:Int)+1:=jag (by omega) (by omega)
   have HSj:Hid (∀ W,Same own2 W2 W->b<W.heap.size/\jx1 W b (off+j * 6) (ps.getD j jkc)):=by
    intro W hs
    obtain ⟨b',off',e,hb',hc⟩:=(HS2.out W hs).2 (by intro e;rw [e] at hlen;simp at hlen;omega)
    rw [hsa] at e
    simp only [Option.some.injEq,Addr.mk.injEq] at e
    obtain ⟨rfl,rfl,_⟩:=e
    exact ⟨hb',hc j hlt⟩
   have KPj:=KP xa xb j
   have KMj:=KPm xa xb j
   have KPj1:=KP xa xb (j+1)
   have HNX:Hid (∀ wr',ja9 (P xa xb (j+1)) W2 own2 (fun _=>False) wr'->∃ j':Nat,j'<=n/\Value.int .i64 ((j:Int)+1)=iv j'/\Hid (ja9 (P xa xb j') W2 own2 (fun _=>False) wr')):=fun wr' h=>⟨j+1,by omega,by simp,h⟩
   generalize ps.getD j jkc=pj at HDaj HHj HSj
   obtain ⟨pn,pk,pt,pc,pu,po⟩:=pj
   generalize rep j=rj at HDaj HHj
   obtain ⟨r1,r2,r3,r4⟩:=rj
   simp only at HDaj HHj HSj
   subst hsa
   clear HDa HHe HSd HS2 HX2 HD2 HE2
   generalize P xa xb j=Pj at HK HDaj KPj
   generalize Pm xa xb j=Mj at HDaj HHj KMj
   generalize P xa xb (j+1)=Pj1 at HHj HSj1 KPj1 HNX
   obtain ⟨k0,k1,k2,k3,k4,k5,k6,k7,k8⟩:=jin (HXj.out wr (jau HK.out))
   obtain ⟨hb,s0,s1,s2,s3,s4,s5⟩:=HSj.out wr (jau HK.out)
   have lx:w.heap.size<wr.heap.size:=(Array.getElem?_eq_some_iff.1 (HXj.out wr (jau HK.out))).1
   go_wp2_with fail
   refine (HDaj.out _ (ja4 KPj HK.out bL)).mono ?_
   rintro e V2 ⟨rfl,hV2,hk⟩
   clear k0 k1 k2 k3 k4 k5 k6 k7 k8 hb s0 s1 s2 s3 s4 s5 lx
   obtain ⟨k0,k1,k2,k3,k4,k5,k6,k7,k8⟩:=jin (HXj.out V2 (jau hV2))
   obtain ⟨hb,s0,s1,s2,s3,s4,s5⟩:=HSj.out V2 (jau hV2)
   have lx:w.heap.size<V2.heap.size:=(Array.getElem?_eq_some_iff.1 (HXj.out V2 (jau hV2))).1
   have hU2:Hid (ja9 Mj W2 own2 (fun k=>False\/k=V2.heap.size) (V2.alloc (.cells #[iv r1,iv r2,iv r3,iv r4] 42))):=jaf KMj hV2 _
   have p2:Hid ((V2.alloc (.cells #[iv r1,iv r2,iv r3,iv r4] 42)).heap[V2.heap.size]?=some (.cells #[iv r1,iv r2,iv r3,iv r4] 42 (0,0))):=heap_alloc_new V2 _
   clear hk HK HDaj hV2
   go_wp2_with fail
   generalize V2.alloc (.cells #[iv r1,iv r2,iv r3,iv r4] 42)=U2 at hU2 p2 ⊢
   clear k0 k1 k2 k3 k4 k5 k6 k7 k8 hb s0 s1 s2 s3 s4 s5 lx
   generalize V2.heap.size=pz at hU2 p2 ⊢
   obtain ⟨k0,k1,k2,k3,k4,k5,k6,k7,k8⟩:=jin (HXj.out U2 (jau hU2.out))
   obtain ⟨hb,s0,s1,s2,s3,s4,s5⟩:=HSj.out U2 (jau hU2.out)
   have lx:w.heap.size<U2.heap.size:=(Array.getElem?_eq_some_iff.1 (HXj.out U2 (jau hU2.out))).1
   obtain ⟨e0,e1,e2,e3⟩:=jf2 p2.out
   have lp2:pz<U2.heap.size:=(blt p2.out)
   go_region_held3 (fun w'=>(w'.cell? (aq w.heap.size 8)=some (.slice (some (aq b off)) n sc)/\w'.cell? (aq b (off+j * 6+1))=some (iv pk)/\w'.cell? (aq b (off+j * 6+2))=some (iv pt)/\w'.cell? (aq b (off+j * 6+3))=some (iv pc)/\w'.cell? (aq b (off+j * 6+4))=some (iv pu)/\w'.cell? (aq b (off+j * 6+5))=some (iv po))/\w'.cell? (aq pz 0)=some (iv r1)/\w'.cell? (aq pz 1)=some (iv r2)/\w'.cell? (aq pz 2)=some (iv r3)/\w'.cell? (aq pz 3)=some (iv r4)) (simp [go_sem, *])
    (first
      | (go_at_call 16;refine (HHj.out _ _ (ja4 KMj hU2.out bL)).mono ?_;rintro e V3 ⟨rfl,hV3,hk⟩
         have p3:Hid _:=(hk _ (.inr rfl)).trans p2.out
         obtain ⟨f0,f1,f2,f3⟩:=jf2 p3.out
         obtain ⟨j0,j1,j2,j3,j4,j5,j6,j7,j8⟩:=jin (HXj.out V3 (jau hV3))
         obtain ⟨ib,i0,i1,i2,i3,i4,i5⟩:=HSj.out V3 (jau hV3)))
   clear k0 k1 k2 k3 k4 k5 k6 k7 k8 hb s0 s1 s2 s3 s4 s5 lx
   obtain ⟨k0,k1,k2,k3,k4,k5,k6,k7,k8⟩:=jin (HXj.out V3 (jau hV3))
   obtain ⟨hb,s0,s1,s2,s3,s4,s5⟩:=HSj.out V3 (jau hV3)
   have lx:w.heap.size<V3.heap.size:=(Array.getElem?_eq_some_iff.1 (HXj.out V3 (jau hV3))).1
   replace hV3:Hid _:=hV3
   clear hk hU2 p2 HHj
   go_wp2_with fail
   refine (HSj1.out _ _ (ja4 KPj1 hV3.out bL)).mono ?_
   rintro e V4 ⟨rfl,hV4,_⟩
   clear k0 k1 k2 k3 k4 k5 k6 k7 k8 hb s0 s1 s2 s3 s4 s5 lx
   have hU4:Hid (ja9 Pj1 W2 own2 (fun _=>False) V4):=jbv hV4
   clear hV3 HSj1 hV4 HXj HSj
   go_wp2_with fail
   go_roundw
   case rel=>first|exact HNX.out _ (ja4 KPj1 hU4.out bL)|(rw [hwj];exact HNX.out _ (ja4 KPj1 hU4.out bL))
   case measure=>simp [intOf];omega
  ·have hje:j=n:=by omega
   subst hje
   obtain ⟨k0,k1,k2,k3,k4,k5,k6,k7,k8⟩:=jin (HX2.out wr (jau HK.out))
   have lx:w.heap.size<wr.heap.size:=(Array.getElem?_eq_some_iff.1 (HX2.out wr (jau HK.out))).1
   have hE:Hid (Below w.heap.size w wr):=HE2.out _ (jb7 HK.out)
   clear HSd HHe HDa HS2 HX2 HD2 HXj HE2
   go_wp2
   refine bodyPost_ret (v:=.bool true) (by simp [results,Tryz.results9,go_sem]) rfl ⟨rfl,bL⟩
theorem jub (v0 v1 v2 v3 v4 v5 v6 v7:Value) (sa:Option Addr) (n sc:Nat) (w:World)
 (HO:Hid (∀ W,Below w.heap.size w W->Calls Tryz.prog 13 #[.agg #[v0,v1,v2,v3,v4,v5,v6,v7,.slice sa n sc]] W fun e w'=>e=.returned (.tuple #[.pointer none,.bool true])/\Below W.heap.size W w')) :
 Calls Tryz.prog 9 #[.agg #[v0,v1,v2,v3,v4,v5,v6,v7,.slice sa n sc]] w fun e w'=>e=.returned (.bool true)/\Below w.heap.size w w':=by
 go_enter Tryz.func9,Tryz.ntmps9
 go_wp2_with fail
 refine (HO.out _ ((Below.refl _ _).alloc (Nat.le_refl _) _)).mono ?_
 rintro e W1 ⟨rfl,b1⟩
 have hb1:Hid (Below w.heap.size w W1):=Below.trans ((Below.refl _ _).alloc (Nat.le_refl _) _) (b1.mono (by simp))
 clear b1 HO
 go_wp2
 refine bodyPost_ret (v:=.bool true) (by simp [results,Tryz.results9,go_sem]) rfl ⟨rfl,bL⟩
end Go.Proofs.YtfhncfghblkgeaaGreat
