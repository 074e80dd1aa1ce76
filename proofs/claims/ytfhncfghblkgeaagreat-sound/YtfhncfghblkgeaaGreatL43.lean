import Derived.Test.YtfhncfghblkgeaaGreatL30
set_option maxRecDepth 100000
set_option maxHeartbeats 2000000
namespace Go.Proofs.YtfhncfghblkgeaaGreat
open Go.RowKit
structure Kn where
 cust:Int
 units:Int
 paid:Bool
def kn0:Kn:=⟨0,0,false⟩
def Kn.vals (k:Kn):List Value:=[iv k.cust,iv k.units,.bool k.paid]
def jfx (kl:List Kn):List Value:=kl.flatMap Kn.vals
def jgx (L:Nat) (kl:List Kn) (W:World) (o:Nat->Prop):Prop :=
 ∃ a c,W.heap[L]?=some (.cells #[.slice a kl.length c] 39 (0,0))/\W.ownsRow 0 85 3 (.slice a kl.length c) kl.length (jfx kl)/\(∀ k,o k↔k=L\/Value.ownBlock (.slice a kl.length c)=some k)
def jr2 (cust now:Int) (k:Kn) (r:Rep) (f g:Int × Int × Int × Int):Prop :=
 (cust≠0/\k.cust≠cust/\g=f) ∨
 ((cust=0\/k.cust=cust)/\((-4611686018427387904<=f.1/\f.1<=4611686018427387904)/\(-4611686018427387904<=f.2.1/\f.2.1<=4611686018427387904)/\(-4611686018427387904<=f.2.2.2/\f.2.2.2<=4611686018427387904)/\0<=k.units/\k.units<=4294967296) ∧
   ((k.paid=false/\r.kind=13/\now<r.upto/\g=(f.1+k.units,f.2.1,f.2.2.1,f.2.2.2)) ∨
    (k.paid=false/\r.kind=12/\now<r.upto/\g=(f.1,f.2.1,IntKind.i64.wrap (f.2.2.1+k.units),f.2.2.2+1)) ∨
    (k.paid=true/\r.kind=14/\g=(f.1,f.2.1+k.units,f.2.2.1,f.2.2.2)) ∨
    (k.paid=true/\r.kind≠12/\r.kind≠13/\r.kind≠14/\g=(f.1,f.2.1+k.units,f.2.2.1,f.2.2.2)) ∨
    (k.paid=false/\r.kind≠12/\r.kind≠13/\r.kind≠14/\g=f)))
theorem jvv (L x n:Nat) (cust now:Int) (w:World) (own:Nat->Prop) (P:World->(Nat->Prop)->Prop) (K:Keeps P) (h:P w own) (kn:Nat->Kn) (rep:Nat->Rep)
 (f:Nat->Int × Int × Int × Int) (hf0:f 0=(0,0,0,0)) (hn:n<=4294967296)
 (HX:Hid (∀ loc W,ja9 P w own loc W->∃ a c,L<W.heap.size/\W.cell? (aq L 0)=some (.slice a n c)/\∀ j,j<n->∃ b,a=some (aq b 0)/\b<W.heap.size/\W.cell? (aq b (j * 3))=some (iv (kn j).cust)/\W.cell? (aq b (j * 3+1))=some (iv (kn j).units)/\W.cell? (aq b (j * 3+2))=some (.bool (kn j).paid)))
 (HF:Hid (∀ j,j<n->jr2 cust now (kn j) (rep j) (f j) (f (j+1))))
 (HC:Hid (jc2 w own P P 19 #[pt x 0] (iv now)))
 (HP:Hid (∀ j,j<n->jc2 w own P P 37 #[pt x 0,iv (kn j).cust,iv ((j:Int)+1)] (.tuple #[.agg #[iv (rep j).kind,iv (rep j).order,iv (rep j).cents,iv (rep j).upto],.bool true]))) :
 Calls Tryz.prog 30 #[pt L 0,pt x 0,iv cust] w fun e w'=>e=.returned (.tuple #[.agg #[iv (f n).1,iv (f n).2.1,iv (f n).2.2.1,iv (f n).2.2.2],.bool true])/\jar P w w' own:=by
 have HW:Hid (∀ k,own k->k<w.heap.size):=K.lt h
 have hT0:Hid (ja9 P w own (fun k=>k=w.heap.size\/k=w.heap.size+1) ((w.alloc (.cells #[iv 0,iv 0,iv 0,iv 0] 81)).alloc (.cells #[iv 0,iv 0,iv 0,iv 0] 81))):=jaj K h (((Below.refl _ _).alloc (Nat.le_refl _) _).alloc (by simp) _) (fun k e=>by simp;omega)
 have rb0:Hid (((w.alloc (.cells #[iv 0,iv 0,iv 0,iv 0] 81)).alloc (.cells #[iv 0,iv 0,iv 0,iv 0] 81)).heap[w.heap.size]?=some (.cells #[iv 0,iv 0,iv 0,iv 0] 81 (0,0))):=(Below.heap_alloc _ _ _ (by simp)).trans (heap_alloc_new w _)
 have nb0:Hid (((w.alloc (.cells #[iv 0,iv 0,iv 0,iv 0] 81)).alloc (.cells #[iv 0,iv 0,iv 0,iv 0] 81)).heap[w.heap.size+1]?=some (.cells #[iv 0,iv 0,iv 0,iv 0] 81 (0,0))):=jcj w _ _
 clear h
 go_enter Tryz.func30,Tryz.ntmps30
 go_wp2_with fail
 generalize (w.alloc (.cells #[iv 0,iv 0,iv 0,iv 0] 81)).alloc (.cells #[iv 0,iv 0,iv 0,iv 0] 81)=W0 at hT0 rb0 nb0 ⊢
 refine (HC.out _ _ hT0.out).mono ?_
 rintro e W1 ⟨rfl,hT1,hk⟩
 have rb1:Hid _:=(hk _ (.inl rfl)).trans rb0.out
 have nb1:Hid _:=(hk _ (.inr rfl)).trans nb0.out
 replace hT1:Hid _:=hT1
 clear hT0 rb0 nb0 hk HC
 go_wp2_with fail
 go_loopw [10] (fun i wr=>∃ j:Nat,j<=n/\i=iv j/\Hid (ja9 P w own (fun k=>k=w.heap.size\/k=w.heap.size+1) wr)/\Hid (wr.heap[w.heap.size]?=some (.cells #[iv 0,iv 0,iv 0,iv 0] 81 (0,0)))/\Hid (wr.heap[w.heap.size+1]?=some (.cells #[iv (f j).1,iv (f j).2.1,iv (f j).2.2.1,iv (f j).2.2.2] 81 (0,0)))) (fun i _=>n - (intOf i).toNat)
 case atStart=>exact ⟨0,Nat.zero_le _,rfl,hT1,rb1,by rw [hf0];exact nb1⟩
 case round =>
  obtain ⟨j,hj,rfl,HK,rb,nb⟩:=hrel
  clear hT1 rb1 nb1
  by_cases hlt:j<n
  ·obtain ⟨a,ca,hL,cL,hrow⟩:=HX.out _ _ HK.out
   obtain ⟨g,rfl,hg,c0,c1,c2⟩:=hrow j hlt
   have HPj:Hid _:=HP.out j hlt
   have b0:(0:Int)<=(j:Int):=by omega
   have b1:(j:Int)<(n:Int):=by omega
   have hwj:IntKind.i64.wrap ((j:Int)+1)=(j:Int)+1:=jag (by omega) (by omega)
   clear hrow HX HP
   have HFj:Hid _:=HF.out j hlt
   have HNX:Hid (∀ wr',ja9 P w own (fun k=>k=w.heap.size\/k=w.heap.size+1) wr'->wr'.heap[w.heap.size]?=some (.cells #[iv 0,iv 0,iv 0,iv 0] 81 (0,0))->wr'.heap[w.heap.size+1]?=some (.cells #[iv (f (j+1)).1,iv (f (j+1)).2.1,iv (f (j+1)).2.2.1,iv (f (j+1)).2.2.2] 81 (0,0))->∃ j':Nat,j'<=n/\Value.int .i64 ((j:Int)+1)=iv j'/\Hid (ja9 P w own (fun k=>k=w.heap.size\/k=w.heap.size+1) wr')/\Hid (wr'.heap[w.heap.size]?=some (.cells #[iv 0,iv 0,iv 0,iv 0] 81 (0,0)))/\Hid (wr'.heap[w.heap.size+1]?=some (.cells #[iv (f j').1,iv (f j').2.1,iv (f j').2.2.1,iv (f j').2.2.2] 81 (0,0)))):=fun wr' h1 h2 h3=>⟨j+1,by omega,by simp,h1,h2,h3⟩
   generalize kn j=kj at c0 c1 c2 HPj HFj
   obtain ⟨kc,ku,kp⟩:=kj
   generalize rep j=rj at HPj HFj
   obtain ⟨rk,ro,rc,ru⟩:=rj
   simp only at c0 c1 c2 HPj HFj
   generalize f j=fj at nb HFj
   obtain ⟨f0,f1,f2,f3⟩:=fj
   generalize f (j+1)=fj' at HNX HFj
   obtain ⟨g0,g1,g2,g3⟩:=fj'
   simp only at nb HFj HNX
   have hTa:Hid (ja9 P w own (fun k=>(k=w.heap.size\/k=w.heap.size+1)\/k=wr.heap.size) (wr.alloc (.cells #[iv kc,iv ku,.bool kp] 85))):=jaf K HK.out _
   have lrb:w.heap.size<wr.heap.size:=(blt rb.out)
   have lnb:w.heap.size+1<wr.heap.size:=(blt nb.out)
   have rba:Hid ((wr.alloc (.cells #[iv kc,iv ku,.bool kp] 85)).heap[w.heap.size]?=some (.cells #[iv 0,iv 0,iv 0,iv 0] 81 (0,0))):=(Below.heap_alloc _ _ _ lrb).trans rb.out
   have nba:Hid ((wr.alloc (.cells #[iv kc,iv ku,.bool kp] 85)).heap[w.heap.size+1]?=some (.cells #[iv f0,iv f1,iv f2,iv f3] 81 (0,0))):=(Below.heap_alloc _ _ _ lnb).trans nb.out
   have oba:Hid ((wr.alloc (.cells #[iv kc,iv ku,.bool kp] 85)).heap[wr.heap.size]?=some (.cells #[iv kc,iv ku,.bool kp] 85 (0,0))):=heap_alloc_new wr _
   have hdrop:∀ {W':World} {l:Nat->Prop},(∀ k,(k=w.heap.size\/k=w.heap.size+1)->l k)->ja9 P w own l W'->ja9 P w own (fun k=>k=w.heap.size\/k=w.heap.size+1) W':=fun hl hh=>by
    obtain ⟨o1,a1,a2,a3,a4⟩:=hh
    exact ⟨o1,a1,a2,fun k e=>(a3 k e).imp id (fun c=>⟨c.1,fun d=>c.2 (hl k d)⟩),fun k e=>a4 k (hl k e)⟩
   replace hdrop:Hid _:=@hdrop
   rcases HFj.out with ⟨hs1,hs2,e0⟩|⟨hs,hb,hcase⟩
   ·have d1:(cust != 0)=true:=by simpa using hs1
    have d2:(kc != cust)=true:=by simpa using hs2
    simp only [Prod.mk.injEq] at e0
    obtain ⟨rfl,rfl,rfl,rfl⟩:=e0
    clear HPj HFj
    go_wp2_with fail
    go_roundw
    case rel=>first|exact HNX.out _ (hdrop.out (fun k e=>.inl e) (ja4 K hTa.out bL)) rba.out nba.out|(rw [hwj];exact HNX.out _ (hdrop.out (fun k e=>.inl e) (ja4 K hTa.out bL)) rba.out nba.out)
    case measure=>simp [intOf];omega
   ·have hoz1:wr.heap.size≠w.heap.size:=by omega
    have hoz2:wr.heap.size≠w.heap.size+1:=by omega
    have dsk:(cust != 0)=false\/((cust != 0)=true/\(kc != cust)=false):=by
     by_cases e:cust=0
     ·exact .inl (by simp [e])
     ·exact .inr ⟨by simpa using e,by simpa using hs.resolve_left e⟩
    have CALL:Hid (∀ W,ja9 P w own (fun k=>(k=w.heap.size\/k=w.heap.size+1)\/k=wr.heap.size) W->Calls Tryz.prog 37 #[pt x 0,iv kc,iv ((j:Int)+1)] W fun e w'=>e=.returned (.tuple #[.agg #[iv rk,iv ro,iv rc,iv ru],.bool true])/\ja9 P w own (fun k=>(k=w.heap.size\/k=w.heap.size+1)\/k=wr.heap.size) w'/\∀ b,((b=w.heap.size\/b=w.heap.size+1)\/b=wr.heap.size)->w'.heap[b]?=W.heap[b]?):=fun W hW=>HPj.out _ W hW
    clear HPj HFj hs
    rcases dsk with d1|⟨d1,d2⟩
    all_goals
     go_wp2_with fail
     generalize wr.alloc (.cells #[iv kc,iv ku,.bool kp] 85)=Wa at hTa rba nba oba ⊢
     refine (CALL.out _ (ja4 K hTa.out bL)).mono ?_
     rintro e W2 ⟨rfl,hT2,hk⟩
     have rb2:Hid _:=(hk _ (.inl (.inl rfl))).trans rba.out
     have nb2:Hid _:=(hk _ (.inl (.inr rfl))).trans nba.out
     have ob2:Hid _:=(hk _ (.inr rfl)).trans oba.out
     have hT3:Hid (ja9 P w own (fun k=>k=w.heap.size\/k=w.heap.size+1) (W2.alloc (.cells #[iv rk,iv ro,iv rc,iv ru] 42))):=hdrop.out (fun k e=>.inl (.inl e)) (jaf K hT2 _)
     have hT2d:Hid (ja9 P w own (fun k=>k=w.heap.size\/k=w.heap.size+1) W2):=hdrop.out (fun k e=>.inl e) hT2
     have lr2:w.heap.size<W2.heap.size:=(blt rb2.out)
     have ln2:w.heap.size+1<W2.heap.size:=(blt nb2.out)
     have lo2:wr.heap.size<W2.heap.size:=(blt ob2.out)
     have rb3:Hid ((W2.alloc (.cells #[iv rk,iv ro,iv rc,iv ru] 42)).heap[w.heap.size]?=_):=(Below.heap_alloc _ _ _ lr2).trans rb2.out
     have nb3:Hid ((W2.alloc (.cells #[iv rk,iv ro,iv rc,iv ru] 42)).heap[w.heap.size+1]?=_):=(Below.heap_alloc _ _ _ ln2).trans nb2.out
     have ob3:Hid ((W2.alloc (.cells #[iv rk,iv ro,iv rc,iv ru] 42)).heap[wr.heap.size]?=_):=(Below.heap_alloc _ _ _ lo2).trans ob2.out
     have pb3:Hid ((W2.alloc (.cells #[iv rk,iv ro,iv rc,iv ru] 42)).heap[W2.heap.size]?=some (.cells #[iv rk,iv ro,iv rc,iv ru] 42 (0,0))):=heap_alloc_new W2 _
     clear hk hT2 hTa rba nba oba CALL
     have hp1:W2.heap.size≠w.heap.size:=by omega
     have hp2:W2.heap.size≠w.heap.size+1:=by omega
     have hp3:W2.heap.size≠wr.heap.size:=by omega
     obtain ⟨m0,m1,m2,m3⟩:=jf2 nb2.out
     obtain ⟨o0,o1,o2⟩:=jbm ob2.out
     have z0:=ja0 nb2.out 0
     have z1:=ja0 nb2.out 1
     have z2:=ja0 nb2.out 2
     have z3:=ja0 nb2.out 3
     obtain ⟨⟨hb0,hb0'⟩,⟨hb1,hb1'⟩,⟨hb3,hb3'⟩,hb4,hb4'⟩:=hb
     have w0:IntKind.i64.wrap (f0+ku)=f0+ku:=jag (by omega) (by omega)
     have w1:IntKind.i64.wrap (f1+ku)=f1+ku:=jag (by omega) (by omega)
     generalize w2:IntKind.i64.wrap (f2+ku)=q2 at hcase
     have w3:IntKind.i64.wrap (f3+1)=f3+1:=jag (by omega) (by omega)
     clear hb0 hb0' hb1 hb1' hb3 hb3' hb4 hb4'
     rcases hcase with ⟨rfl,rfl,hu,e⟩|⟨rfl,rfl,hu,e⟩|⟨rfl,rfl,e⟩|⟨rfl,k12,k13,k14,e⟩|⟨rfl,k12,k13,k14,e⟩
     all_goals
      simp only [Prod.mk.injEq] at e
      obtain ⟨rfl,rfl,rfl,rfl⟩:=e
     ·have hu':¬ ru<=now:=by omega
      go_wp2_with fail
      go_roundw
      case rel=>first|exact HNX.out _ (hdrop.out (fun k e=>.inl e) (jaf K (jaq K hT2d.out HW.out (.inr rfl) _) _)) ((Below.heap_alloc _ _ _ (by simpa [World.setCell] using lr2)).trans ((Below.heap_setCell _ (aq (w.heap.size+1) 0) _ _ (by show w.heap.size≠w.heap.size+1;omega)).trans rb2.out)) ((Below.heap_alloc _ _ _ (by simpa [World.setCell] using ln2)).trans (Joins.block_setCell (i:=0) nb2.out _))|(rw [hwj];exact HNX.out _ (hdrop.out (fun k e=>.inl e) (jaf K (jaq K hT2d.out HW.out (.inr rfl) _) _)) ((Below.heap_alloc _ _ _ (by simpa [World.setCell] using lr2)).trans ((Below.heap_setCell _ (aq (w.heap.size+1) 0) _ _ (by show w.heap.size≠w.heap.size+1;omega)).trans rb2.out)) ((Below.heap_alloc _ _ _ (by simpa [World.setCell] using ln2)).trans (Joins.block_setCell (i:=0) nb2.out _)))
      case measure=>simp [intOf];omega
     ·have hu':¬ ru<=now:=by omega
      go_wp2_with fail
      go_roundw
      case rel=>first|exact HNX.out _ (hdrop.out (fun k e=>.inl e) (jaf K (jaq K (jaq K hT2d.out HW.out (.inr rfl) _) HW.out (.inr rfl) _) _)) ((Below.heap_alloc _ _ _ (by simpa [World.setCell] using lr2)).trans ((Below.heap_setCell _ (aq (w.heap.size+1) 3) _ _ (by show w.heap.size≠w.heap.size+1;omega)).trans ((Below.heap_setCell _ (aq (w.heap.size+1) 2) _ _ (by show w.heap.size≠w.heap.size+1;omega)).trans rb2.out))) ((Below.heap_alloc _ _ _ (by simpa [World.setCell] using ln2)).trans (Joins.block_setCell (i:=3) (Joins.block_setCell (i:=2) nb2.out _) _))|(rw [hwj];exact HNX.out _ (hdrop.out (fun k e=>.inl e) (jaf K (jaq K (jaq K hT2d.out HW.out (.inr rfl) _) HW.out (.inr rfl) _) _)) ((Below.heap_alloc _ _ _ (by simpa [World.setCell] using lr2)).trans ((Below.heap_setCell _ (aq (w.heap.size+1) 3) _ _ (by show w.heap.size≠w.heap.size+1;omega)).trans ((Below.heap_setCell _ (aq (w.heap.size+1) 2) _ _ (by show w.heap.size≠w.heap.size+1;omega)).trans rb2.out))) ((Below.heap_alloc _ _ _ (by simpa [World.setCell] using ln2)).trans (Joins.block_setCell (i:=3) (Joins.block_setCell (i:=2) nb2.out _) _)))
      case measure=>simp [intOf];omega
     ·go_wp2_with fail
      go_roundw
      case rel=>first|exact HNX.out _ (hdrop.out (fun k e=>.inl e) (jaf K (jaq K hT2d.out HW.out (.inr rfl) _) _)) ((Below.heap_alloc _ _ _ (by simpa [World.setCell] using lr2)).trans ((Below.heap_setCell _ (aq (w.heap.size+1) 1) _ _ (by show w.heap.size≠w.heap.size+1;omega)).trans rb2.out)) ((Below.heap_alloc _ _ _ (by simpa [World.setCell] using ln2)).trans (Joins.block_setCell (i:=1) nb2.out _))|(rw [hwj];exact HNX.out _ (hdrop.out (fun k e=>.inl e) (jaf K (jaq K hT2d.out HW.out (.inr rfl) _) _)) ((Below.heap_alloc _ _ _ (by simpa [World.setCell] using lr2)).trans ((Below.heap_setCell _ (aq (w.heap.size+1) 1) _ _ (by show w.heap.size≠w.heap.size+1;omega)).trans rb2.out)) ((Below.heap_alloc _ _ _ (by simpa [World.setCell] using ln2)).trans (Joins.block_setCell (i:=1) nb2.out _)))
      case measure=>simp [intOf];omega
     ·have e12:(rk==12)=false:=by simpa using k12
      have e13:(rk==13)=false:=by simpa using k13
      have e14:(rk==14)=false:=by simpa using k14
      go_wp2_with fail
      go_roundw
      case rel=>first|exact HNX.out _ (hdrop.out (fun k e=>.inl e) (jaf K (jaq K hT2d.out HW.out (.inr rfl) _) _)) ((Below.heap_alloc _ _ _ (by simpa [World.setCell] using lr2)).trans ((Below.heap_setCell _ (aq (w.heap.size+1) 1) _ _ (by show w.heap.size≠w.heap.size+1;omega)).trans rb2.out)) ((Below.heap_alloc _ _ _ (by simpa [World.setCell] using ln2)).trans (Joins.block_setCell (i:=1) nb2.out _))|(rw [hwj];exact HNX.out _ (hdrop.out (fun k e=>.inl e) (jaf K (jaq K hT2d.out HW.out (.inr rfl) _) _)) ((Below.heap_alloc _ _ _ (by simpa [World.setCell] using lr2)).trans ((Below.heap_setCell _ (aq (w.heap.size+1) 1) _ _ (by show w.heap.size≠w.heap.size+1;omega)).trans rb2.out)) ((Below.heap_alloc _ _ _ (by simpa [World.setCell] using ln2)).trans (Joins.block_setCell (i:=1) nb2.out _)))
      case measure=>simp [intOf];omega
     ·have e12:(rk==12)=false:=by simpa using k12
      have e13:(rk==13)=false:=by simpa using k13
      have e14:(rk==14)=false:=by simpa using k14
      go_wp2_with fail
      go_roundw
      case rel=>first|exact HNX.out _ (hT3.out) (rb3.out) (nb3.out)|(rw [hwj];exact HNX.out _ (hT3.out) (rb3.out) (nb3.out))
      case measure=>simp [intOf];omega
  ·have hje:j=n:=by omega
   subst hje
   obtain ⟨a,ca,hL,cL,_⟩:=HX.out _ _ HK.out
   obtain ⟨m0,m1,m2,m3⟩:=jf2 nb.out
   obtain ⟨z0,z1,z2,z3⟩:=jf2 rb.out
   have q0:=ja0 rb.out 0
   have q1:=ja0 rb.out 1
   have q2:=ja0 rb.out 2
   have q3:=ja0 rb.out 3
   have lr:w.heap.size<wr.heap.size:=(blt rb.out)
   have ln:w.heap.size+1<wr.heap.size:=(blt nb.out)
   have HE:Hid (∀ v0 v1 v2 v3,jar P w ((((wr.setCell (aq w.heap.size 0) v0).setCell (aq w.heap.size 1) v1).setCell (aq w.heap.size 2) v2).setCell (aq w.heap.size 3) v3) own):=fun v0 v1 v2 v3=>jb7 (jbi K HK.out HW.out (.inl rfl) v0 v1 v2 v3)
   clear HX HP HF HK nb rb
   go_wp2
   refine bodyPost_ret (v:=.tuple #[.agg #[iv (f j).1,iv (f j).2.1,iv (f j).2.2.1,iv (f j).2.2.2],.bool true]) (by simp [results,Tryz.results30,go_sem,z0,z1,z2,z3]) rfl ⟨rfl,?_⟩
   exact HE.out _ _ _ _
end Go.Proofs.YtfhncfghblkgeaaGreat
