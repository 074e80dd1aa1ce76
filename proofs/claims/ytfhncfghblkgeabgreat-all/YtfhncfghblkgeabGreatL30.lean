import Derived.Test.YtfhncfghblkgeabGreatL29
set_option maxRecDepth 100000
set_option maxHeartbeats 2000000
namespace Go.Proofs.YtfhncfghblkgeabGreat
open Go.RowKit
def Ord.wt (o:Ord):Nat:=if o.state=12 then 2 else if o.state=13 then 1 else 0
def zM (os:List Ord):Nat:=(os.map Ord.wt).sum
theorem Ob {os:List Ord} {i:Nat} (h:i<os.length) (o:Ord):zM (os.set i o)+(os.getD i qD).wt=zM os+o.wt:=by
 have e:os=os.take i++os.getD i qD :: os.drop (i+1):=by
  have:=List.drop_eq_getElem_cons h
  have g:os.getD i qD=os[i]:=by simp [List.getD,uD h]
  rw [g,← this,List.take_append_drop]
 have e1:zM os=zM (os.take i)+((os.getD i qD).wt+zM (os.drop (i+1))):=by
  conv=>lhs;rw [e]
  simp [zM]
 have e2:zM (os.set i o)=zM (os.take i)+(o.wt+zM (os.drop (i+1))):=by
  rw [List.set_eq_take_append_cons_drop,uQ h]
  simp [zM]
 omega
theorem YP {o:Ord} {st now:Int} (h:st≠12/\st≠13):({ o with state:=st,ended:=now }:Ord).wt=0:=by
 unfold Ord.wt
 rw [uP h.1,uP h.2]
theorem Dp {S:Sal} {q:Nat} (hq:q<S.os.length) (hw:(S.os.getD q qD).state=12):zM (S.holds q).os<zM S.os:=by
 have h1:=Ob hq { S.os.getD q qD with state:=13,cents:=(S.put q { S.os.getD q qD with state:=13 }).price,upto:=S.now+S.C.lease }
 have h2:(S.os.getD q qD).wt=2:=by unfold Ord.wt;rw [uQ hw]
 have h3:({ S.os.getD q qD with state:=13,cents:=(S.put q { S.os.getD q qD with state:=13 }).price,upto:=S.now+S.C.lease }:Ord).wt=1:=by unfold Ord.wt;rw [uP (by show ¬ (13:Int)=12;decide),uQ rfl]
 show zM (S.os.set q _)<_
 omega
theorem rC:∀ (n:Nat) (S:Sal),zM (yJ n S).os<zM S.os\/yJ n S=S
 | 0,_=>.inr rfl
 | n+1,S=>by
   unfold yJ
   split
   ·exact .inr rfl
   ·next q qs hq =>
    split
    ·exact .inr rfl
    ·obtain ⟨_,hql,hqw⟩:=jY hq qD vO
     have h1:=Dp hql hqw
     rcases rC n (S.holds q) with h|h
     ·exact .inl uO
     ·rw [h];exact .inl h1
theorem bY (S:Sal):zM S.promote.os<zM S.os\/S.promote=S:=rC _ S
theorem tU {S:Sal} {i:Nat} (hi:i<S.os.length) {st en:Int} (hst:st=12\/st=13) (hs:(S.os.getD i qD).state=st) (hen:en≠12/\en≠13):zM (S.ends i en).os<zM S.os:=by
 have h1:=Ob hi { S.os.getD i qD with state:=en,ended:=S.now }
 have h2:1<=(S.os.getD i qD).wt:=by
  unfold Ord.wt
  rcases hst with rfl|rfl
  ·rw [uQ hs];omega
  ·rw [uP (by rw [hs];decide),uQ hs];omega
 rw [YP hen] at h1
 show zM (S.os.set i _)<_
 omega
theorem aR (S:Sal) {st en:Int} (hst:st=12\/st=13) (hen:en≠12/\en≠13):∀ k,k<=S.os.length->zM (zA S st en k).os<zM S.os\/zA S st en k=S
 | 0,_=>.inr rfl
 | k+1,hk=>by
   have ih:=aR S hst hen k uO
   unfold zA
   split
   ·next hc =>
    have h1:=tU (S:=zA S st en k) (i:=k) (by rw [jA];omega) hst hc.1 hen
    rcases ih with h|h
    ·exact .inl uO
    ·rw [h] at h1 ⊢;exact .inl h1
   ·exact ih
theorem Yp {S:Sal} {st en:Int} (hst:st=12\/st=13) (hen:en≠12/\en≠13) {i:Nat} (hi:i<S.os.length) (hs:(S.os.getD i qD).state=st) (hu:(S.os.getD i qD).upto=S.now):zM (zA S st en S.os.length).os<zM S.os:=by
 have key:∀ k,i<k->k<=S.os.length->zM (zA S st en k).os<zM S.os:=by
  intro k
  induction k with
  | zero=>intro h;omega
  | succ k ih =>
    intro h1 h2
    by_cases e:i<k
    ·have:=ih e uO
     unfold zA
     split
     ·next hc =>
      have:=tU (S:=zA S st en k) (i:=k) (by rw [jA];omega) hst hc.1 hen
      omega
     ·exact this
    ·have e':i=k:=uO
     subst e'
     rcases aR S hst hen i uO with h|h
     ·unfold zA
      split
      ·next hc =>
       have:=tU (S:=zA S st en i) (i:=i) (by rw [jA];omega) hst hc.1 hen
       omega
      ·exact h
     ·unfold zA
      rw [h,uQ ⟨hs,hu⟩]
      exact tU hi hst hs hen
 exact key _ hi (uA _)
theorem Jc (S:Sal) {st en:Int} (hst:st=12\/st=13) (hen:en≠12/\en≠13):zM (S.past st en).os<zM S.os\/S.past st en=S:=by
 unfold Sal.past
 rcases bY (zA S st en S.os.length) with h1|h1<;>rcases aR S hst hen _ (uA _) with h2|h2
 ·exact .inl uO
 ·rw [h2] at h1;exact .inl (by rw [h2];exact h1)
 ·rw [h1];exact .inl h2
 ·rw [h1,h2];exact .inr rfl
theorem bP {S:Sal} {st en:Int} (hst:st=12\/st=13) (hen:en≠12/\en≠13) {i:Nat} (hi:i<S.os.length) (hs:(S.os.getD i qD).state=st) (hu:(S.os.getD i qD).upto=S.now):zM (S.past st en).os<zM S.os:=by
 have h2:=Yp hst hen hi hs hu
 unfold Sal.past
 rcases bY (zA S st en S.os.length) with h1|h1
 ·omega
 ·rw [h1];exact h2
theorem tZ (os:List Ord) (to:Int):∀ k,k<=os.length->0<=cL os to k->∃ i,i<os.length/\((os.getD i qD).state=13\/(os.getD i qD).state=12)/\(os.getD i qD).upto=cL os to k/\cL os to k<=to
 | 0,_,h=>by simp [cL] at h
 | k+1,hk,h=>by
   have ih:=tZ os to k uO
   unfold cL at h ⊢
   split
   ·next hc=>exact ⟨k,uO,hc.1,rfl,hc.2.1⟩
   ·next hc=>rw [uP hc] at h;exact ih h
def Sal.round (S:Sal) (t:Int):Sal:=((({ S with now:=t }:Sal).past 13 15).past 12 17)
theorem cW {S:Sal} {to:Int} (h:0<=S.due to):zM (S.round (S.due to)).os<zM S.os:=by
 obtain ⟨i,hi,hs,hu,_⟩:=tZ S.os to S.os.length (uA _) h
 have hu':(S.os.getD i qD).upto=S.due to:=hu
 generalize S.due to=t at hu'
 unfold Sal.round
 have e2:=Jc (({ S with now:=t }:Sal).past 13 15) (st:=12) (en:=17) (.inl rfl) vO
 rcases hs with hs|hs
 ·have h1:=bP (S:={ S with now:=t }) (st:=13) (en:=15) (.inr rfl) vO hi hs hu'
  have h1':zM (({ S with now:=t }:Sal).past 13 15).os<zM S.os:=h1
  rcases e2 with h2|h2
  ·omega
  ·rw [h2];exact h1'
 ·rcases Jc ({ S with now:=t }:Sal) (st:=13) (en:=15) (.inr rfl) vO with h1|h1
  ·have h1':zM (({ S with now:=t }:Sal).past 13 15).os<zM S.os:=h1
   rcases e2 with h2|h2
   ·omega
   ·rw [h2];exact h1'
  ·rw [h1]
   exact bP (S:={ S with now:=t }) (st:=12) (en:=17) (.inl rfl) vO hi hs hu'
def gF:Nat->Sal->Int->Sal
 | 0,S,to=>{ S with now:=to }
 | n+1,S,to=>if S.due to<0 then { S with now:=to } else gF n (S.round (S.due to)) to
def Sal.tickTo (S:Sal) (to:Int):Sal:=gF (zM S.os) S to
theorem aH:∀ (n:Nat) (S:Sal) (to:Int),zM S.os<=n->gF n S to=gF (zM S.os) S to
 | 0,S,to,h=>by
   have e:zM S.os=0:=uO
   rw [e]
 | n+1,S,to,h=>by
   by_cases hd:S.due to<0
   ·rw [gF,uQ hd]
    cases hl:zM S.os with
    | zero=>rfl
    | succ m=>rw [gF,uQ hd]
   ·have hlt:=cW (S:=S) (to:=to) uO
    cases hl:zM S.os with
    | zero=>omega
    | succ m =>
      rw [gF,uP hd,gF,uP hd,aH n _ to uO,aH m _ to uO]
theorem Qe {S:Sal} {to:Int} (h:S.due to<0):S.tickTo to={ S with now:=to }:=by
 unfold Sal.tickTo
 cases zM S.os with
 | zero=>rfl
 | succ m=>rw [gF,uQ h]
theorem Ma {S:Sal} {to:Int} (h:¬ S.due to<0):S.tickTo to=(S.round (S.due to)).tickTo to:=by
 have hlt:=cW (S:=S) (to:=to) uO
 unfold Sal.tickTo
 cases hl:zM S.os with
 | zero=>omega
 | succ m=>rw [gF,uP h,aH m _ to uO]
theorem tS (S:Sal) (st en:Int):(S.past st en).os.length=S.os.length:=(jL _).trans (jA S st en _)
theorem Uw {S:Sal} (h:salI S) (st en:Int) (hen:en≠12/\en≠13/\en≠14):salI (S.past st en):=nH _ (eI h st en hen _ (uA _))
def Sal.tick (S:Sal) (n:Int):(Int × Int) × Sal :=
 if n<0 then ((0,3),S)
 else if n<4611686018427387904 - S.now then ((S.now+n,0),S.tickTo (S.now+n))
 else ((4611686018427387904,0),S.tickTo 4611686018427387904)
section
section
variable {w w':World} {B R:Nat} {S:Sal} {ap:Option Addr} {lp cp:Nat} {vo va:Value}
theorem Oz (h:saleAt w B R S ap lp cp vo va) (hBR:B<=R) (t:Int):saleAt (w.sc R 8 (iv t)) B R { S with now:=t } ap lp cp vo va/\Same (fun b=>b=R) w (w.sc R 8 (iv t)):=by
 have hs:Same (fun b=>b=R) w (w.sc R 8 (iv t)):=⟨rfl,rfl,rfl,by simp [World.setCell],fun k _ hn=>uG _ (aq R 8) _ _ hn⟩
 refine ⟨⟨uH h.blk _,mE h.tiers hs (fun b off e=>?_),h.low,qG h.os (fun k hk=>hs.block k (uJ h.os k hk).2 (fun e=>qP h.os h.blk vO (e▸hk))),qG h.ansL (fun k hk=>hs.block k (uJ h.ansL k hk).2 (fun e=>qP h.ansL h.blk vO (e▸hk)))⟩,hs⟩
 have:=h.low b off e
 show b≠R
 omega
theorem cY (h:salI S) {t:Int} (ht:0<=t/\t<=4611686018427387904):salI { S with now:=t }:=⟨h.units,h.stock,h.cap,h.cfg,ht,h.ords,h.prices⟩
end
open Classical in
noncomputable def liveAt (B R:Nat) (ap:Option Addr) (lp cp:Nat) (vo va:Value) (w:World):Nat:=if h:∃ S:Sal,saleAt w B R S ap lp cp vo va then zM (Classical.choose h).os else 0
theorem Qv {w:World} {B R:Nat} {S:Sal} {ap:Option Addr} {lp cp:Nat} {vo va:Value} (h:saleAt w B R S ap lp cp vo va):liveAt B R ap lp cp vo va w=zM S.os:=by
 have hx:∃ S:Sal,saleAt w B R S ap lp cp vo va:=⟨S,h⟩
 unfold liveAt
 rw [dif_pos hx,Mt (Classical.choose_spec hx) h]
def eS (w wr:World) (B R:Nat) (S S':Sal) (to:Int) (ap:Option Addr) (lp cp:Nat) (vo va:Value):Prop :=
 saleAt wr B R S' ap lp cp vo va/\salI S'/\S'.tickTo to=S.tickTo to/\S'.os.length=S.os.length/\Same (fun b=>b=R\/vo.ownBlock=some b) w wr
def gX (w w':World) (B R:Nat) (S':Sal) (ap:Option Addr) (lp cp:Nat) (vo va:Value) (n:Nat):Prop :=
 saleAt w' B R S' ap lp cp vo va/\salI S'/\S'.os.length=n/\Same (fun b=>b=R\/vo.ownBlock=some b) w w'
section
variable {w wr:World} {B R:Nat} {S S':Sal} {ap:Option Addr} {lp cp:Nat} {vo va:Value} {to:Int}
theorem Om (h:eS w wr B R S S' to ap lp cp vo va) (hBR:B<=R) (hto:0<=to/\to<=4611686018427387904) (hd:S'.due to<0):∀ W,Below wr.heap.size wr W->gX w (W.sc R 8 (iv to)) B R (S.tickTo to) ap lp cp vo va S.os.length:=fun W hW=>by
 obtain ⟨h1,h2,h3,h4,h5⟩:=h
 rw [← h3,Qe hd]
 obtain ⟨a,b⟩:=Oz (qL h1 hW) hBR to
 exact ⟨a,cY h2 hto,h4,Same.trans (Same.trans h5 (Same.of_below (own:=fun _=>False) hW) (fun k _ e=>e.elim id False.elim)) b (fun k _ e=>e.elim id .inl)⟩
theorem Ot (h:eS w wr B R S S' to ap lp cp vo va) (hBR:B<=R) (hto:0<=to/\to<=4611686018427387904) (hl:S.os.length * 48+48<=140737488351232) (hd:¬ S'.due to<0) :
 ∃ A1 A2:World->Prop,(∀ W,Below wr.heap.size wr W->Ca 125 #[pt R 0,iv 13,iv 15] (W.sc R 8 (iv (S'.due to))) fun e w'=>e=.returned (.tuple #[])/\A1 w')/\(∀ W,A1 W->Ca 125 #[pt R 0,iv 12,iv 17] W fun e w'=>e=.returned (.tuple #[])/\A2 w')/\∀ W,A2 W->eS w W B R S (S'.round (S'.due to)) to ap lp cp vo va/\liveAt B R ap lp cp vo va W<liveAt B R ap lp cp vo va wr:=by
 obtain ⟨h1,h2,h3,h4,h5⟩:=h
 obtain ⟨_,_,_,_,hle⟩:=tZ S'.os to S'.os.length (uA _) (show 0<=S'.due to by omega)
 have hle':S'.due to<=to:=hle
 have hlt:=cW (S:=S') (to:=to) uO
 have hgo:=Ma (S:=S') (to:=to) hd
 generalize S'.due to=t at hd hle' hlt hgo
 have hI1:salI { S' with now:=t }:=cY h2 ⟨uO,uO⟩
 refine ⟨fun W=>gX w W B R (({ S' with now:=t }:Sal).past 13 15) ap lp cp vo va S.os.length,fun W=>gX w W B R (S'.round t) ap lp cp vo va S.os.length,fun W hW=>?_,fun W hW=>?_,fun W hW=>?_⟩
 ·obtain ⟨a,b⟩:=Oz (qL h1 hW) hBR t
  refine (sX a hI1 (by show S'.os.length * 48+48<=_;omega) 13 15 vO).mono ?_
  rintro e w' ⟨rfl,c1,c2,c3,c4⟩
  exact ⟨rfl,c1,c2,c3.trans h4,Same.trans (Same.trans (Same.trans h5 (Same.of_below (own:=fun _=>False) hW) (o:=fun b=>b=R\/vo.ownBlock=some b) (fun k _ e=>e.elim id False.elim)) b (o:=fun b=>b=R\/vo.ownBlock=some b) (fun k _ e=>e.elim id .inl)) c4 (fun k _ e=>e.elim id .inr)⟩
 ·obtain ⟨c1,c2,c3,c4⟩:=hW
  refine (sX c1 c2 (by rw [c3];exact hl) 12 17 vO).mono ?_
  rintro e w' ⟨rfl,d1,d2,d3,d4⟩
  exact ⟨rfl,d1,d2,d3.trans c3,Same.trans c4 d4 (fun k _ e=>e.elim id .inr)⟩
 ·obtain ⟨c1,c2,c3,c4⟩:=hW
  refine ⟨⟨c1,c2,by rw [← hgo];exact h3,c3,c4⟩,?_⟩
  rw [Qv c1,Qv h1]
  exact hlt
end
theorem Ny (R:Nat) (n:Int) (w:World) (hn:n<0) :
 Ca 92 #[pt R 0,iv n] w fun e w'=>e=.returned (.tuple #[iv 0,iv 3])/\Below w.heap.size w w':=by
 have hd:decide (n<0)=true:=by simpa using hn
 go_enter Tryz.func92,Tryz.ntmps92
 go_wp2
 refine uK (v:=.tuple #[iv 0,iv 3]) (by simp [results,Tryz.results92,go_sem]) rfl ⟨rfl,?_⟩
 exact uM _ _
theorem Ft (B R:Nat) (S:Sal) (ap:Option Addr) (lp cp:Nat) (vo va:Value) (w:World) (n to:Int) (h:saleAt w B R S ap lp cp vo va) (hI:salI S) (hBR:B<=R) (hl:S.os.length * 48+48<=140737488351232) (hn:¬ n<0) (hn2:n<=9223372036854775807) (hlt:n<4611686018427387904 - S.now) (hto:to=S.now+n) :
 Ca 92 #[pt R 0,iv n] w fun e w'=>e=.returned (.tuple #[iv to,iv 0])/\gX w w' B R (S.tickTo to) ap lp cp vo va S.os.length:=by
 have hd0:decide (n<0)=false:=by simpa using hn
 obtain ⟨_,_,_,_,_,_,_,_,c8,_⟩:=jS h.blk
 have hRw:R<w.heap.size:=(blt h.blk)
 have hnow:=hI.now
 have hw1:IntKind.i64.wrap (4611686018427387904 - S.now)=4611686018427387904 - S.now:=yA uO uO
 subst hto
 have hd1:decide (n<4611686018427387904 - S.now)=true:=by simpa using hlt
 have hw2:IntKind.i64.wrap (S.now+n)=S.now+n:=yA uO uO
 have hto:0<=S.now+n/\S.now+n<=4611686018427387904:=uO
 have H0:Hid (eS w w B R S S (S.now+n) ap lp cp vo va):=⟨h,hI,rfl,rfl,⟨rfl,rfl,rfl,uA _,fun _ _ _=>rfl⟩⟩
 clear h hI
 go_enter Tryz.func92,Tryz.ntmps92
 go_wp2_with fail
 clear c8 hw1 hd0 hd1 hw2
 go_loopw [7] (fun _ wr=>∃ S':Sal,Hid (eS w wr B R S S' (S.now+n) ap lp cp vo va)) (fun _ wr=>liveAt B R ap lp cp vo va wr)
 case atStart=>exact ⟨S,H0⟩
 case round =>
  obtain ⟨S',HS⟩:=hrel
  have r8:=(jS HS.out.1.blk).2.2.2.2.2.2.2.2.1
  have hRr:R<wr.heap.size:=(blt HS.out.1.blk)
  have HDU:Hid (∀ W,Below wr.heap.size wr W->Calls Tryz.prog 124 #[pt R 0,iv (S.now+n)] W fun e w'=>e=.returned (iv (S'.due (S.now+n)))/\Below W.heap.size W w'):=Qy HS.out.1 (by rw [HS.out.2.2.2.1];exact hl) (S.now+n)
  have HBK:Hid (∀ W,Below wr.heap.size wr W->W.frozen? (aq R 8)=false/\W.cell? (aq R 8)=some (iv S'.now)):=fun W hW=>⟨qA ((hW.block R hRr).trans HS.out.1.blk) 8,(hW.cell (p:=(aq R 8)) hRr).trans r8⟩
  by_cases hd:S'.due (S.now+n)<0
  ·have HE:Hid (∀ W,Below wr.heap.size wr W->gX w (W.sc R 8 (iv (S.now+n))) B R (S.tickTo (S.now+n)) ap lp cp vo va S.os.length):=Om HS.out hBR hto hd
   generalize S'.due (S.now+n)=t at hd HDU
   have hdt:decide (t<0)=true:=by simpa using hd
   clear HS r8
   go_wp2_with (first
    | (go_at_call 124;refine (HDU.out _ bL).mono ?_;rintro e w2 ⟨rfl,b2⟩
       obtain ⟨fz,cz⟩:=HBK.out w2 b2
       have hR2:R<w2.heap.size:=uB hRr b2.size))
   refine uK (v:=.tuple #[iv (S.now+n),iv 0]) (by simp [results,Tryz.results92,go_sem]) rfl ⟨rfl,?_⟩
   exact HE.out w2 b2
  ·obtain ⟨A1,A2,HP1,HP2,HA2⟩:=Ot HS.out hBR hto hl hd
   replace HP1:Hid _:=HP1
   replace HP2:Hid _:=HP2
   replace HA2:Hid _:=HA2
   generalize S'.round (S'.due (S.now+n))=S2 at HA2
   generalize S'.due (S.now+n)=t at hd HDU HP1
   have hdt:decide (t<0)=false:=by simpa using hd
   clear HS r8
   go_wp2_with (first
    | (go_at_call 124;refine (HDU.out _ bL).mono ?_;rintro e w2 ⟨rfl,b2⟩
       obtain ⟨fz,cz⟩:=HBK.out w2 b2
       have hR2:R<w2.heap.size:=uB hRr b2.size)
    | (go_at_call 125;refine (HP1.out w2 b2).mono ?_;rintro e w3 ⟨rfl,a3⟩
       clear HP1)
    | (go_at_call 125;refine (HP2.out w3 a3).mono ?_;rintro e w4 ⟨rfl,a4⟩))
   exact ⟨⟨S2,(HA2.out w4 a4).1⟩,(HA2.out w4 a4).2⟩
theorem Rl (B R:Nat) (S:Sal) (ap:Option Addr) (lp cp:Nat) (vo va:Value) (w:World) (n to:Int) (h:saleAt w B R S ap lp cp vo va) (hI:salI S) (hBR:B<=R) (hl:S.os.length * 48+48<=140737488351232) (hn:¬ n<0) (hlt:¬ n<4611686018427387904 - S.now) (hto:to=4611686018427387904) :
 Ca 92 #[pt R 0,iv n] w fun e w'=>e=.returned (.tuple #[iv to,iv 0])/\gX w w' B R (S.tickTo to) ap lp cp vo va S.os.length:=by
 have hd0:decide (n<0)=false:=by simpa using hn
 obtain ⟨_,_,_,_,_,_,_,_,c8,_⟩:=jS h.blk
 have hRw:R<w.heap.size:=(blt h.blk)
 have hnow:=hI.now
 have hw1:IntKind.i64.wrap (4611686018427387904 - S.now)=4611686018427387904 - S.now:=yA uO uO
 subst hto
 have hd1:decide (n<4611686018427387904 - S.now)=false:=by simpa using hlt
 have hto:(0:Int)<=4611686018427387904/\(4611686018427387904:Int)<=4611686018427387904:=uO
 have H0:Hid (eS w w B R S S 4611686018427387904 ap lp cp vo va):=⟨h,hI,rfl,rfl,⟨rfl,rfl,rfl,uA _,fun _ _ _=>rfl⟩⟩
 clear h hI
 go_enter Tryz.func92,Tryz.ntmps92
 go_wp2_with fail
 clear c8 hw1 hd0 hd1
 go_loopw [7] (fun _ wr=>∃ S':Sal,Hid (eS w wr B R S S' 4611686018427387904 ap lp cp vo va)) (fun _ wr=>liveAt B R ap lp cp vo va wr)
 case atStart=>exact ⟨S,H0⟩
 case round =>
  obtain ⟨S',HS⟩:=hrel
  have r8:=(jS HS.out.1.blk).2.2.2.2.2.2.2.2.1
  have hRr:R<wr.heap.size:=(blt HS.out.1.blk)
  have HDU:Hid (∀ W,Below wr.heap.size wr W->Calls Tryz.prog 124 #[pt R 0,iv 4611686018427387904] W fun e w'=>e=.returned (iv (S'.due 4611686018427387904))/\Below W.heap.size W w'):=Qy HS.out.1 (by rw [HS.out.2.2.2.1];exact hl) 4611686018427387904
  have HBK:Hid (∀ W,Below wr.heap.size wr W->W.frozen? (aq R 8)=false/\W.cell? (aq R 8)=some (iv S'.now)):=fun W hW=>⟨qA ((hW.block R hRr).trans HS.out.1.blk) 8,(hW.cell (p:=(aq R 8)) hRr).trans r8⟩
  by_cases hd:S'.due 4611686018427387904<0
  ·have HE:Hid (∀ W,Below wr.heap.size wr W->gX w (W.sc R 8 (iv 4611686018427387904)) B R (S.tickTo 4611686018427387904) ap lp cp vo va S.os.length):=Om HS.out hBR hto hd
   generalize S'.due 4611686018427387904=t at hd HDU
   have hdt:decide (t<0)=true:=by simpa using hd
   clear HS r8
   go_wp2_with (first
    | (go_at_call 124;refine (HDU.out _ bL).mono ?_;rintro e w2 ⟨rfl,b2⟩
       obtain ⟨fz,cz⟩:=HBK.out w2 b2
       have hR2:R<w2.heap.size:=uB hRr b2.size))
   refine uK (v:=.tuple #[iv 4611686018427387904,iv 0]) (by simp [results,Tryz.results92,go_sem]) rfl ⟨rfl,?_⟩
   exact HE.out w2 b2
  ·obtain ⟨A1,A2,HP1,HP2,HA2⟩:=Ot HS.out hBR hto hl hd
   replace HP1:Hid _:=HP1
   replace HP2:Hid _:=HP2
   replace HA2:Hid _:=HA2
   generalize S'.round (S'.due 4611686018427387904)=S2 at HA2
   generalize S'.due 4611686018427387904=t at hd HDU HP1
   have hdt:decide (t<0)=false:=by simpa using hd
   clear HS r8
   go_wp2_with (first
    | (go_at_call 124;refine (HDU.out _ bL).mono ?_;rintro e w2 ⟨rfl,b2⟩
       obtain ⟨fz,cz⟩:=HBK.out w2 b2
       have hR2:R<w2.heap.size:=uB hRr b2.size)
    | (go_at_call 125;refine (HP1.out w2 b2).mono ?_;rintro e w3 ⟨rfl,a3⟩
       clear HP1)
    | (go_at_call 125;refine (HP2.out w3 a3).mono ?_;rintro e w4 ⟨rfl,a4⟩))
   exact ⟨⟨S2,(HA2.out w4 a4).1⟩,(HA2.out w4 a4).2⟩
section
variable {w w':World} {B R:Nat} {S:Sal} {ap:Option Addr} {lp cp:Nat} {vo va:Value}
theorem Le (h:saleAt w B R S ap lp cp vo va) (hI:salI S) (hBR:B<=R) (hl:S.os.length * 48+48<=140737488351232) (n:Int) (hn:n<=9223372036854775807) :
 Ca 92 #[pt R 0,iv n] w fun e w'=>e=.returned (.tuple #[iv (S.tick n).1.1,iv (S.tick n).1.2])/\gX w w' B R (S.tick n).2 ap lp cp vo va S.os.length:=by
 unfold Sal.tick
 by_cases h0:n<0
 ·rw [uQ h0]
  exact (Ny R n w h0).mono (by rintro e w' ⟨rfl,hb⟩;exact ⟨rfl,qL h hb,hI,rfl,Same.of_below hb⟩)
 rw [uP h0]
 by_cases h1:n<4611686018427387904 - S.now
 ·rw [uQ h1]
  exact Ft B R S ap lp cp vo va w n _ h hI hBR hl h0 hn h1 rfl
 ·rw [uP h1]
  exact Rl B R S ap lp cp vo va w n _ h hI hBR hl h0 h1 rfl
end
end
section
theorem dW {w:World} {R:Nat} {c0 c1 c2:Value} {T:TypeId} (h:w.heap[R]?=some (.cells #[c0,c1,c2] T)):w.cell? (aq R 0)=some c0/\w.cell? (aq R 1)=some c1/\w.cell? (aq R 2)=some c2 :=
 ⟨cB h,cB h,cB h⟩
theorem Kr (R:Nat) (c:Int) (w:World) (hc:yU c=false) :
 Ca 91 #[pt R 0,iv c] w fun e w'=>e=.returned (.tuple #[.agg #[iv 0,iv 0,iv 0],iv 3])/\Below w.heap.size w w':=by
 have HN:Hid (∀ W,Ca 59 #[iv c] W fun e w'=>e=.returned (.bool false)/\W=w'):=fun W=>by
  have:=dL c W
  rw [hc] at this
  exact this
 go_enter Tryz.func91,Tryz.ntmps91
 go_wp2_with (go_at_call 59;refine (HN.out _).mono ?_;rintro e w1 ⟨rfl,rfl⟩)
 refine uK (v:=.tuple #[.agg #[iv 0,iv 0,iv 0],iv 3]) (by simp [results,Tryz.results91,go_sem]) rfl ⟨rfl,?_⟩
 exact bL
theorem Jr (R:Nat) (c a b d:Int) (w:World) (hc:yU c=true)
 (HH:Hid (∀ W,Below w.heap.size w W->Ca 122 #[pt R 0,iv 13,iv c] W fun e w'=>e=.returned (iv a)/\Below W.heap.size W w'))
 (HS:Hid (∀ W,Below w.heap.size w W->Ca 122 #[pt R 0,iv 14,iv c] W fun e w'=>e=.returned (iv b)/\Below W.heap.size W w'))
 (HW:Hid (∀ W,Below w.heap.size w W->Ca 122 #[pt R 0,iv 12,iv c] W fun e w'=>e=.returned (iv d)/\Below W.heap.size W w')) :
 Ca 91 #[pt R 0,iv c] w fun e w'=>e=.returned (.tuple #[.agg #[iv a,iv b,iv d],iv 0])/\Below w.heap.size w w':=by
 have HN:Hid (∀ W,Ca 59 #[iv c] W fun e w'=>e=.returned (.bool true)/\W=w'):=fun W=>by
  have:=dL c W
  rw [hc] at this
  exact this
 go_enter Tryz.func91,Tryz.ntmps91
 go_wp2_with (go_at_call 59;refine (HN.out _).mono ?_;rintro e w1 ⟨rfl,rfl⟩)
 refine (HH.out _ bL).mono ?_
 rintro e w1 ⟨rfl,b1⟩
 have hb1:Below (w.heap.size+1) (w.alloc (.cells #[iv 0,iv 0,iv 0] 65)) w1:=b1.mono vS
 have w01:Below w.heap.size w w1:=uL ((uM _ _).alloc (uA _) _) (hb1.mono uO)
 go_wp2_with fail
 refine (HS.out _ w01).mono ?_
 rintro e w2 ⟨rfl,b2⟩
 have z1:w.heap.size+1<=w1.heap.size:=by have:=hb1.size;simpa using this
 have hb2:Below (w.heap.size+1) (w.alloc (.cells #[iv 0,iv 0,iv 0] 65)) w2:=hb1.trans (b2.mono z1)
 have w02:Below w.heap.size w w2:=w01.trans (b2.mono uO)
 have z2:=b2.size
 go_wp2_with fail
 refine (HW.out _ w02).mono ?_
 rintro e w3 ⟨rfl,b3⟩
 have hb3:Below (w.heap.size+1) (w.alloc (.cells #[iv 0,iv 0,iv 0] 65)) w3:=hb2.trans (b3.mono uO)
 have w03:Below w.heap.size w w3:=w02.trans (b3.mono uO)
 have n0:=(hb3.block w.heap.size uO).trans (uF w _)
 obtain ⟨s0,s1,s2⟩:=dW n0
 have f0:=qA n0 0
 have f1:=qA n0 1
 have f2:=qA n0 2
 clear b1 b2 b3 hb1 hb2 hb3 n0
 go_wp2
 refine uK (v:=.tuple #[.agg #[iv a,iv b,iv d],iv 0]) (by simp [results,Tryz.results91,go_sem,s0,s1,s2]) rfl ⟨rfl,?_⟩
 exact ((w03.setCell (p:=(aq w.heap.size 0)) (uA _) _).setCell (p:=(aq w.heap.size 1)) (uA _) _).setCell (p:=(aq w.heap.size 2)) (uA _) _
def Sal.account (S:Sal) (c:Int):Int × Int × Int:=(qF S.os 13 c,qF S.os 14 c,qF S.os 12 c)
section
variable {w:World} {B R:Nat} {S:Sal} {ap:Option Addr} {lp cp:Nat} {vo va:Value}
theorem Zp (h:saleAt w B R S ap lp cp vo va) (hN:salN S) (c:Int) :
 Ca 91 #[pt R 0,iv c] w fun e w'=>e=.returned (.tuple (if yU c then #[.agg #[iv (S.account c).1,iv (S.account c).2.1,iv (S.account c).2.2],iv 0] else #[.agg #[iv 0,iv 0,iv 0],iv 3]))/\Below w.heap.size w w':=by
 cases hc:yU c with
 | false=>exact Kr R c w hc
 | true =>
   have hc0:c≠0:=fun e=>by subst e;simp [yU] at hc
   exact Jr R c _ _ _ w hc (jT h hN 13 c (.inl rfl)) (jT h hN 14 c (.inr (.inl rfl))) (jT h hN 12 c (.inr (.inr ⟨rfl,hc0⟩)))
end
theorem Us (R n:Nat) (f a b d:Int) (w:World)
 (HQ:Hid (∀ W,Below w.heap.size w W->Ca 120 #[pt R 0] W fun e w'=>∃ oa oc,e=.returned (.slice oa n oc)/\Below W.heap.size W w'))
 (HF:Hid (∀ W,Below w.heap.size w W->Ca 121 #[pt R 0] W fun e w'=>e=.returned (iv f)/\Below W.heap.size W w'))
 (HH:Hid (∀ W,Below w.heap.size w W->Ca 122 #[pt R 0,iv 13,iv 0] W fun e w'=>e=.returned (iv a)/\Below W.heap.size W w'))
 (HS:Hid (∀ W,Below w.heap.size w W->Ca 122 #[pt R 0,iv 14,iv 0] W fun e w'=>e=.returned (iv b)/\Below W.heap.size W w'))
 (HA:Hid (∀ W,Below w.heap.size w W->Ca 123 #[pt R 0] W fun e w'=>e=.returned (iv d)/\Below W.heap.size W w')) :
 Ca 90 #[pt R 0] w fun e w'=>e=.returned (.agg #[iv f,iv a,iv b,iv n,iv d])/\Below w.heap.size w w':=by
 go_enter Tryz.func90,Tryz.ntmps90
 go_wp2_with fail
 refine (HQ.out _ bL).mono ?_
 rintro e w1 ⟨oa,oc,rfl,b1⟩
 have hb1:Below (w.heap.size+1) (w.alloc (.cells #[iv 0,iv 0,iv 0,iv 0,iv 0] 61)) w1:=b1.mono vS
 have w01:Below w.heap.size w w1:=uL ((uM _ _).alloc (uA _) _) (hb1.mono uO)
 have z1:w.heap.size+1<=w1.heap.size:=by have:=hb1.size;simpa using this
 go_wp2_with fail
 refine (HF.out _ w01).mono ?_
 rintro e w2 ⟨rfl,b2⟩
 have hb2:Below (w.heap.size+1) (w.alloc (.cells #[iv 0,iv 0,iv 0,iv 0,iv 0] 61)) w2:=hb1.trans (b2.mono uO)
 have w02:Below w.heap.size w w2:=w01.trans (b2.mono uO)
 have z2:=b2.size
 go_wp2_with fail
 refine (HH.out _ w02).mono ?_
 rintro e w3 ⟨rfl,b3⟩
 have hb3:Below (w.heap.size+1) (w.alloc (.cells #[iv 0,iv 0,iv 0,iv 0,iv 0] 61)) w3:=hb2.trans (b3.mono uO)
 have w03:Below w.heap.size w w3:=w02.trans (b3.mono uO)
 have z3:=b3.size
 go_wp2_with fail
 refine (HS.out _ w03).mono ?_
 rintro e w4 ⟨rfl,b4⟩
 have hb4:Below (w.heap.size+1) (w.alloc (.cells #[iv 0,iv 0,iv 0,iv 0,iv 0] 61)) w4:=hb3.trans (b4.mono uO)
 have w04:Below w.heap.size w w4:=w03.trans (b4.mono uO)
 have z4:=b4.size
 go_wp2_with fail
 refine (HA.out _ w04).mono ?_
 rintro e w5 ⟨rfl,b5⟩
 have hb5:Below (w.heap.size+1) (w.alloc (.cells #[iv 0,iv 0,iv 0,iv 0,iv 0] 61)) w5:=hb4.trans (b5.mono uO)
 have w05:Below w.heap.size w w5:=w04.trans (b5.mono uO)
 have z5:=b5.size
 have n0:=(hb5.block w.heap.size uO).trans (uF w _)
 have s0:w5.cell? (aq w.heap.size 0)=some (iv 0):=cB n0
 have s1:w5.cell? (aq w.heap.size 1)=some (iv 0):=cB n0
 have s2:w5.cell? (aq w.heap.size 2)=some (iv 0):=cB n0
 have s3:w5.cell? (aq w.heap.size 3)=some (iv 0):=cB n0
 have s4:w5.cell? (aq w.heap.size 4)=some (iv 0):=cB n0
 have f0:=qA n0 0
 have f1:=qA n0 1
 have f2:=qA n0 2
 have f3:=qA n0 3
 have f4:=qA n0 4
 clear b1 b2 b3 b4 b5 hb1 hb2 hb3 hb4 hb5 n0
 go_wp2
 refine uK (v:=.agg #[iv f,iv a,iv b,iv n,iv d]) (by simp [results,Tryz.results90,go_sem,s0,s1,s2,s3,s4]) rfl ⟨rfl,?_⟩
 exact ((((w05.setCell (p:=(aq w.heap.size 0)) (uA _) _).setCell (p:=(aq w.heap.size 1)) (uA _) _).setCell (p:=(aq w.heap.size 2)) (uA _) _).setCell (p:=(aq w.heap.size 3)) (uA _) _).setCell (p:=(aq w.heap.size 4)) (uA _) _
section
variable {w:World} {B R:Nat} {S:Sal} {ap:Option Addr} {lp cp:Nat} {vo va:Value}
theorem Un (h:saleAt w B R S ap lp cp vo va) (hI:salI S) (hl:S.os.length * 48+48<=140737488351232) (hat:∀ a∈S.ansL,0<=a.at'/\a.at'<=4611686018427387904) (hla:S.ansL.length * 64<=140737488355328) :
 Ca 90 #[pt R 0] w fun e w'=>e=.returned (.agg #[iv S.free,iv (qF S.os 13 0),iv (qF S.os 14 0),iv (qK S.os).length,iv S.answers])/\Below w.heap.size w w':=by
 have hN:=hI.N hl
 refine Us R _ _ _ _ _ w (fun W hW=>(gO h hN W hW).mono ?_) (bH h hN) (jT h hN 13 0 (.inl rfl)) (jT h hN 14 0 (.inr (.inl rfl))) (rG h hI hat hla)
 rintro e w' ⟨out,rfl,ho,hb⟩
 obtain ⟨oa,oc,rfl⟩:=yE ho
 exact ⟨oa,oc,rfl,hb⟩
end
end
