import Derived.Test.YtfhncfghblkgeabGreatL22
import Derived.Test.YtfhncfghblkgeabGreatL26
import Derived.Test.YtfhncfghblkgeabGreatL28
set_option maxRecDepth 100000
set_option maxHeartbeats 2000000
namespace Go.Proofs.YtfhncfghblkgeabGreat
open Go.RowKit
section
def Sal.doS (S:Sal) (r:Req):Rep × Sal:=if r.kind=1 then S.ask r else if r.kind=2 then S.confirm r else S.cancel r
def Sal.used (S:Sal) (t:Int):Option Ans:=S.ansL.find? (fun a=>S.remem a && a.token==t)
def Sal.send (S:Sal) (bs:List Int) (r:Req) (err:Int):Rep × Sal :=
 if err≠0 then (⟨1,0,0,0⟩,S)
 else if r.kind=4 then (S.poll r,S)
 else match S.used r.token with
  | some a=>if a.frame=strOfNums bs then (a.rep,S) else (⟨10,0,0,0⟩,S)
  | none =>
    if (S.answers:Int)=S.C.tokens then (⟨11,0,0,0⟩,S)
    else ((S.doS r).1,{ (S.doS r).2 with ansL:=(S.doS r).2.ansL++[⟨strOfNums bs,r.token,(S.doS r).1,S.now⟩] })
def Yq (w w':World) (B R:Nat) (S':Sal) (ap:Option Addr) (lp cp:Nat) (vo va:Value):Prop :=
 ∃ vo' va',saleAt w' B R S' ap lp cp vo' va'/\salI S'/\Same (fun b=>b=R\/vo.ownBlock=some b\/va.ownBlock=some b) w w'/\(∀ k,vo'.ownBlock=some k->vo.ownBlock=some k\/w.heap.size<=k)/\∀ k,va'.ownBlock=some k->va.ownBlock=some k\/w.heap.size<=k
theorem tM:∀ (n:Nat) (S:Sal),(yJ n S).C=S.C/\(yJ n S).now=S.now/\(yJ n S).ansL=S.ansL
 | 0,_=>⟨rfl,rfl,rfl⟩
 | n+1,S=>by
   unfold yJ
   split
   ·exact ⟨rfl,rfl,rfl⟩
   ·split
    ·exact ⟨rfl,rfl,rfl⟩
    ·exact tM n _
theorem oH (S:Sal):S.promote.C=S.C/\S.promote.now=S.now/\S.promote.ansL=S.ansL:=tM _ S
theorem dK:∀ (qs:List Nat) (S:Sal),(yM S qs).C=S.C/\(yM S qs).now=S.now/\(yM S qs).ansL=S.ansL
 | [],_=>⟨rfl,rfl,rfl⟩
 | q :: qs,S=>by
   have e:yM S (q :: qs)=yM (if S.left<(S.os.getD q qD).units then S.ends q 18 else S) qs:=rfl
   rw [e]
   split
   ·exact dK qs _
   ·exact dK qs _
theorem Eo (S:Sal) (r:Req):(S.ask r).2.C=S.C/\(S.ask r).2.now=S.now/\(S.ask r).2.ansL=S.ansL:=by
 unfold Sal.ask
 split
 ·exact ⟨rfl,rfl,rfl⟩
 split
 ·exact ⟨rfl,rfl,rfl⟩
 split
 ·exact ⟨rfl,rfl,rfl⟩
 split
 ·exact ⟨rfl,rfl,rfl⟩
 split<;>exact ⟨rfl,rfl,rfl⟩
theorem Vx (S:Sal) (r:Req):(S.cancel r).2.C=S.C/\(S.cancel r).2.now=S.now/\(S.cancel r).2.ansL=S.ansL:=by
 unfold Sal.cancel
 split
 ·exact ⟨rfl,rfl,rfl⟩
 ·split
  ·exact ⟨rfl,rfl,rfl⟩
  ·exact oH _
theorem Qq (S:Sal) (r:Req):(S.confirm r).2.C=S.C/\(S.confirm r).2.now=S.now/\(S.confirm r).2.ansL=S.ansL:=by
 unfold Sal.confirm
 split
 ·exact ⟨rfl,rfl,rfl⟩
 ·next i _ =>
  split
  ·exact ⟨rfl,rfl,rfl⟩
  ·obtain ⟨a,b,c⟩:=oH (yM (S.ends i 14) (qK (S.ends i 14).os))
   obtain ⟨d,e,f⟩:=dK (qK (S.ends i 14).os) (S.ends i 14)
   exact ⟨a.trans d,b.trans e,c.trans f⟩
theorem rP (S:Sal) (r:Req):(S.doS r).2.C=S.C/\(S.doS r).2.now=S.now/\(S.doS r).2.ansL=S.ansL:=by
 unfold Sal.doS
 split
 ·exact Eo S r
 split
 ·exact Qq S r
 ·exact Vx S r
theorem Ln (l:List Ans) (a:Ans):rT (l++[a])=rT l++a.vals:=by simp [rT]
def Zn (w Wc W:World) (B R:Nat) (S':Sal) (ap:Option Addr) (lp cp:Nat) (vo va:Value):Prop :=
 ∃ vo',saleAt W B R S' ap lp cp vo' va/\salI S'/\Same (fun b=>b=R\/vo.ownBlock=some b) w W/\Wc.heap.size<=W.heap.size/\∀ k,vo'.ownBlock=some k->vo.ownBlock=some k\/Wc.heap.size<=k
section
variable {w w':World} {B R:Nat} {S:Sal} {ap:Option Addr} {lp cp:Nat} {vo va:Value}
theorem kL (h:saleAt w B R S ap lp cp vo va) (hI:salI S) (hb:Below w.heap.size w w'):Yq w w' B R S ap lp cp vo va :=
 ⟨vo,va,qL h hb,hI,Same.of_below hb,fun _ hk=>.inl hk,fun _ hk=>.inl hk⟩
theorem Vy {Wc W W':World} {S':Sal} {b:Nat} (h:saleAt w B R S ap lp cp vo va) (hBR:B<=R) (hb:w.heap.size<=b) (hbc:b<Wc.heap.size) (hq:Zn w Wc W B R S' ap lp cp vo va) (hs:Same (fun x=>x=b) W W'):Zn w Wc W' B R S' ap lp cp vo va:=by
 obtain ⟨vo',a1,a2,a3,a5,a4⟩:=hq
 have hRw:R<w.heap.size:=(blt h.blk)
 refine ⟨vo',xK a1 hs (show R≠b by omega) (fun k hk=>?_) (fun k hk=>?_) (fun _ x off e=>?_),a2,Same.trans a3 hs (fun k hk e=>e.elim id (fun e=>uO)),uX a5 hs.size,a4⟩
 ·show k≠b
  rcases a4 k hk with x|x
  ·have:=(uJ h.os _ x).2;omega
  ·omega
 ·show k≠b
  have:=(uJ h.ansL _ hk).2
  omega
 ·show x≠b
  have:=h.low x off e
  omega
theorem Ud (h:saleAt w B R S ap lp cp vo va) (hBR:B<=R) (a:Ans) {L:List Value} (hL:L=a.vals) (hp:iI w w' B R va S.ansL.length (rT S.ansL) L) :
 ∃ va',saleAt w' B R { S with ansL:=S.ansL++[a] } ap lp cp vo va'/\Same (fun b=>b=R\/va.ownBlock=some b) w w'/\∀ k,va'.ownBlock=some k->va.ownBlock=some k\/w.heap.size<=k:=by
 obtain ⟨C,g,cap,hC,h1,h2,h3,h4⟩:=hp
 have hb:=h.blk
 rw [hC] at hb
 simp only [Option.some.injEq,Obj.cells.injEq,and_true] at hb
 subst hb
 subst hL
 have hRw:R<w.heap.size:=(blt hC)
 refine ⟨.slice (some (aq g 0)) (S.ansL.length+1) cap,⟨h1,?_,h.low,?_,?_⟩,h3,fun k hk=>?_⟩
 ·refine mE h.tiers h3 (fun b off e=>?_)
  have hlow:=h.low b off e
  rintro (e1|e1)
  ·omega
  ·have:=(uJ h.ansL b e1).1;omega
 ·refine qG h.os (fun k hk=>h3.block k (uJ h.os k hk).2 ?_)
  rintro (e1|e1)
  ·exact qP h.os hC vO (e1▸hk)
  ·exact Jg h hk e1
 ·show w'.ownsRow B 211 7 _ (S.ansL++[a]).length (rT (S.ansL++[a]))
  rw [Ln]
  simpa using h2
 ·have e:g=k:=by simpa [Value.ownBlock] using hk
  rw [← e]
  exact h4
theorem YN {Wc W5 W6:World} {S1:Sal} (h:saleAt w B R S ap lp cp vo va) (hBR:B<=R) (hn:S1.ansL=S.ansL) (a:Ans) (hq:Zn w Wc W5 B R S1 ap lp cp vo va) (hc:w.heap.size<Wc.heap.size) (hz:w.heap.size<W5.heap.size) (hp:iI W5 W6 B R va S.ansL.length (rT S.ansL) a.vals) (hs:Same (fun x=>x=w.heap.size) W6 w') :
 Yq w w' B R { S1 with ansL:=S1.ansL++[a] } ap lp cp vo va:=by
 obtain ⟨vo',a1,a2,a3,a5,a4⟩:=hq
 have hRw:R<w.heap.size:=(blt h.blk)
 obtain ⟨va',b1,b2,b3⟩:=Ud a1 hBR a rfl (by rw [hn];exact hp)
 have hI':salI { S1 with ansL:=S1.ansL++[a] }:=⟨a2.units,a2.stock,a2.cap,a2.cfg,a2.now,a2.ords,a2.prices⟩
 have zz:=a3.size
 refine ⟨vo',va',xK b1 hs (show R≠w.heap.size by omega) (fun k hk=>?_) (fun k hk=>?_) (fun _ x off e=>?_),hI',?_,fun k hk=>(a4 k hk).imp id (fun e=>uO),fun k hk=>(b3 k hk).imp id (fun e=>uO)⟩
 ·show k≠w.heap.size
  rcases a4 k hk with x|x
  ·have:=(uJ h.os _ x).2;omega
  ·omega
 ·show k≠w.heap.size
  rcases b3 k hk with x|x
  ·have:=(uJ h.ansL _ x).2;omega
  ·omega
 ·show x≠w.heap.size
  have:=h.low x off e
  omega
 ·refine Same.trans (Same.trans a3 b2 (o2:=fun b=>b=R\/va.ownBlock=some b) (o:=fun b=>b=R\/vo.ownBlock=some b\/va.ownBlock=some b) (fun k hk e=>?_)) hs (fun k hk e=>e.elim id (fun e=>uO))
  rcases e with (e|e)|(e|e)
  ·exact .inl e
  ·exact .inr (.inl e)
  ·exact .inl e
  ·exact .inr (.inr e)
end
end
section
theorem iC {S:Sal} {t:Int} {a:Ans} (h:S.used t=some a):∃ i,i<S.ansL.length/\S.ansL.getD i zU=a/\S.remem a=true/\a.token=t/\∀ j,j<i->¬ (S.remem (S.ansL.getD j zU)=true/\(S.ansL.getD j zU).token=t):=by
 unfold Sal.used at h
 obtain ⟨hp,i,hi,e,hf⟩:=List.find?_eq_some_iff_getElem.1 h
 simp only [Bool.and_eq_true,beq_iff_eq] at hp
 refine ⟨i,hi,by simp [List.getD,uD hi,e],hp.1,hp.2,fun j hj=>?_⟩
 have:=hf j hj
 have hjl:j<S.ansL.length:=uO
 simp only [List.getD,uD hjl,Option.getD_some]
 simp only [Bool.not_eq_true',Bool.and_eq_false_iff,beq_eq_false_iff_ne] at this
 rintro ⟨a1,a2⟩
 rcases this with x|x
 ·rw [a1] at x;cases x
 ·exact x a2
theorem Mk {S:Sal} {t:Int} (h:S.used t=none):∀ j,j<S.ansL.length->¬ (S.remem (S.ansL.getD j zU)=true/\(S.ansL.getD j zU).token=t):=by
 unfold Sal.used at h
 rw [List.find?_eq_none] at h
 intro j hj
 simp only [List.getD,uD hj,Option.getD_some]
 rintro ⟨a1,a2⟩
 exact h _ (List.getElem_mem hj) (by simp [a1,a2])
theorem Uk {k t c u o:Int} (h:QH k t c u o=true):(k=1/\1<=c/\1<=u/\u<=4294967296)\/((k=2\/k=3)/\1<=o/\o<=4294967296)\/(k=4/\1<=o/\o<=4294967296):=by
 unfold QH yU at h
 split at h
 ·next e=>simp at h;exact .inl ⟨e,uO,uO,uO⟩
 split at h
 ·next e=>simp at h;exact .inr (.inl ⟨e,uO,uO⟩)
 split at h
 ·next e=>simp at h;exact .inr (.inr ⟨e,uO,uO⟩)
 ·cases h
section
variable {w w':World} {B R:Nat} {S:Sal} {ap:Option Addr} {lp cp:Nat} {vo va:Value}
theorem Fg (h:saleAt w B R S ap lp cp vo va) (hI:salI S) (hBR:B<=R) (hcap:S.C.cap<=4294967296) (hqm:1<=S.C.queue) (hl:S.os.length * 48+48<=140737488351232) (hat:∀ a∈S.ansL,0<=a.at'/\a.at'<=4611686018427387904) (hla:S.ansL.length * 64+64<=140737488355328)
 {ba:Option Addr} {bl bc:Nat} {bs:List Int} (hbs:qJ w ba bl bc bs) (hbb:bs≠[]->∀ b off,ba=some (aq b off)->b≠R/\vo.ownBlock≠some b/\va.ownBlock≠some b)
 {k t c u o err:Int} (hU:UN bs k t c u o err) :
 Ca 118 #[pt R 0,.slice ba bl bc] w fun e w'=>e=.returned (S.send bs ⟨k,t,c,u,o⟩ err).1.val/\Yq w w' B R (S.send bs ⟨k,t,c,u,o⟩ err).2 ap lp cp vo va:=by
 have HUP:Hid (∀ W,Below w.heap.size w W->Ca 77 #[.slice ba bl bc] W fun e w'=>e=.returned (.tuple #[.agg #[iv k,iv t,iv c,iv u,iv o],iv err])/\Below W.heap.size W w'):=fun W hW=>(eD ba bl bc bs W (qM hbs hW)).mono (by
  rintro e w' ⟨k',t',c',u',o',e',rfl,hU',hb⟩
  obtain ⟨rfl,rfl,rfl,rfl,rfl,rfl⟩:=Tk hU hU'
  exact ⟨rfl,hb⟩)
 have hRw:R<w.heap.size:=(blt h.blk)
 have hBw:B<=w.heap.size:=uO
 unfold Sal.send
 by_cases he:err≠0
 ·rw [uQ he]
  have he2:err=2:=by rcases hU with x|x;exact absurd x.1 he;exact x.1
  exact (Ah R bl bc ba k t c u o err w he2 HUP).mono (by rintro e w' ⟨rfl,hb⟩;exact ⟨rfl,kL h hI hb⟩)
 rw [uP he]
 have he0:err=0:=Classical.byContradiction he
 have hB:QH k t c u o=true:=by
  rcases hU with x|x
  ·exact x.2.1
  ·rw [he0] at x;exact absurd x.1 vO
 subst he0
 have hnum:=Uk hB
 by_cases hk4:k=4
 ·rw [uQ hk4]
  have hor:1<=o/\o<=4294967296:=by rcases hnum with x|x|x<;>omega
  have hp:(S.poll ⟨k,t,c,u,o⟩)=⟨(S.poll ⟨k,t,c,u,o⟩).kind,(S.poll ⟨k,t,c,u,o⟩).order,(S.poll ⟨k,t,c,u,o⟩).cents,(S.poll ⟨k,t,c,u,o⟩).upto⟩:=rfl
  refine (Ff R bl bc ba k t c u o 0 (S.poll ⟨k,t,c,u,o⟩).kind (S.poll ⟨k,t,c,u,o⟩).order (S.poll ⟨k,t,c,u,o⟩).cents (S.poll ⟨k,t,c,u,o⟩).upto w rfl hk4 HUP (fun W hW=>?_)).mono (by rintro e w' ⟨rfl,hb⟩;exact ⟨rfl,kL h hI hb⟩)
  have:=Ds (qL h hW) hI hl ⟨k,t,c,u,o⟩ hor
  subst hk4
  exact this
 rw [uP hk4]
 have hk3:k=1\/k=2\/k=3:=by rcases hnum with x|x|x<;>omega
 obtain ⟨_,_,_,_,_,c5,c6,_,c8,_,c10⟩:=jS h.blk
 have hd:=Xo h.ansL
 have HR:Hid (∀ a∈S.ansL,∀ W,Below w.heap.size w W->Ca 144 #[pt R 0,a.val] W fun e w'=>e=.returned (.bool (S.remem a))/\Below W.heap.size W w'):=fun a ha W hW=>by
  obtain ⟨_,_,_,_,_,d5,_,_,d8,_⟩:=jS (qL h hW).blk
  exact pQ R S.now S.C.keep a W d8 d5 ⟨hI.now.1,hI.now.2,(hat a ha).1,(hat a ha).2⟩
 have hl64:S.ansL.length * 64<=140737488355328:=uO
 cases hu:S.used (Req.token ⟨k,t,c,u,o⟩) with
 | some a =>
   obtain ⟨i,hi,hg,hr,ht,hf⟩:=iC hu
   simp only
   refine (La R bl bc ba k t c u o w hk3 va S.ansL S.remem c10 hd hl64 i hi hf (by rw [hg];exact hr) (by rw [hg];exact ht) bs hbs (if a.frame=strOfNums bs then a.rep else ⟨10,0,0,0⟩:Rep).val (fun e=>by rw [hg] at e;rw [uQ e,hg]) (fun e=>by rw [hg] at e;rw [uP e];rfl) HUP HR).mono ?_
   rintro e w' ⟨rfl,hb⟩
   by_cases hfe:a.frame=strOfNums bs
   ·rw [uQ hfe,uQ hfe];exact ⟨rfl,kL h hI hb⟩
   ·rw [uP hfe,uP hfe];exact ⟨rfl,kL h hI hb⟩
 | none =>
   have hf:=Mk hu
   simp only
   have HAN:=rG h hI hat hl64
   by_cases hm:(S.answers:Int)=S.C.tokens
   ·rw [uQ hm]
    exact (Gg R bl bc ba k t c u o w hk3 va S.ansL S.remem c10 hd hl64 hf _ (by rw [c6,hm]) HUP HR HAN).mono (by rintro e w' ⟨rfl,hb⟩;exact ⟨rfl,kL h hI hb⟩)
   ·rw [uP hm]
    have hown:∀ b,(b=R\/vo.ownBlock=some b)->b<w.heap.size:=fun b e=>e.elim (fun e=>e▸hRw) (fun e=>(uJ h.os b e).2)
    obtain ⟨m1,m2,m3⟩:=rP S ⟨k,t,c,u,o⟩
    have HQS:Hid (∀ Wc W W' b,w.heap.size<=b->b<Wc.heap.size->Zn w Wc W B R (S.doS ⟨k,t,c,u,o⟩).2 ap lp cp vo va->Same (fun x=>x=b) W W'->Zn w Wc W' B R (S.doS ⟨k,t,c,u,o⟩).2 ap lp cp vo va):=fun Wc W W' b h1 h2 h3 h4=>Vy h hBR h1 h2 h3 h4
    have HQ1:Hid (∀ Wc W,Below w.heap.size w Wc->Zn w Wc W B R (S.doS ⟨k,t,c,u,o⟩).2 ap lp cp vo va->qJ W ba bl bc bs/\(bs≠[]->∀ b off,ba=some (aq b off)->b≠R/\Value.ownBlock va≠some b)/\W.ownsRow B 211 7 va S.ansL.length (rT S.ansL)/\∃ C,W.heap[R]?=some (.cells C 170)/\C[10]?=some va/\C[8]?=some (iv S.now)):=fun Wc W _ hq=>by
     obtain ⟨vo',a1,a2,a3,a5,a4⟩:=hq
     refine ⟨lG hbs a3 (fun hne b off e=>?_),fun hne b off e=>⟨(hbb hne b off e).1,(hbb hne b off e).2.2⟩,?_,_,a1.blk,rfl,?_⟩
     ·rintro (x|x)
      ·exact (hbb hne b off e).1 x
      ·exact (hbb hne b off e).2.1 x
     ·have:=a1.ansL
      rw [m3] at this
      exact this
     ·rw [m2];rfl
    have HD:∀ W,Below w.heap.size w W->∀ w',(∃ vo',saleAt w' B R (S.doS ⟨k,t,c,u,o⟩).2 ap lp cp vo' va/\salI (S.doS ⟨k,t,c,u,o⟩).2/\Same (fun b=>b=R\/vo.ownBlock=some b) W w'/\∀ k,vo'.ownBlock=some k->vo.ownBlock=some k\/W.heap.size<=k)->Zn w W w' B R (S.doS ⟨k,t,c,u,o⟩).2 ap lp cp vo va/\Same (fun b=>b=R\/vo.ownBlock=some b) W w':=fun W hW w' hq=>by
     obtain ⟨vo',a1,a2,a3,a4⟩:=hq
     exact ⟨⟨vo',a1,a2,Same.trans (Same.of_below (own:=fun _=>False) hW) a3 (fun k _ e=>e.elim False.elim id),a3.size,a4⟩,a3⟩
    have hE:(S.doS ⟨k,t,c,u,o⟩).1=⟨(S.doS ⟨k,t,c,u,o⟩).1.kind,(S.doS ⟨k,t,c,u,o⟩).1.order,(S.doS ⟨k,t,c,u,o⟩).1.cents,(S.doS ⟨k,t,c,u,o⟩).1.upto⟩:=rfl
    have fin:∀ w',(∃ Wc W5 W6,Zn w Wc W5 B R (S.doS ⟨k,t,c,u,o⟩).2 ap lp cp vo va/\Below w.heap.size w Wc/\w.heap.size<Wc.heap.size/\w.heap.size<W5.heap.size/\iI W5 W6 B R va S.ansL.length (rT S.ansL) [.string (strOfNums bs),iv t,iv (S.doS ⟨k,t,c,u,o⟩).1.kind,iv (S.doS ⟨k,t,c,u,o⟩).1.order,iv (S.doS ⟨k,t,c,u,o⟩).1.cents,iv (S.doS ⟨k,t,c,u,o⟩).1.upto,iv S.now]/\Same (fun x=>x=w.heap.size) W6 w')->Yq w w' B R { (S.doS ⟨k,t,c,u,o⟩).2 with ansL:=(S.doS ⟨k,t,c,u,o⟩).2.ansL++[⟨strOfNums bs,t,(S.doS ⟨k,t,c,u,o⟩).1,S.now⟩] } ap lp cp vo va:=by
     rintro w' ⟨Wc,W5,W6,q1,q2,q3,q4,q5,q6⟩
     exact YN h hBR m3 ⟨strOfNums bs,t,(S.doS ⟨k,t,c,u,o⟩).1,S.now⟩ q1 q3 q4 q5 q6
    refine (Pg R bl bc ba k t c u o w hk3 va S.ansL S.remem c10 hd hl64 hf _ _ c6 hm hla B (rT S.ansL) S.now _ _ _ _ _ hown (fun Wc W=>Zn w Wc W B R (S.doS ⟨k,t,c,u,o⟩).2 ap lp cp vo va) bs hBw ⟨fun hk W hW=>?_,fun hk W hW=>?_,fun hk W hW=>?_⟩ HQS HQ1 HUP HR HAN).mono (by rintro e w' ⟨rfl,hq⟩;exact ⟨rfl,fin w' hq⟩)
    ·have hr:1<=c/\1<=u/\u<=4294967296:=by rcases hnum with x|x|x<;>omega
     have e1:S.doS ⟨k,t,c,u,o⟩=S.ask ⟨k,t,c,u,o⟩:=by unfold Sal.doS;rw [uQ hk]
     refine (Mr (qL h hW) hI hBR hcap hqm hl ⟨k,t,c,u,o⟩ hr).mono ?_
     rintro e w' ⟨rfl,vo',a1,a2,a3,a4⟩
     rw [← e1] at a1 a2 ⊢
     exact ⟨rfl,HD W hW w' ⟨vo',a1,a2,a3,fun k hk=>(a4 k hk).imp id (fun e=>uO)⟩⟩
    ·have hr:1<=o/\o<=4294967296:=by rcases hnum with x|x|x<;>omega
     have e1:S.doS ⟨k,t,c,u,o⟩=S.confirm ⟨k,t,c,u,o⟩:=by unfold Sal.doS;rw [uP (by show ¬ k=1;omega),uQ hk]
     refine (Ye (qL h hW) hI hl ⟨k,t,c,u,o⟩ hr).mono ?_
     rintro e w' ⟨rfl,a1,a2,a3,a4⟩
     rw [← e1] at a1 a2 ⊢
     exact ⟨rfl,HD W hW w' ⟨vo,a1,a2,Same.trans a4 (Same.of_below (own:=fun _=>False) (uM _ _)) (fun k _ e=>e.elim .inr False.elim),fun k hk=>.inl hk⟩⟩
    ·have hr:1<=o/\o<=4294967296:=by rcases hnum with x|x|x<;>omega
     have e1:S.doS ⟨k,t,c,u,o⟩=S.cancel ⟨k,t,c,u,o⟩:=by unfold Sal.doS;rw [uP (by show ¬ k=1;omega),uP (by show ¬ k=2;omega)]
     refine (Ql (qL h hW) hI hl ⟨k,t,c,u,o⟩ hr).mono ?_
     rintro e w' ⟨rfl,a1,a2,a3,a4⟩
     rw [← e1] at a1 a2 ⊢
     exact ⟨rfl,HD W hW w' ⟨vo,a1,a2,Same.trans a4 (Same.of_below (own:=fun _=>False) (uM _ _)) (fun k _ e=>e.elim .inr False.elim),fun k hk=>.inl hk⟩⟩
end
end
section
def cL (os:List Ord) (to:Int):Nat->Int
 | 0=>-1
 | k+1=>if ((os.getD k qD).state=13\/(os.getD k qD).state=12)/\(os.getD k qD).upto<=to/\(cL os to k<0\/(os.getD k qD).upto<cL os to k) then (os.getD k qD).upto else cL os to k
def Sal.due (S:Sal) (to:Int):Int:=cL S.os to S.os.length
theorem Io (R:Nat) (v:Value) (os:List Ord) (to:Int) (w:World) (h9:w.cell? (aq R 9)=some v) (hd:Xl w v os) (hl:os.length * 48<=140737488355328) :
 Ca 124 #[pt R 0,iv to] w fun e w'=>e=.returned (iv (cL os to os.length))/\Below w.heap.size w w':=by
 obtain ⟨a,cp,rfl,hc⟩:=hd
 have hRw:R<w.heap.size:=uC w _ h9
 have HC:Hid (0<os.length->∃ g,a=some (aq g 0)/\g<w.heap.size/\∀ i,i<os.length->nG w g i (os.getD i qD)):=hc
 have H9:Hid (w.cell? (aq R 9)=some (.slice a os.length cp)):=h9
 clear hc h9
 go_enter Tryz.func124,Tryz.ntmps124
 go_wp2_with fail
 go_loopw [5,6] (fun t i wr=>∃ k:Nat,k<=os.length/\i=iv k/\t=iv (cL os to k)/\Below w.heap.size w wr) (fun _ i _=>os.length - (intOf i).toNat)
 case atStart=>exact ⟨0,Nat.zero_le _,rfl,rfl,uM _ _⟩
 case round =>
  obtain ⟨k,hk,rfl,rfl,hbel⟩:=hrel
  have c9:=(hbel.cell (p:=(aq R 9)) hRw).trans H9.out
  have hRr:R<wr.heap.size:=uB hRw hbel.size
  have hz:=hbel.size
  by_cases hlt:k<os.length
  ·obtain ⟨g,rfl,hgw,hcell⟩:=HC.out uO
   obtain ⟨e0,e1,e2,e3,e4,e5⟩:=nV (hcell k hlt) hbel hgw
   have hgr:g<wr.heap.size:=uB hgw hbel.size
   have HN:Hid (cL os to (k+1)=if ((os.getD k qD).state=13\/(os.getD k qD).state=12)/\(os.getD k qD).upto<=to/\(cL os to k<0\/(os.getD k qD).upto<cL os to k) then (os.getD k qD).upto else cL os to k):=rfl
   have b0:(0:Int)<=(k:Int):=uO
   have b1:(k:Int)<(os.length:Int):=uO
   generalize os.getD k qD=o at e0 e1 e2 e3 e4 e5 HN
   generalize hm1':cL os to (k+1)=m1 at HN
   have HK:Hid (cL os to (k+1)=m1):=hm1'
   generalize cL os to k=m at HN
   clear hm1'
   obtain ⟨ocust,ounits,ostate,ocents,oupto,oended⟩:=o
   simp only at e0 e1 e2 e3 e4 e5 HN
   clear hcell HC
   by_cases h13:ostate=13
   ·subst h13
    by_cases hle:oupto<=to
    ·have d1:decide (oupto<=to)=true:=by simpa using hle
     by_cases hng:m<0
     ·have d2:decide (m<0)=true:=by simpa using hng
      have hm2:m1=oupto:=by have:=HN.out;rw [uQ ⟨by simp,hle,.inl hng⟩] at this;exact this
      subst hm2
      go_wp2
      exact ⟨⟨k+1,uO,vN,by rw [HK.out],bL⟩,by simp [intOf];omega⟩
     ·have d2:decide (m<0)=false:=by simpa using hng
      by_cases hl2:oupto<m
      ·have d3:decide (oupto<m)=true:=by simpa using hl2
       have hm2:m1=oupto:=by have:=HN.out;rw [uQ ⟨by simp,hle,.inr hl2⟩] at this;exact this
       subst hm2
       go_wp2
       exact ⟨⟨k+1,uO,vN,by rw [HK.out],bL⟩,by simp [intOf];omega⟩
      ·have d3:decide (oupto<m)=false:=by simpa using hl2
       have hm2:m1=m:=by have:=HN.out;rw [uP (fun c=>c.2.2.elim hng hl2)] at this;exact this
       subst hm2
       go_wp2
       exact ⟨⟨k+1,uO,vN,by rw [HK.out],bL⟩,by simp [intOf];omega⟩
    ·have d1:decide (oupto<=to)=false:=by simpa using hle
     have hm2:m1=m:=by have:=HN.out;rw [uP (fun c=>hle c.2.1)] at this;exact this
     subst hm2
     go_wp2
     exact ⟨⟨k+1,uO,vN,by rw [HK.out],bL⟩,by simp [intOf];omega⟩
   ·have q13:(ostate==13)=false:=by simpa using h13
    by_cases h12:ostate=12
    ·subst h12
     clear q13 h13
     by_cases hle:oupto<=to
     ·have d1:decide (oupto<=to)=true:=by simpa using hle
      by_cases hng:m<0
      ·have d2:decide (m<0)=true:=by simpa using hng
       have hm2:m1=oupto:=by have:=HN.out;rw [uQ ⟨by simp,hle,.inl hng⟩] at this;exact this
       subst hm2
       go_wp2
       exact ⟨⟨k+1,uO,vN,by rw [HK.out],bL⟩,by simp [intOf];omega⟩
      ·have d2:decide (m<0)=false:=by simpa using hng
       by_cases hl2:oupto<m
       ·have d3:decide (oupto<m)=true:=by simpa using hl2
        have hm2:m1=oupto:=by have:=HN.out;rw [uQ ⟨by simp,hle,.inr hl2⟩] at this;exact this
        subst hm2
        go_wp2
        exact ⟨⟨k+1,uO,vN,by rw [HK.out],bL⟩,by simp [intOf];omega⟩
       ·have d3:decide (oupto<m)=false:=by simpa using hl2
        have hm2:m1=m:=by have:=HN.out;rw [uP (fun c=>c.2.2.elim hng hl2)] at this;exact this
        subst hm2
        go_wp2
        exact ⟨⟨k+1,uO,vN,by rw [HK.out],bL⟩,by simp [intOf];omega⟩
     ·have d1:decide (oupto<=to)=false:=by simpa using hle
      have hm2:m1=m:=by have:=HN.out;rw [uP (fun c=>hle c.2.1)] at this;exact this
      subst hm2
      go_wp2
      exact ⟨⟨k+1,uO,vN,by rw [HK.out],bL⟩,by simp [intOf];omega⟩
    ·have q12:(ostate==12)=false:=by simpa using h12
     have hm2:m1=m:=by have:=HN.out;rw [uP (fun c=>c.1.elim h13 h12)] at this;exact this
     subst hm2
     go_wp2
     exact ⟨⟨k+1,uO,vN,by rw [HK.out],bL⟩,by simp [intOf];omega⟩
  ·have hke:k=os.length:=uO
   subst hke
   go_wp2
   go_ret
   exact ⟨rfl,hbel⟩
section
variable {w:World} {B R:Nat} {S:Sal} {ap:Option Addr} {lp cp:Nat} {vo va:Value}
theorem Qy (h:saleAt w B R S ap lp cp vo va) (hl:S.os.length * 48+48<=140737488351232) (to:Int) :
 ∀ W,Below w.heap.size w W->Ca 124 #[pt R 0,iv to] W fun e w'=>e=.returned (iv (S.due to))/\Below W.heap.size W w':=by
 intro W hW
 have h':=qL h hW
 exact Io R vo S.os to W (cB h'.blk) (oJ h'.os) uO
end
end
section
def zA (S:Sal) (st en:Int):Nat->Sal
 | 0=>S
 | k+1=>if ((zA S st en k).os.getD k qD).state=st/\((zA S st en k).os.getD k qD).upto=S.now then (zA S st en k).ends k en else zA S st en k
def Sal.past (S:Sal) (st en:Int):Sal:=(zA S st en S.os.length).promote
theorem Ga (R n cp:Nat) (a:Option Addr) (st en now:Int) (w:World) (hn:n * 48<=140737488355328) (Q:Nat->World->Prop) (P:World->Prop) (sts ups:Nat->Int) (h0:Q 0 w)
 (HQ:Hid (∀ k W,Q k W->W.cell? (aq R 9)=some (.slice a n cp)/\W.cell? (aq R 8)=some (iv now)/\R<W.heap.size/\(k<n->∃ g,a=some (aq g 0)/\g<W.heap.size/\W.cell? (aq g (k * 6+2))=some (iv (sts k))/\W.cell? (aq g (k * 6+4))=some (iv (ups k)))))
 (HE:Hid (∀ k W,k<n->sts k=st/\ups k=now->Q k W->Ca 149 #[pt R 0,iv k,iv en] W fun e w'=>e=.returned (.tuple #[])/\Q (k+1) w'))
 (HS:Hid (∀ k W,k<n->¬ (sts k=st/\ups k=now)->Q k W->Q (k+1) W))
 (HD:Hid (∀ k W W',Q k W->Below W.heap.size W W'->Q k W'))
 (HP:Hid (∀ W,Q n W->Ca 150 #[pt R 0] W fun e w'=>e=.returned (.tuple #[])/\P w')) :
 Ca 125 #[pt R 0,iv st,iv en] w fun e w'=>e=.returned (.tuple #[])/\P w':=by
 have H0:Hid (Q 0 w):=h0
 clear h0
 go_enter Tryz.func125,Tryz.ntmps125
 go_wp2_with fail
 go_loopw [6] (fun i wr=>∃ k:Nat,k<=n/\i=iv k/\Hid (Q k wr)) (fun i _=>n - (intOf i).toNat)
 case atStart=>exact ⟨0,Nat.zero_le _,rfl,H0⟩
 case round =>
  obtain ⟨k,hk,rfl,hq⟩:=hrel
  obtain ⟨c9,c8,hRr,hcell⟩:=HQ.out k wr hq.out
  by_cases hlt:k<n
  ·obtain ⟨g,rfl,hgr,e2,e4⟩:=hcell hlt
   have b0:(0:Int)<=(k:Int):=uO
   have b1:(k:Int)<(n:Int):=uO
   clear hcell
   by_cases hs:sts k=st
   ·have q1:(sts k==st)=true:=by simpa using hs
    by_cases hu:ups k=now
    ·have q2:(ups k==now)=true:=by simpa using hu
     have HEK:Hid (∀ W,Q k W->Ca 149 #[pt R 0,iv k,iv en] W fun e w'=>e=.returned (.tuple #[])/\Q (k+1) w'):=fun W=>HE.out k W hlt ⟨hs,hu⟩
     clear hs hu
     generalize sts k=sk at e2 q1
     generalize ups k=uk at e4 q2
     go_wp2_with fail
     go_quiet (fail)
     go_wp2_with (go_at_call 149;refine (HEK.out _ (HD.out k wr _ hq.out bL)).mono ?_;rintro e w2 ⟨rfl,hq2⟩)
     exact ⟨⟨k+1,uO,vN,hq2⟩,by simp [intOf];omega⟩
    ·have q2:(ups k==now)=false:=by simpa using hu
     have hq2:=HS.out k wr hlt (fun c=>hu c.2) hq.out
     clear hs hu
     generalize sts k=sk at e2 q1
     generalize ups k=uk at e4 q2
     go_wp2_with fail
     go_quiet (fail)
     go_wp2
     exact ⟨⟨k+1,uO,vN,HD.out _ wr _ hq2 bL⟩,by simp [intOf];omega⟩
   ·have q1:(sts k==st)=false:=by simpa using hs
    have hq2:=HS.out k wr hlt (fun c=>hs c.1) hq.out
    clear hs
    generalize sts k=sk at e2 q1
    go_wp2_with fail
    go_quiet (fail)
    go_wp2
    exact ⟨⟨k+1,uO,vN,HD.out _ wr _ hq2 bL⟩,by simp [intOf];omega⟩
  ·have hke:k=n:=uO
   subst hke
   clear hcell
   go_wp2_with (go_at_call 150;refine (HP.out _ hq.out).mono ?_;rintro e w2 ⟨rfl,hq2⟩)
   go_end0
   exact ⟨rfl,hq2⟩
theorem jA (S:Sal) (st en:Int):∀ k,(zA S st en k).os.length=S.os.length
 | 0=>rfl
 | k+1=>by
   have ih:=jA S st en k
   unfold zA
   split
   ·rw [jU];exact ih
   ·exact ih
theorem vL (S:Sal) (st en:Int):∀ k,(zA S st en k).C=S.C/\(zA S st en k).now=S.now/\(zA S st en k).ansL=S.ansL
 | 0=>⟨rfl,rfl,rfl⟩
 | k+1=>by
   have ih:=vL S st en k
   unfold zA
   split
   ·exact ih
   ·exact ih
theorem eI {S:Sal} (h:salI S) (st en:Int) (hen:en≠12/\en≠13/\en≠14):∀ k,k<=S.os.length->salI (zA S st en k)
 | 0,_=>h
 | k+1,hk=>by
   have ih:=eI h st en hen k uO
   unfold zA
   split
   ·exact rN ih (by rw [jA];omega) en (.inr hen) (fun e=>absurd e hen.2.2)
   ·exact ih
section
variable {w:World} {B R:Nat} {S:Sal} {ap:Option Addr} {lp cp:Nat} {vo va:Value}
theorem sX (h:saleAt w B R S ap lp cp vo va) (hI:salI S) (hl:S.os.length * 48+48<=140737488351232) (st en:Int) (hen:en≠12/\en≠13/\en≠14) :
 Ca 125 #[pt R 0,iv st,iv en] w fun e w'=>e=.returned (.tuple #[])/\xU w w' B R (S.past st en) ap lp cp vo va S.os.length:=by
 obtain ⟨oo,oc,hvo⟩:=yE h.os
 have hnow:∀ k,(zA S st en k).now=S.now:=fun k=>(vL S st en k).2.1
 refine Ga R S.os.length oc oo st en S.now w uO (fun k W=>k<=S.os.length/\xU w W B R (zA S st en k) ap lp cp vo va S.os.length) _ (fun k=>((zA S st en k).os.getD k qD).state) (fun k=>((zA S st en k).os.getD k qD).upto) ⟨Nat.zero_le _,kU h hI (uM _ _)⟩ (fun k W hW=>?_) (fun k W hk hc hW=>?_) (fun k W hk hc hW=>?_) (fun k W W' hW hb=>⟨hW.1,lQ hW.2 hb⟩) (fun W hW=>?_)
 ·obtain ⟨_,_,_,_,_,_,_,_,x8,x9,_⟩:=jS hW.2.1.blk
  rw [hnow] at x8
  rw [hvo] at x9
  refine ⟨x9,x8,uC W _ x9,fun hk=>?_⟩
  obtain ⟨g,cap,hv,hg,_,_,ho,_⟩:=eF hW.2.1 (i:=k) (by rw [jA];exact hk)
  rw [hvo] at hv
  simp at hv
  exact ⟨g,hv.1,hg,ho.2.2.1,ho.2.2.2.2.1⟩
 ·refine (mF hW.2.1 (i:=k) (by rw [jA];exact hk) en W (uM _ _)).mono ?_
  rintro e w' ⟨rfl,a1,a2⟩
  have e1:zA S st en (k+1)=(zA S st en k).ends k en:=by rw [zA,uQ hc]
  rw [← e1] at a1
  exact ⟨rfl,hk,a1,eI hI st en hen _ hk,jA S st en _,Same.trans hW.2.2.2.2 a2 (fun k _ e=>e.elim id id)⟩
 ·have e1:zA S st en (k+1)=zA S st en k:=by rw [zA,uP hc]
  rw [e1]
  exact ⟨hk,hW.2⟩
 ·obtain ⟨_,b1,b2,b3,b4⟩:=hW
  refine (gE B R _ ap lp cp vo va W b1 b2 (by rw [b3];exact hl)).mono ?_
  rintro e w' ⟨rfl,a1,a2,a3⟩
  exact ⟨rfl,a1,a2,(jL _).trans b3,Same.trans b4 a3 (fun k _ e=>e.elim id id)⟩
end
end
