import Derived.Test.YtfhncfghblkgeaaGreatL13
set_option maxRecDepth 100000
set_option maxHeartbeats 2000000
namespace Go.Proofs.YtfhncfghblkgeaaGreat
open Go.RowKit
def UN (l:List Int) (k t c u o err:Int):Prop :=
 (err=0/\isB k t c u o=true/\l=jak k (jat k t c u o)) ∨
 (err=2/\k=0/\t=0/\c=0/\u=0/\o=0/\∀ k t c u o:Int,isB k t c u o=true->l≠jak k (jat k t c u o))
theorem jea {w:World} {b off len cap:Nat} {x:Int} {tl:List Int} (h:jah w (some (aq b off)) len cap (x :: tl)) :
 1<=len/\len<=cap/\cap<=maxLen/\w.cell? (aq b off)=some (.int .u8 x)/\jah w (if cap=1 then some (aq b off) else some (aq b (off+1))) (len - 1) (cap - 1) tl:=by
 have hd:=jjq (g:=[x]) (r:=tl) (k:=1) h rfl
 obtain ⟨h1,h2,h3,h4,h5⟩:=h
 simp at h1
 obtain ⟨b',off',ha,hb',hc⟩:=h5 (by simp)
 simp at ha
 obtain ⟨rfl,rfl⟩:=ha
 exact ⟨by omega,h2,h3,by simpa using hc 0 (by omega),hd⟩
theorem jct (a:Option Addr) (len cap:Nat) (l:List Int) (w:World) (h:jah w a len cap l) :
 Calls Tryz.prog 97 #[.slice a len cap,iv 3] w fun e w'=>∃ v ok,e=.returned (.tuple #[v,.bool ok])/\jl7 w' w.heap.size 3 l v ok/\Below w.heap.size w w' :=
 jg0 a len cap 3 l w (by omega) h
theorem jic (a:Option Addr) (len cap:Nat) (l:List Int) (w:World) (h:jah w a len cap l) :
 Calls Tryz.prog 97 #[.slice a len cap,iv 2] w fun e w'=>∃ v ok,e=.returned (.tuple #[v,.bool ok])/\jl7 w' w.heap.size 2 l v ok/\Below w.heap.size w w' :=
 jg0 a len cap 2 l w (by omega) h
theorem jaw {B b:Nat} {w w2:World} {v0 v1 v2 v3 v4:Value} (h:Below B w w2) (hb:B<=b) :
 Below B w (((((w2.setCell (aq b 0) v0).setCell (aq b 1) v1).setCell (aq b 2) v2).setCell (aq b 3) v3).setCell (aq b 4) v4) :=
 ((((h.setCell (p:=(aq b 0)) hb v0).setCell (p:=(aq b 1)) hb v1).setCell (p:=(aq b 2)) hb v2).setCell (p:=(aq b 3)) hb v3).setCell (p:=(aq b 4)) hb v4
def cnt (k:Int):Nat:=if k=1 then 3 else if k=2\/k=3 then 3 else if k=4 then 2 else 0
theorem jk7 {k t c u o:Int} (h:isB k t c u o=true):(jat k t c u o).all jby=true/\(jat k t c u o).length=cnt k/\0<cnt k:=by
 unfold isB at h
 unfold jat cnt
 split at h
 ·next h1=>simp [h1] at h ⊢;simp [h]
 ·next h1 =>
  split at h
  ·next h2=>simp [h1,h2] at h ⊢;simp [h]
  ·next h2 =>
   split at h
   ·next h4=>simp [h4] at h ⊢;simp [h]
   ·simp at h
theorem jme:∀ (ns:List Int),ns.flatMap (fun n=>jcn n.toNat)=jci (ns.map Int.toNat)
 | []=>rfl
 | n :: ns=>by
   have:=jme ns
   simp only [List.flatMap_cons,List.map_cons,jci] at this ⊢
   rw [this]
theorem jcg (k:Int) (ns:List Int):jak k ns=k :: jci (ns.map Int.toNat):=by
 unfold jak;rw [jme]
theorem jgp:∀ (ns:List Int),ns.all jby=true->((ns.map Int.toNat).map fun n:Nat=>(n:Int))=ns
 | [],_=>rfl
 | n :: ns,h=>by
   simp at h
   obtain ⟨m,rfl,_,_⟩:=jzz h.1
   have:=jgp ns (by simp;exact h.2)
   simp only [List.map_cons,this]
   simp
theorem jx6 {k k' t c u o:Int} {tl:List Int} (h:isB k' t c u o=true) (e:k :: tl=jak k' (jat k' t c u o)) :
 ∃ ns:List Nat,tl=jci ns/\ns.length=cnt k/\0<cnt k/\(ns.map fun n:Nat=>(n:Int)).all jby=true:=by
 obtain ⟨ha,hl,hp⟩:=jk7 h
 rw [jcg] at e
 simp at e
 obtain ⟨rfl,rfl⟩:=e
 exact ⟨_,rfl,by simpa using hl,hp,by rw [jgp _ ha];exact ha⟩
theorem qcf {ns:List Nat} (h:(ns.map fun n:Nat=>(n:Int)).all jby=true):∀ n∈ns,n<34359738368:=by
 intro n hn
 have:=List.all_eq_true.1 h (n:Int) (List.mem_map.2 ⟨n,hn,rfl⟩)
 simp [jby] at this
 omega
theorem jpr {k:Int} {count:Nat} {tl:List Int} (hc:cnt k=count) (H:∀ ns:List Nat,ns.length=count->(∀ n∈ns,n<34359738368)->tl≠jci ns):UN (k :: tl) 0 0 0 0 0 2 :=
 .inr ⟨rfl,rfl,rfl,rfl,rfl,rfl,fun k' t c u o h e=>by
  obtain ⟨ns,h1,h2,_,h4⟩:=jx6 h e
  exact H ns (h2.trans hc) (qcf h4) h1⟩
theorem jx0 {k:Int} {tl:List Int} (hc:cnt k=0):UN (k :: tl) 0 0 0 0 0 2 :=
 .inr ⟨rfl,rfl,rfl,rfl,rfl,rfl,fun k' t c u o h e=>by
  obtain ⟨ns,_,_,h3,_⟩:=jx6 h e
  omega⟩
theorem qcp:UN [] 0 0 0 0 0 2:=.inr ⟨rfl,rfl,rfl,rfl,rfl,rfl,fun k' t c u o _ e=>by simp [jak] at e⟩
theorem jkh {k:Int} {ms:List Nat} {tl:List Int} (hc:cnt k=ms.length) (ht:tl=jci ms) (hb:(ms.map fun n:Nat=>(n:Int)).all jby=false):UN (k :: tl) 0 0 0 0 0 2 :=
 .inr ⟨rfl,rfl,rfl,rfl,rfl,rfl,fun k' t c u o h e=>by
  obtain ⟨ns,h1,h2,_,h4⟩:=jx6 h e
  obtain ⟨ms',e1,e2⟩:=je3 ms ns [] (by omega) (by rw [← ht,h1];simp)
  have:ms'=[]:=List.eq_nil_of_length_eq_zero (by have:=congrArg List.length e1;simp at this;omega)
  subst this
  simp at e1
  subst e1
  rw [hb] at h4
  simp at h4⟩
theorem jyp {a b c:Nat} {tl:List Int} (ht:tl=jci [a,b,c]) (h:[(a:Int),(b:Int),(c:Int)].all jby=true):UN (1 :: tl) 1 a b c 0 0:=by
 simp at h
 exact .inl ⟨rfl,by simp [isB,h],by rw [jcg,ht];simp [jat]⟩
theorem jyk {a b c:Nat} {tl:List Int} (ht:tl=jci [a,b,c]) (h:[(a:Int),(b:Int),(c:Int)].all jby=true):UN (2 :: tl) 2 a b 0 c 0:=by
 simp at h
 exact .inl ⟨rfl,by simp [isB,h],by rw [jcg,ht];simp [jat]⟩
theorem jzg {a b c:Nat} {tl:List Int} (ht:tl=jci [a,b,c]) (h:[(a:Int),(b:Int),(c:Int)].all jby=true):UN (3 :: tl) 3 a b 0 c 0:=by
 simp at h
 exact .inl ⟨rfl,by simp [isB,h],by rw [jcg,ht];simp [jat]⟩
theorem jyz {a b:Nat} {tl:List Int} (ht:tl=jci [a,b]) (h:[(a:Int),(b:Int)].all jby=true):UN (4 :: tl) 4 0 a 0 b 0:=by
 simp at h
 exact .inl ⟨rfl,by simp [isB,h],by rw [jcg,ht];simp [jat]⟩
theorem jmy {w':World} {B:Nat} {l:List Int} {v:Value} (h:jl7 w' B 3 l v true) :
 ∃ (x y z g cap:Nat),l=jci [x,y,z]/\v=.slice (some (aq g 0)) 3 cap/\B<=g/\g<w'.heap.size/\w'.cell? (aq g 0)=some (iv x)/\w'.cell? (aq g 1)=some (iv y)/\w'.cell? (aq g 2)=some (iv z):=by
 obtain ⟨ns,hn,_,hl,ho⟩:=h.1 rfl
 match ns,hn with
 | [x,y,z],_ =>
   rcases ho.2 with ⟨_,h0⟩|⟨g,cap,cur,rfl,hg,hh,_⟩
   ·simp at h0
   ·have c0:=ho.cells (g:=g) rfl 0 (iv x) rfl
    have c1:=ho.cells (g:=g) rfl 1 (iv y) rfl
    have c2:=ho.cells (g:=g) rfl 2 (iv z) rfl
    exact ⟨x,y,z,g,cap,hl,rfl,hg,(blt hh),by simpa [Addr.add_lit] using c0,by simpa [Addr.add_lit] using c1,by simpa [Addr.add_lit] using c2⟩
theorem qa9 {w':World} {B:Nat} {l:List Int} {v:Value} (h:jl7 w' B 2 l v true) :
 ∃ (x y g cap:Nat),l=jci [x,y]/\v=.slice (some (aq g 0)) 2 cap/\B<=g/\g<w'.heap.size/\w'.cell? (aq g 0)=some (iv x)/\w'.cell? (aq g 1)=some (iv y):=by
 obtain ⟨ns,hn,_,hl,ho⟩:=h.1 rfl
 match ns,hn with
 | [x,y],_ =>
   rcases ho.2 with ⟨_,h0⟩|⟨g,cap,cur,rfl,hg,hh,_⟩
   ·simp at h0
   ·have c0:=ho.cells (g:=g) rfl 0 (iv x) rfl
    have c1:=ho.cells (g:=g) rfl 1 (iv y) rfl
    exact ⟨x,y,g,cap,hl,rfl,hg,(blt hh),by simpa [Addr.add_lit] using c0,by simpa [Addr.add_lit] using c1⟩
end Go.Proofs.YtfhncfghblkgeaaGreat
