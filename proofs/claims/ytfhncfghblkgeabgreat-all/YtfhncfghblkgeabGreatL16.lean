import Derived.Test.YtfhncfghblkgeabGreatL15
set_option maxRecDepth 100000
set_option maxHeartbeats 2000000
namespace Go.Proofs.YtfhncfghblkgeabGreat
open Go.RowKit
def NP (tl:List Int) (p:Nat) (ms:List Nat) (cur:List Int):Prop :=
 Fl cur/\∃ D,tl.take p=D++cur/\∀ ns:List Nat,(∀ n∈ns,n<34359738368)->tl=yZ ns->∃ ns2,ns=ms++ns2/\D=yZ ms
def QG (tl:List Int) (ms:List Nat):Prop:=∀ ns:List Nat,ns.length<=3->(∀ n∈ns,n<34359738368)->tl=yZ ns->ms=ns
theorem Ci (tl:List Int):NP tl 0 [] []:=⟨fun _ h=>by simp at h,[],by simp,fun ns _ _=>⟨ns,rfl,rfl⟩⟩
theorem Xh {tl:List Int} {p:Nat} {x:Int} (hp:p<tl.length) (hx:tl.getD p 0=x):tl.take (p+1)=tl.take p++[x]:=by
 rw [List.take_succ_eq_append_getElem hp]
 simp [List.getD,uD hp] at hx
 rw [hx]
theorem Hs {tl:List Int} {p:Nat} {x:Int} (hp:p<tl.length) (hx:tl.getD p 0=x):tl=tl.take p++x :: tl.drop (p+1):=by
 conv=>lhs;rw [← List.take_append_drop p tl]
 congr 1
 rw [List.drop_eq_getElem_cons hp]
 simp [List.getD,uD hp] at hx
 rw [hx]
theorem Sj {tl:List Int} {p:Nat} {ms:List Nat} {cur:List Int} {x:Int} (h:NP tl p ms cur) (hp:p<tl.length) (hx:tl.getD p 0=x) (h0:128<=x) (h1:x<256):NP tl (p+1) ms (cur++[x]):=by
 obtain ⟨hg,D,hd,hn⟩:=h
 refine ⟨fun y hy=>?_,D,by rw [Xh hp hx,hd,List.append_assoc],hn⟩
 rcases List.mem_append.1 hy with hy|hy
 ·exact hg y hy
 ·simp at hy;omega
theorem mI (m:Nat) (ns:List Nat):yZ (m :: ns)=jJ m++yZ ns:=rfl
theorem YQ {tl:List Int} {p:Nat} {ms:List Nat} {cur:List Int} {x:Int} (h:NP tl p ms cur) (hp:p<tl.length) (hx:tl.getD p 0=x) (h1:x<128):NP tl (p+1) (ms++[gU (cur++[x])]) []:=by
 obtain ⟨hg,D,hd,hn⟩:=h
 refine ⟨fun _ h=>by simp at h,D++(cur++[x]),by rw [Xh hp hx,hd];simp,fun ns hb e=>?_⟩
 obtain ⟨ns2,e1,e2⟩:=hn ns hb e
 have hs:=Hs hp hx
 rw [hd,List.append_assoc] at hs
 have e':D++(cur++x :: tl.drop (p+1))=yZ ms++yZ ns2:=by rw [← hs,e,e1];simp [yZ]
 rw [e2] at e'
 have e3:=List.append_cancel_left e'
 match ns2 with
 | []=>simp [yZ] at e3
 | m :: ns3 =>
   rw [mI] at e3
   obtain ⟨g,y,ec,hgo,_,hy1,_⟩:=vH m m (uA _)
   rw [ec] at e3
   simp only [List.append_assoc,List.singleton_append] at e3
   obtain ⟨rfl,rfl,_⟩:=rR _ _ _ _ _ _ hg hgo h1 hy1 e3
   have em:m=gU (cur++[x]):=by rw [← ec,eR]
   subst em
   exact ⟨ns3,by rw [e1];simp,by rw [e2,wD,ec]⟩
theorem Pk {m:Nat} {cur rest r:List Int} (hg:Fl cur) (e:cur++rest=jJ m++r) (hl:(jJ m).length<=cur.length):False:=by
 obtain ⟨g,y,ec,_,_,hy1,_⟩:=vH m m (uA _)
 rw [ec] at e hl
 simp at hl
 have h1:(cur++rest)[g.length]?=some y:=by rw [e];simp
 rw [List.getElem?_append_left uO] at h1
 have:=hg y (List.mem_of_getElem? h1)
 omega
theorem Sc {tl:List Int} {p:Nat} {ms:List Nat} {cur:List Int} (h:NP tl p ms cur) (hc:5<=cur.length):QG tl ms:=by
 obtain ⟨hg,D,hd,hn⟩:=h
 intro ns _ hb e
 obtain ⟨ns2,e1,e2⟩:=hn ns hb e
 exfalso
 have hs:tl=D++(cur++tl.drop p):=by rw [← List.append_assoc,← hd,List.take_append_drop]
 have e':D++(cur++tl.drop p)=yZ ms++yZ ns2:=by rw [← hs,e,e1];simp [yZ]
 rw [e2] at e'
 have e3:=List.append_cancel_left e'
 match ns2,e1 with
 | [],_ =>
   have:=congrArg List.length e3
   rw [List.length_append] at this
   simp only [yZ,List.flatMap_nil,List.length_nil] at this
   omega
 | m :: ns3,e1 =>
   rw [mI] at e3
   exact Pk hg e3 (uX (iG (hb m (by rw [e1];simp))) hc)
theorem YB {tl:List Int} {ms:List Nat} {cur:List Int} (h:NP tl tl.length ms cur):QG tl ms:=by
 obtain ⟨hg,D,hd,hn⟩:=h
 intro ns _ hb e
 obtain ⟨ns2,e1,e2⟩:=hn ns hb e
 rw [List.take_of_length_le (uA _)] at hd
 have e':D++cur=yZ ms++yZ ns2:=by rw [← hd,e,e1];simp [yZ]
 rw [e2] at e'
 have e3:=List.append_cancel_left e'
 match ns2,e1,e3 with
 | [],e1,_=>rw [e1];simp
 | m :: ns3,_,e3 =>
   exfalso
   rw [mI] at e3
   exact Pk (rest:=[]) hg (by rw [List.append_nil];exact e3) (by rw [e3];simp)
theorem Qx:∀ (ns:List Nat),(∀ n∈ns,n<34359738368)->(yZ ns).length<=5 * ns.length
 | [],_=>by simp [yZ]
 | n :: ns,h=>by
   have h1:=iG (h n vS)
   have h2:=Qx ns (fun m hm=>h m (by simp [hm]))
   rw [mI]
   simp;omega
theorem ZD {tl:List Int} {ms:List Nat} (hp:19<=tl.length):QG tl ms:=by
 intro ns hl hb e
 have:=Qx ns hb
 rw [← e] at this
 omega
