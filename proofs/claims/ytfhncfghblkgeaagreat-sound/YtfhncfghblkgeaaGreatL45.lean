import Derived.Test.YtfhncfghblkgeaaGreatL44
set_option maxRecDepth 100000
set_option maxHeartbeats 2000000
namespace Go.Proofs.YtfhncfghblkgeaaGreat
open Go.RowKit
section
open Go.ChangeShapes Go.WideShapes Go.ChangeAt Go.RowKit
def klS (S0:Sal) (ps:List Stp):Nat->List Kn
 | 0=>[]
 | j+1=>jcf (klS S0 ps j) (ps.getD j jkc) ((qb9 S0 ps j).does (ps.getD j jkc)).1
theorem qcc (S:Sal) (p:Stp):(S.does p).2.C=S.C:=by
 unfold Sal.does
 split
 ·split
  ·exact (ji8 S p.n).1
  ·unfold Sal.sendK
   split
   ·exact (jl5 S _ _ _).1
   ·rfl
 ·rfl
theorem qaa (S0:Sal) (ps:List Stp):∀ j,(qb9 S0 ps j).C=S0.C
 | 0=>rfl
 | j+1=>(qcc _ _).trans (qaa S0 ps j)
theorem juq (n0 n1 n2 n3 n4 n5 n6:Int) (a:Option Addr) (len cap:Nat) (ts:List (Int × Int)) (sa:Option Addr) (sl sc:Nat) (ps:List Stp) (w:World) (ht:tiersAt w a len cap ts) (hps:stepsAt w sa sl ps) (hfine:∀ p∈ps,p.fine) (hl:sl * 48<=140737488351232) :
 Calls Tryz.prog 9 #[.agg #[iv n0,iv n1,iv n2,iv n3,iv n4,iv n5,iv n6,.slice a len cap,.slice sa sl sc]] w fun e w'=>e=.returned (.bool true)/\Below w.heap.size w w':=by
 cases hc:jgk [n0,n1,n2,n3,n4,n5,n6] ts
 ·refine jub _ _ _ _ _ _ _ _ sa sl sc w (fun W hW=>?_)
  refine (jsh (sa:=sa) (sl:=sl) (sc:=sc) (ht.below hW (Nat.le_refl _))).mono ?_
  rintro e w' (⟨_,rfl,hb⟩|⟨hc',_⟩)
  ·exact ⟨rfl,hb⟩
  ·rw [hc] at hc';cases hc'
 ·have hfj:∀ j,j<sl->(ps.getD j jkc).fine:=fun j hj=>by
   have hj':j<ps.length:=by rw [hps.1];exact hj
   refine hfine _ ?_
   simp [List.getD,List.getElem?_eq_getElem hj']
  have hcc:=hc
  unfold jgk at hcc
  simp only [List.all_cons,List.all_nil,Bool.and_true,Bool.and_eq_true] at hcc
  obtain ⟨⟨_,g1,g2,_,_,_,g6⟩,_⟩:=hcc
  have pos:∀ n:Int,jby n=true->0<=n:=fun n h=>by unfold jby at h;simp at h;omega
  have hstart:kInv (jh1 ⟨n0,n1,n2,n3,n4,n5,n6,ts⟩) []:=jsu rfl rfl (pos n1 g1) (pos n2 g2) (pos n6 g6)
  refine jta sl _ _ _ _ _ _ _ _ sa sc ps w (fun x=>juv x (jh1 ⟨n0,n1,n2,n3,n4,n5,n6,ts⟩)) (fun x=>jh6 x _) (fun a b j=>sdP a b (qb9 (jh1 ⟨n0,n1,n2,n3,n4,n5,n6,ts⟩) ps j) (klS (jh1 ⟨n0,n1,n2,n3,n4,n5,n6,ts⟩) ps j)) (fun a b j=>sdQ a b (qb9 (jh1 ⟨n0,n1,n2,n3,n4,n5,n6,ts⟩) ps (j+1)) (klS (jh1 ⟨n0,n1,n2,n3,n4,n5,n6,ts⟩) ps j) (ps.getD j jkc) ((qb9 (jh1 ⟨n0,n1,n2,n3,n4,n5,n6,ts⟩) ps j).does (ps.getD j jkc)).1) (fun _ _ _=>qbl _ _ _ _) (fun _ _ _=>qak _ _ _ _ _ _) (fun j=>((qb9 (jh1 ⟨n0,n1,n2,n3,n4,n5,n6,ts⟩) ps j).does (ps.getD j jkc)).1) (by omega) hps ?_ ?_ ?_ ?_ ?_
  ·intro W hW
   refine (jsh (sa:=sa) (sl:=sl) (sc:=sc) (ht.below hW (Nat.le_refl _))).mono ?_
   rintro e w' (⟨hc',_⟩|⟨_,h⟩)
   ·rw [hc] at hc';cases hc'
   ·exact h
  ·intro a L W o1 o h1 h2 h3 h4
   exact ⟨⟨o1,fun k=>k=L,h1,jte h2,fun k e c=>h3 k e c,h4⟩,hstart⟩
  ·intro xa xb j hj W o hp
   have:=jz2 hp (iv n3) (iv n4) (iv n5) (.slice a len cap) (.slice sa sl sc)
   rw [qaa] at this
   exact this
  ·intro a b j hj W o hp
   exact qbx hp (ps.getD j jkc) (hfj j hj)
  ·intro a b j hj W o hp
   exact jzb hp
end
section
open Go.ChangeShapes Go.WideShapes Go.ChangeAt Go.RowKit
theorem jpn (os:Os) (started:os.Started) (H:Type) (enc:TypeId × Value->H) :
 ReturnsInHanded {} Tryz.checked os 9 .any (Rows.soundSpec.pre6 enc Tryz.prog Tryz.f9 Rows.soundRow.domain false) (Rows.soundSpec.post enc Tryz.prog Tryz.f9 false true false false):=by
 refine returnsInHanded_of_change_sized (C:=Tryz.checked) own started (by kernel_rfl) Tryz.func9
  (ChangeSpec.witness6 (enc:=enc) (C:=Tryz.checked) false ⟨#[],#[.agg #[iv 0,iv 0,iv 0,iv 0,iv 0,iv 0,iv 0,.slice none 0 0,.slice none 0 0]],[]⟩ 8 (by kernel_rfl) (by kernel_rfl) (by kernel_rfl) (by kernel_rfl)) ?_
 intro W base args ds gs before hval0 hW hcnd hsz0 _
 have hval:∀ (j:Nat) t v,Tryz.f9.params[j]?=some t->args[j]?=some v->Value.okWide Tryz.prog W .any base t v:=hval0
 have hsz:(DataW.weightsEach Tryz.prog (Tryz.f9.params.toList++Rows.soundSpec.plain.varTypes Tryz.prog) (ds++gs)).all (·<=reachBytes)=true:=hsz0
 have hW':=hW
 obtain ⟨p,q,hA0,hV,rfl,hfz,hnd⟩:=hW
 have hA:DataW.TrodAll enc Tryz.prog W 0 (fun _=>true) true Tryz.f9.params.toList args.toList ds p:=hA0
 rw [Tryz.params9] at hA hval hsz
 obtain ⟨v0,vs0,d0,ds0,p0,q0,hargs,rfl,rfl,h0,r0⟩:=trodAll_cons hA
 obtain ⟨rfl,rfl,rfl⟩:=trodAll_nil r0
 obtain rfl:args=#[v0]:=by cases args;simp_all
 obtain ⟨rfl,rfl⟩:=trodVars_none hV
 have k0:=h0
 have lt0:∀ x∈p0,x.block<W.heap.size:=by obtain ⟨m,hm⟩:=k0;exact DataW.trod_lt m _ _ _ hm
 have w0:wOK 32 d0:=fun x hx=>by simpa using List.all_eq_true.1 hsz x (DataW.weights_mem_each (j:=0) rfl rfl x hx)
 obtain ⟨n0,n1,n2,n3,n4,n5,n6,a,len,cap,ts,sa,sl,sc,ps,rfl,ht,hps,hfine,hl⟩:=jwx (hval 0 32 v0 rfl rfl) h0 w0
 clear hA0 hval0
 refine (juq n0 n1 n2 n3 n4 n5 n6 a len cap ts sa sl sc ps  W ht hps hfine hl).mono fun e W' ⟨he,bel⟩=>?_
 subst he
 exact ⟨_,rfl,_,_,_,[],_,[],hW',trodAll_mk1 (shut_bool Tryz.underlying4 _),(trodAll_cons_mk (Below.trod qat (by kernel_rfl) (of_decide_eq_true (by kernel_rfl)) k0 bel lt0) trodAll_mk0),rfl,bel.frame _,fun h=>by cases h⟩
theorem sound_holds:Rows.SoundSaid :=
 OpenClaim.holds_of_wide 9 Tryz.f9 rfl rfl rfl rfl rfl rfl rfl ⟨rfl,rfl,rfl,rfl,rfl⟩ rfl rfl rfl rfl rfl (by kernel_rfl) Tryz.func9 (by kernel_rfl)
  (of_decide_eq_true (by kernel_rfl)) (by unfold Func.isWrapper;first|(rw [if_pos (by decide +kernel)];kernel_rfl)|(rw [if_neg (by decide +kernel)];exact ⟨rfl,rfl⟩))
  (fun os started H enc _=>jpn os started H enc)
end
end Go.Proofs.YtfhncfghblkgeaaGreat
