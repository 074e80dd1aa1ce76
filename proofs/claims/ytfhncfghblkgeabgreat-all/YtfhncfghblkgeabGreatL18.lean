import Derived.Test.YtfhncfghblkgeabGreatL17
set_option maxRecDepth 100000
set_option maxHeartbeats 2000000
namespace Go.Proofs.YtfhncfghblkgeabGreat
open Go.RowKit
theorem Lh (t c u o:Int) (w:World) (hn:[t,c,o].all yU=false) :
 Ca 74 #[.agg #[iv 2,iv t,iv c,iv u,iv o]] w fun e w'=>e=.returned (.tuple #[.slice none 0 0,iv 2])/\Below w.heap.size w w':=by
 have HN:Hid ([t,c,o].all yU=false):=hn
 clear hn
 go_enter Tryz.func74,Tryz.ntmps74
 go_wp2_with (first
  | (go_at_call 63;refine (dB t c u o _).mono ?_;rintro e w' ⟨rfl,rfl⟩)
  | (go_at_call 57;refine (jF _ t c o _ uU uU uU).mono ?_;rintro e w' ⟨rfl,rfl⟩;rw [HN.out]))
 go_ret2
 exact ⟨rfl,bL⟩
theorem Qa (t c u o:Int) (w:World) (hn:[t,c,o].all yU=true) (ho:(u==0)=false) :
 Ca 74 #[.agg #[iv 2,iv t,iv c,iv u,iv o]] w fun e w'=>e=.returned (.tuple #[.slice none 0 0,iv 2])/\Below w.heap.size w w':=by
 have HN:Hid ([t,c,o].all yU=true):=hn
 have ho':(0==u)=false:=by simp at ho ⊢;omega
 clear hn
 go_enter Tryz.func74,Tryz.ntmps74
 go_wp2_with (first
  | (go_at_call 63;refine (dB t c u o _).mono ?_;rintro e w' ⟨rfl,rfl⟩)
  | (go_at_call 57;refine (jF _ t c o _ uU uU uU).mono ?_;rintro e w' ⟨rfl,rfl⟩;rw [HN.out]))
 go_region_held3 (fun w'=>w'.cell? (aq w.heap.size 0)=some (iv 2)/\w'.cell? (aq w.heap.size 1)=some (iv t)/\w'.cell? (aq w.heap.size 2)=some (iv c)/\w'.cell? (aq w.heap.size 3)=some (iv u)/\w'.cell? (aq w.heap.size 4)=some (iv o)) (simp [go_sem,World.cell?_alloc_past, *])
  (first
    | (go_at_call 65;refine (nN _ 0 3 t c o _ uU uU uU).mono ?_;rintro e w' ⟨rfl,hb⟩;obtain ⟨hc,hf⟩:=Yn hb))
 go_wp2
 go_ret2
 exact ⟨rfl,by repeat (first|exact uM _ _|refine Below.drew ?_|refine Below.alloc ?_ (by first|exact uA _|(simp<;>omega)) _|refine uL ?_ (hb.mono uS))⟩
theorem Lu (t c o:Int) (w:World) (hn:[t,c,o].all yU=true) :
 Ca 74 #[.agg #[iv 2,iv t,iv c,iv 0,iv o]] w fun e w'=>∃ v,e=.returned (.tuple #[v,iv 0])/\w'.ownsRow w.heap.size 5 1 v (qE 2 [t,c,o]).length ((qE 2 [t,c,o]).map (Value.int .u8))/\Below w.heap.size w w':=by
 have HN:Hid ([t,c,o].all yU=true):=hn
 clear hn
 obtain ⟨i0,hi,hz0,hz1,hz2⟩:=info_parts Tryz.infoU8
 go_enter Tryz.func74,Tryz.ntmps74
 go_wp2_with (first
  | (go_at_call 63;refine (dB t c 0 o _).mono ?_;rintro e w' ⟨rfl,rfl⟩)
  | (go_at_call 57;refine (jF _ t c o _ uU uU uU).mono ?_;rintro e w' ⟨rfl,rfl⟩;rw [HN.out]))
 go_region_held3 (fun w'=>w'.cell? (aq w.heap.size 0)=some (iv 2)/\w'.cell? (aq w.heap.size 1)=some (iv t)/\w'.cell? (aq w.heap.size 2)=some (iv c)/\w'.cell? (aq w.heap.size 3)=some (iv 0)/\w'.cell? (aq w.heap.size 4)=some (iv o)) (simp [go_sem,World.cell?_alloc_past, *])
  (first
    | (go_at_call 65;refine (nN _ 0 3 t c o _ uU uU uU).mono ?_;rintro e w' ⟨rfl,hb⟩;obtain ⟨hc,hf⟩:=Yn hb))
 have hnum:Hid (cE w' (w.heap.size+1+1) [t,c,o]):=mG HN.out (by rw [hc _ _ uS];simp [go_sem]) (by rw [hc _ _ uS];simp [go_sem]) (by rw [hc _ _ uS];simp [go_sem])
 have hk:w'.cell? (aq w.heap.size 0)=some (iv 2):=by rw [hc _ _ uS];simp [go_sem]
 have hsz:w.heap.size+2<w'.heap.size:=by have:=hb.size;simp at this;omega
 have hw0:Below w.heap.size w w':=by repeat (first|exact uM _ _|refine Below.drew ?_|refine Below.alloc ?_ (by first|exact uA _|(simp<;>omega)) _|refine uL ?_ (hb.mono uS))
 clear hb hc hf
 rename_i hHeld
 clear hHeld
 generalize hb0:w.heap.size=b0 at *
 have HB0:Hid (w.heap.size=b0):=hb0
 clear hb0
 go_wp2_with fail
 generalize hB:w'.heap.size=B at *
 have HB:Hid (w'.heap.size=B):=hB
 clear hB
 go_loopw [5,6] (fun fr i wr=>∃ j:Nat,j<=3/\i=iv j/\wr.ownsRow B 5 1 fr (qE 2 ([t,c,o].take j)).length ((qE 2 ([t,c,o].take j)).map (Value.int .u8))/\Below B w' wr) (fun _ i _=>3 - (intOf i).toNat)
 case atStart=>exact ⟨0,Nat.zero_le _,rfl,xH HB.out _,(uM _ _).alloc (Nat.le_of_eq HB.out.symm) _⟩
 case round =>
  obtain ⟨j,hj,rfl,hown,hbel⟩:=hrel
  have hBr:B<=wr.heap.size:=by have:=hbel.size;rw [HB.out] at this;exact this
  by_cases hlt:j<3
  ·obtain ⟨m,hm,hml,hmc⟩:=hnum.out j hlt
   have hcx:wr.cell? (aq (b0+1+1) j)=some (iv m):=(hbel.cell (p:=(aq (b0+1+1) j)) (by show b0+1+1<B;omega)).trans hmc
   have hfl:(qE 2 ([t,c,o].take j)).length<=100:=by
    have:=xQ 2 [t,c,o] (fun j hj=>let ⟨n,h1,h2,_⟩:=hnum.out j hj;⟨n,h1,h2⟩) j uT
    omega
   have hcl:=kY hml
   have HF:Hid (qE 2 ([t,c,o].take (j+1))=qE 2 ([t,c,o].take j)++jJ m):=kC 2 [t,c,o] j m hlt hm
   clear hm hmc
   generalize hX:qE 2 ([t,c,o].take j)=X at *
   clear hX
   generalize hR:wr.heap.size=R at *
   have HR:Hid (wr.heap.size=R):=hR
   clear hR
   go_wp2_with (first
    | (go_at_call 106;refine (oO m _ hml).mono ?_;rintro e w2 ⟨g,cap,rfl,hgc,hb2⟩)
    | (at_builtin;refine wpList_append_own _ rfl _ _ 70 rfl B 5 i0 (.int .u8 0) 1 1 Tryz.underlying70 hi hz0 hz1 hz2 rfl vO _ _ _ rfl (qH hown hb2 (uA _)) (aq g 0) _ _ ((jJ m).map (Value.int .u8)) rfl vS hgc (ints_oneCell _ _) (by unfold maxLen;omega) uO (by have:=hb2.size;rw [HR.out] at this;omega) ?_))
   intro v' w3 hown3 hgrow _
   have HP:Hid (w3.ownsRow B 5 1 v' (X++jJ m).length ((X++jJ m).map (Value.int .u8))/\Below B w' w3):=oS rfl hown hbel hb2 (by rw [HR.out];exact hBr) hown3 hgrow
   clear hown3 hgrow hgc hb2 hown hcx
   go_wp2
   go_roundw
   case rel=>exact ⟨j+1,uO,vN,by rw [HF.out];exact HP.out.1,HP.out.2⟩
   case measure=>simp [intOf];omega
  ·have hj3:j=3:=uO
   subst hj3
   go_wp2
   go_ret2
   rw [HB0.out]
   exact ⟨_,rfl,jG hown uO,hw0.trans (hbel.mono uO)⟩
theorem Fq (t c u o:Int) (w:World) (hn:[t,c,o].all yU=false) :
 Ca 74 #[.agg #[iv 3,iv t,iv c,iv u,iv o]] w fun e w'=>e=.returned (.tuple #[.slice none 0 0,iv 2])/\Below w.heap.size w w':=by
 have HN:Hid ([t,c,o].all yU=false):=hn
 clear hn
 go_enter Tryz.func74,Tryz.ntmps74
 go_wp2_with (first
  | (go_at_call 63;refine (oZ t c u o _).mono ?_;rintro e w' ⟨rfl,rfl⟩)
  | (go_at_call 57;refine (jF _ t c o _ uU uU uU).mono ?_;rintro e w' ⟨rfl,rfl⟩;rw [HN.out]))
 go_ret2
 exact ⟨rfl,bL⟩
theorem Jj (t c u o:Int) (w:World) (hn:[t,c,o].all yU=true) (ho:(u==0)=false) :
 Ca 74 #[.agg #[iv 3,iv t,iv c,iv u,iv o]] w fun e w'=>e=.returned (.tuple #[.slice none 0 0,iv 2])/\Below w.heap.size w w':=by
 have HN:Hid ([t,c,o].all yU=true):=hn
 have ho':(0==u)=false:=by simp at ho ⊢;omega
 clear hn
 go_enter Tryz.func74,Tryz.ntmps74
 go_wp2_with (first
  | (go_at_call 63;refine (oZ t c u o _).mono ?_;rintro e w' ⟨rfl,rfl⟩)
  | (go_at_call 57;refine (jF _ t c o _ uU uU uU).mono ?_;rintro e w' ⟨rfl,rfl⟩;rw [HN.out]))
 go_region_held3 (fun w'=>w'.cell? (aq w.heap.size 0)=some (iv 3)/\w'.cell? (aq w.heap.size 1)=some (iv t)/\w'.cell? (aq w.heap.size 2)=some (iv c)/\w'.cell? (aq w.heap.size 3)=some (iv u)/\w'.cell? (aq w.heap.size 4)=some (iv o)) (simp [go_sem,World.cell?_alloc_past, *])
  (first
    | (go_at_call 65;refine (nJ _ 0 3 t c o _ uU uU uU).mono ?_;rintro e w' ⟨rfl,hb⟩;obtain ⟨hc,hf⟩:=Yn hb))
 go_wp2
 go_ret2
 exact ⟨rfl,by repeat (first|exact uM _ _|refine Below.drew ?_|refine Below.alloc ?_ (by first|exact uA _|(simp<;>omega)) _|refine uL ?_ (hb.mono uS))⟩
theorem Hf (t c o:Int) (w:World) (hn:[t,c,o].all yU=true) :
 Ca 74 #[.agg #[iv 3,iv t,iv c,iv 0,iv o]] w fun e w'=>∃ v,e=.returned (.tuple #[v,iv 0])/\w'.ownsRow w.heap.size 5 1 v (qE 3 [t,c,o]).length ((qE 3 [t,c,o]).map (Value.int .u8))/\Below w.heap.size w w':=by
 have HN:Hid ([t,c,o].all yU=true):=hn
 clear hn
 obtain ⟨i0,hi,hz0,hz1,hz2⟩:=info_parts Tryz.infoU8
 go_enter Tryz.func74,Tryz.ntmps74
 go_wp2_with (first
  | (go_at_call 63;refine (oZ t c 0 o _).mono ?_;rintro e w' ⟨rfl,rfl⟩)
  | (go_at_call 57;refine (jF _ t c o _ uU uU uU).mono ?_;rintro e w' ⟨rfl,rfl⟩;rw [HN.out]))
 go_region_held3 (fun w'=>w'.cell? (aq w.heap.size 0)=some (iv 3)/\w'.cell? (aq w.heap.size 1)=some (iv t)/\w'.cell? (aq w.heap.size 2)=some (iv c)/\w'.cell? (aq w.heap.size 3)=some (iv 0)/\w'.cell? (aq w.heap.size 4)=some (iv o)) (simp [go_sem,World.cell?_alloc_past, *])
  (first
    | (go_at_call 65;refine (nJ _ 0 3 t c o _ uU uU uU).mono ?_;rintro e w' ⟨rfl,hb⟩;obtain ⟨hc,hf⟩:=Yn hb))
 have hnum:Hid (cE w' (w.heap.size+1+1) [t,c,o]):=mG HN.out (by rw [hc _ _ uS];simp [go_sem]) (by rw [hc _ _ uS];simp [go_sem]) (by rw [hc _ _ uS];simp [go_sem])
 have hk:w'.cell? (aq w.heap.size 0)=some (iv 3):=by rw [hc _ _ uS];simp [go_sem]
 have hsz:w.heap.size+2<w'.heap.size:=by have:=hb.size;simp at this;omega
 have hw0:Below w.heap.size w w':=by repeat (first|exact uM _ _|refine Below.drew ?_|refine Below.alloc ?_ (by first|exact uA _|(simp<;>omega)) _|refine uL ?_ (hb.mono uS))
 clear hb hc hf
 rename_i hHeld
 clear hHeld
 generalize hb0:w.heap.size=b0 at *
 have HB0:Hid (w.heap.size=b0):=hb0
 clear hb0
 go_wp2_with fail
 generalize hB:w'.heap.size=B at *
 have HB:Hid (w'.heap.size=B):=hB
 clear hB
 go_loopw [5,6] (fun fr i wr=>∃ j:Nat,j<=3/\i=iv j/\wr.ownsRow B 5 1 fr (qE 3 ([t,c,o].take j)).length ((qE 3 ([t,c,o].take j)).map (Value.int .u8))/\Below B w' wr) (fun _ i _=>3 - (intOf i).toNat)
 case atStart=>exact ⟨0,Nat.zero_le _,rfl,xH HB.out _,(uM _ _).alloc (Nat.le_of_eq HB.out.symm) _⟩
 case round =>
  obtain ⟨j,hj,rfl,hown,hbel⟩:=hrel
  have hBr:B<=wr.heap.size:=by have:=hbel.size;rw [HB.out] at this;exact this
  by_cases hlt:j<3
  ·obtain ⟨m,hm,hml,hmc⟩:=hnum.out j hlt
   have hcx:wr.cell? (aq (b0+1+1) j)=some (iv m):=(hbel.cell (p:=(aq (b0+1+1) j)) (by show b0+1+1<B;omega)).trans hmc
   have hfl:(qE 3 ([t,c,o].take j)).length<=100:=by
    have:=xQ 3 [t,c,o] (fun j hj=>let ⟨n,h1,h2,_⟩:=hnum.out j hj;⟨n,h1,h2⟩) j uT
    omega
   have hcl:=kY hml
   have HF:Hid (qE 3 ([t,c,o].take (j+1))=qE 3 ([t,c,o].take j)++jJ m):=kC 3 [t,c,o] j m hlt hm
   clear hm hmc
   generalize hX:qE 3 ([t,c,o].take j)=X at *
   clear hX
   generalize hR:wr.heap.size=R at *
   have HR:Hid (wr.heap.size=R):=hR
   clear hR
   go_wp2_with (first
    | (go_at_call 106;refine (oO m _ hml).mono ?_;rintro e w2 ⟨g,cap,rfl,hgc,hb2⟩)
    | (at_builtin;refine wpList_append_own _ rfl _ _ 70 rfl B 5 i0 (.int .u8 0) 1 1 Tryz.underlying70 hi hz0 hz1 hz2 rfl vO _ _ _ rfl (qH hown hb2 (uA _)) (aq g 0) _ _ ((jJ m).map (Value.int .u8)) rfl vS hgc (ints_oneCell _ _) (by unfold maxLen;omega) uO (by have:=hb2.size;rw [HR.out] at this;omega) ?_))
   intro v' w3 hown3 hgrow _
   have HP:Hid (w3.ownsRow B 5 1 v' (X++jJ m).length ((X++jJ m).map (Value.int .u8))/\Below B w' w3):=oS rfl hown hbel hb2 (by rw [HR.out];exact hBr) hown3 hgrow
   clear hown3 hgrow hgc hb2 hown hcx
   go_wp2
   go_roundw
   case rel=>exact ⟨j+1,uO,vN,by rw [HF.out];exact HP.out.1,HP.out.2⟩
   case measure=>simp [intOf];omega
  ·have hj3:j=3:=uO
   subst hj3
   go_wp2
   go_ret2
   rw [HB0.out]
   exact ⟨_,rfl,jG hown uO,hw0.trans (hbel.mono uO)⟩
theorem Lc (t c u o:Int) (w:World) (hn:[c,o].all yU=false) :
 Ca 74 #[.agg #[iv 4,iv t,iv c,iv u,iv o]] w fun e w'=>e=.returned (.tuple #[.slice none 0 0,iv 2])/\Below w.heap.size w w':=by
 have HN:Hid ([c,o].all yU=false):=hn
 clear hn
 go_enter Tryz.func74,Tryz.ntmps74
 go_wp2_with (first
  | (go_at_call 63;refine (vQ t c u o _).mono ?_;rintro e w' ⟨rfl,rfl⟩)
  | (go_at_call 57;refine (fA _ c o _ uU uU).mono ?_;rintro e w' ⟨rfl,rfl⟩;rw [HN.out]))
 go_ret2
 exact ⟨rfl,bL⟩
theorem Xp (t c u o:Int) (w:World) (hn:[c,o].all yU=true) (ho:(t==0)=false) :
 Ca 74 #[.agg #[iv 4,iv t,iv c,iv u,iv o]] w fun e w'=>e=.returned (.tuple #[.slice none 0 0,iv 2])/\Below w.heap.size w w':=by
 have HN:Hid ([c,o].all yU=true):=hn
 have ho':(0==t)=false:=by simp at ho ⊢;omega
 clear hn
 go_enter Tryz.func74,Tryz.ntmps74
 go_wp2_with (first
  | (go_at_call 63;refine (vQ t c u o _).mono ?_;rintro e w' ⟨rfl,rfl⟩)
  | (go_at_call 57;refine (fA _ c o _ uU uU).mono ?_;rintro e w' ⟨rfl,rfl⟩;rw [HN.out]))
 go_region_held3 (fun w'=>w'.cell? (aq w.heap.size 0)=some (iv 4)/\w'.cell? (aq w.heap.size 1)=some (iv t)/\w'.cell? (aq w.heap.size 2)=some (iv c)/\w'.cell? (aq w.heap.size 3)=some (iv u)/\w'.cell? (aq w.heap.size 4)=some (iv o)) (simp [go_sem,World.cell?_alloc_past, *])
  (first
    | (go_at_call 65;refine (gK _ 0 2 c o _ uU uU).mono ?_;rintro e w' ⟨rfl,hb⟩;obtain ⟨hc,hf⟩:=Yn hb))
 go_wp2
 go_ret2
 exact ⟨rfl,by repeat (first|exact uM _ _|refine Below.drew ?_|refine Below.alloc ?_ (by first|exact uA _|(simp<;>omega)) _|refine uL ?_ (hb.mono uS))⟩
theorem Yc (c u o:Int) (w:World) (hn:[c,o].all yU=true) (ho:(u==0)=false) :
 Ca 74 #[.agg #[iv 4,iv 0,iv c,iv u,iv o]] w fun e w'=>e=.returned (.tuple #[.slice none 0 0,iv 2])/\Below w.heap.size w w':=by
 have HN:Hid ([c,o].all yU=true):=hn
 have ho':(0==u)=false:=by simp at ho ⊢;omega
 clear hn
 go_enter Tryz.func74,Tryz.ntmps74
 go_wp2_with (first
  | (go_at_call 63;refine (vQ 0 c u o _).mono ?_;rintro e w' ⟨rfl,rfl⟩)
  | (go_at_call 57;refine (fA _ c o _ uU uU).mono ?_;rintro e w' ⟨rfl,rfl⟩;rw [HN.out]))
 go_region_held3 (fun w'=>w'.cell? (aq w.heap.size 0)=some (iv 4)/\w'.cell? (aq w.heap.size 1)=some (iv 0)/\w'.cell? (aq w.heap.size 2)=some (iv c)/\w'.cell? (aq w.heap.size 3)=some (iv u)/\w'.cell? (aq w.heap.size 4)=some (iv o)) (simp [go_sem,World.cell?_alloc_past, *])
  (first
    | (go_at_call 65;refine (gK _ 0 2 c o _ uU uU).mono ?_;rintro e w' ⟨rfl,hb⟩;obtain ⟨hc,hf⟩:=Yn hb))
 go_wp2
 go_ret2
 exact ⟨rfl,by repeat (first|exact uM _ _|refine Below.drew ?_|refine Below.alloc ?_ (by first|exact uA _|(simp<;>omega)) _|refine uL ?_ (hb.mono uS))⟩
theorem Fe (c o:Int) (w:World) (hn:[c,o].all yU=true) :
 Ca 74 #[.agg #[iv 4,iv 0,iv c,iv 0,iv o]] w fun e w'=>∃ v,e=.returned (.tuple #[v,iv 0])/\w'.ownsRow w.heap.size 5 1 v (qE 4 [c,o]).length ((qE 4 [c,o]).map (Value.int .u8))/\Below w.heap.size w w':=by
 have HN:Hid ([c,o].all yU=true):=hn
 clear hn
 obtain ⟨i0,hi,hz0,hz1,hz2⟩:=info_parts Tryz.infoU8
 go_enter Tryz.func74,Tryz.ntmps74
 go_wp2_with (first
  | (go_at_call 63;refine (vQ 0 c 0 o _).mono ?_;rintro e w' ⟨rfl,rfl⟩)
  | (go_at_call 57;refine (fA _ c o _ uU uU).mono ?_;rintro e w' ⟨rfl,rfl⟩;rw [HN.out]))
 go_region_held3 (fun w'=>w'.cell? (aq w.heap.size 0)=some (iv 4)/\w'.cell? (aq w.heap.size 1)=some (iv 0)/\w'.cell? (aq w.heap.size 2)=some (iv c)/\w'.cell? (aq w.heap.size 3)=some (iv 0)/\w'.cell? (aq w.heap.size 4)=some (iv o)) (simp [go_sem,World.cell?_alloc_past, *])
  (first
    | (go_at_call 65;refine (gK _ 0 2 c o _ uU uU).mono ?_;rintro e w' ⟨rfl,hb⟩;obtain ⟨hc,hf⟩:=Yn hb))
 have hnum:Hid (cE w' (w.heap.size+1+1) [c,o]):=Of HN.out (by rw [hc _ _ uS];simp [go_sem]) (by rw [hc _ _ uS];simp [go_sem])
 have hk:w'.cell? (aq w.heap.size 0)=some (iv 4):=by rw [hc _ _ uS];simp [go_sem]
 have hsz:w.heap.size+2<w'.heap.size:=by have:=hb.size;simp at this;omega
 have hw0:Below w.heap.size w w':=by repeat (first|exact uM _ _|refine Below.drew ?_|refine Below.alloc ?_ (by first|exact uA _|(simp<;>omega)) _|refine uL ?_ (hb.mono uS))
 clear hb hc hf
 rename_i hHeld
 clear hHeld
 generalize hb0:w.heap.size=b0 at *
 have HB0:Hid (w.heap.size=b0):=hb0
 clear hb0
 go_wp2_with fail
 generalize hB:w'.heap.size=B at *
 have HB:Hid (w'.heap.size=B):=hB
 clear hB
 go_loopw [5,6] (fun fr i wr=>∃ j:Nat,j<=2/\i=iv j/\wr.ownsRow B 5 1 fr (qE 4 ([c,o].take j)).length ((qE 4 ([c,o].take j)).map (Value.int .u8))/\Below B w' wr) (fun _ i _=>2 - (intOf i).toNat)
 case atStart=>exact ⟨0,Nat.zero_le _,rfl,xH HB.out _,(uM _ _).alloc (Nat.le_of_eq HB.out.symm) _⟩
 case round =>
  obtain ⟨j,hj,rfl,hown,hbel⟩:=hrel
  have hBr:B<=wr.heap.size:=by have:=hbel.size;rw [HB.out] at this;exact this
  by_cases hlt:j<2
  ·obtain ⟨m,hm,hml,hmc⟩:=hnum.out j hlt
   have hcx:wr.cell? (aq (b0+1+1) j)=some (iv m):=(hbel.cell (p:=(aq (b0+1+1) j)) (by show b0+1+1<B;omega)).trans hmc
   have hfl:(qE 4 ([c,o].take j)).length<=100:=by
    have:=xQ 4 [c,o] (fun j hj=>let ⟨n,h1,h2,_⟩:=hnum.out j hj;⟨n,h1,h2⟩) j uT
    omega
   have hcl:=kY hml
   have HF:Hid (qE 4 ([c,o].take (j+1))=qE 4 ([c,o].take j)++jJ m):=kC 4 [c,o] j m hlt hm
   clear hm hmc
   generalize hX:qE 4 ([c,o].take j)=X at *
   clear hX
   generalize hR:wr.heap.size=R at *
   have HR:Hid (wr.heap.size=R):=hR
   clear hR
   go_wp2_with (first
    | (go_at_call 106;refine (oO m _ hml).mono ?_;rintro e w2 ⟨g,cap,rfl,hgc,hb2⟩)
    | (at_builtin;refine wpList_append_own _ rfl _ _ 70 rfl B 5 i0 (.int .u8 0) 1 1 Tryz.underlying70 hi hz0 hz1 hz2 rfl vO _ _ _ rfl (qH hown hb2 (uA _)) (aq g 0) _ _ ((jJ m).map (Value.int .u8)) rfl vS hgc (ints_oneCell _ _) (by unfold maxLen;omega) uO (by have:=hb2.size;rw [HR.out] at this;omega) ?_))
   intro v' w3 hown3 hgrow _
   have HP:Hid (w3.ownsRow B 5 1 v' (X++jJ m).length ((X++jJ m).map (Value.int .u8))/\Below B w' w3):=oS rfl hown hbel hb2 (by rw [HR.out];exact hBr) hown3 hgrow
   clear hown3 hgrow hgc hb2 hown hcx
   go_wp2
   go_roundw
   case rel=>exact ⟨j+1,uO,vN,by rw [HF.out];exact HP.out.1,HP.out.2⟩
   case measure=>simp [intOf];omega
  ·have hj3:j=2:=uO
   subst hj3
   go_wp2
   go_ret2
   rw [HB0.out]
   exact ⟨_,rfl,jG hown uO,hw0.trans (hbel.mono uO)⟩
def bytesAt (w:World) (B:Nat) (v:Value) (l:List Int):Prop :=
 ∃ g cap,v=.slice (some (aq g 0)) l.length cap/\B<=g/\g<w.heap.size/\l.length<=cap/\cap<=maxLen/\∀ i,i<l.length->w.cell? (aq g (0+i))=some (.int .u8 (l.getD i 0))
theorem fL {w:World} {B:Nat} {v:Value} {l:List Int} (h:w.ownsRow B 5 1 v l.length (l.map (Value.int .u8))) (hl:0<l.length):bytesAt w B v l:=by
 rcases h.2 with ⟨_,h0⟩|⟨g,cap,cur,rfl,hg,hh,hn,hm,_⟩
 ·omega
 ·refine ⟨g,cap,rfl,hg,(blt hh),hn,hm,fun i hi=>?_⟩
  have:=h.cells (g:=g) rfl i (.int .u8 (l.getD i 0)) (by simp [List.getD,uD hi])
  simpa [Addr.add_lit] using this
theorem bytesAt.below {w w':World} {B B':Nat} {v:Value} {l:List Int} (h:bytesAt w B v l) (hb:Below B' w w') (hB:w.heap.size<=B'):bytesAt w' B v l:=by
 obtain ⟨g,cap,rfl,hg,hh,hn,hm,hc⟩:=h
 exact ⟨g,cap,rfl,hg,uB hh hb.size,hn,hm,fun i hi=>(hb.cell (p:=(aq g (0+i))) (uB hh hB)).trans (hc i hi)⟩
theorem oT (k:Int) (ns:List Int):0<(qE k ns).length:=by simp [qE]
theorem Ew (k t c u o:Int) (w:World) (h:QH k t c u o=true) :
 Ca 74 #[.agg #[iv k,iv t,iv c,iv u,iv o]] w fun e w'=>∃ v,e=.returned (.tuple #[v,iv 0])/\w'.ownsRow w.heap.size 5 1 v (qE k (qT k t c u o)).length ((qE k (qT k t c u o)).map (Value.int .u8))/\Below w.heap.size w w':=by
 by_cases h1:k=1
 ·subst h1
  simp [QH] at h
  obtain ⟨h,rfl⟩:=h
  exact Lg t c u w (by simp [h])
 by_cases h2:k=2
 ·subst h2
  simp [QH] at h
  obtain ⟨h,rfl⟩:=h
  exact Lu t c o w (by simp [h])
 by_cases h3:k=3
 ·subst h3
  simp [QH] at h
  obtain ⟨h,rfl⟩:=h
  exact Hf t c o w (by simp [h])
 by_cases h4:k=4
 ·subst h4
  simp [QH] at h
  obtain ⟨⟨h,rfl⟩,rfl⟩:=h
  exact Fe c o w (by simp [h])
 ·simp [QH,h1,h2,h3,h4] at h
theorem No (k t c u o:Int) (w:World) (h1:¬ k=1) (h2:¬ k=2) (h3:¬ k=3) (h4:¬ k=4) :
 Ca 74 #[.agg #[iv k,iv t,iv c,iv u,iv o]] w fun e w'=>e=.returned (.tuple #[.slice none 0 0,iv 2])/\Below w.heap.size w w':=by
 go_enter Tryz.func74,Tryz.ntmps74
 go_wp2_with (go_at_call 63;refine (cG k t c u o _ h1 h2 h3 h4).mono ?_;rintro e w' ⟨rfl,rfl⟩)
 go_ret2
 exact ⟨rfl,bL⟩
theorem Sk (k t c u o:Int) (w:World) (h:QH k t c u o=false) :
 Ca 74 #[.agg #[iv k,iv t,iv c,iv u,iv o]] w fun e w'=>e=.returned (.tuple #[.slice none 0 0,iv 2])/\Below w.heap.size w w':=by
 by_cases h1:k=1
 ·subst h1
  by_cases hn:[t,c,u].all yU=true
  ·refine Ji t c u o w hn ?_
   simp [QH] at h hn ⊢
   simpa [hn] using h
  ·exact Fm t c u o w (by simpa using hn)
 by_cases h2:k=2
 ·subst h2
  by_cases hn:[t,c,o].all yU=true
  ·refine Qa t c u o w hn ?_
   simp [QH] at h hn ⊢
   simpa [hn] using h
  ·exact Lh t c u o w (by simpa using hn)
 by_cases h3:k=3
 ·subst h3
  by_cases hn:[t,c,o].all yU=true
  ·refine Jj t c u o w hn ?_
   simp [QH] at h hn ⊢
   simpa [hn] using h
  ·exact Fq t c u o w (by simpa using hn)
 by_cases h4:k=4
 ·subst h4
  by_cases hn:[c,o].all yU=true
  ·by_cases ht:t=0
   ·subst ht
    refine Yc c u o w hn ?_
    simp [QH] at h hn ⊢
    simpa [hn] using h
   ·exact Xp t c u o w hn (by simpa using ht)
  ·exact Lc t c u o w (by simpa using hn)
 ·exact No k t c u o w h1 h2 h3 h4
