import Derived.Test.YtfhncfghblkgeaaGreatL11
import Derived.Test.YtfhncfghblkgeaaGreatL18
set_option maxRecDepth 100000
set_option maxHeartbeats 2000000
namespace Go.Proofs.YtfhncfghblkgeaaGreat
open Go.RowKit
section
open Go.ChangeShapes Go.WideShapes Go.ChangeAt Go.RowKit
theorem Tryz.cellsCfg:Tryz.prog.cellsOf 29=8:=by kernel_rfl
theorem Tryz.cellsTier:Tryz.prog.cellsOf 137=2:=by kernel_rfl
theorem Tryz.cellsTiers:Tryz.prog.cellsOf 27=1:=by kernel_rfl
theorem Tryz.bytesTier:Tryz.prog.bytesOf 137=16:=by kernel_rfl
theorem jvp {H:Type} {enc:TypeId × Value->H} {w:World} {held:Bool} {fuel:Nat} {a:Option Addr} {len cap:Nat} {x:DataW H × List MemPlace}
 (h:DataW.trod enc Tryz.prog w 0 (fun _=>true) held fuel 27 [.slice a len cap]=some x) (hw:wOK 27 x.1):∃ ts,tiersAt w a len cap ts/\len * 16<=140737488351232:=by
 rcases jqq Tryz.underlying27 Tryz.underlying137 Tryz.cellsTier h hw with ⟨rfl,rfl,rfl⟩|⟨ad,rfl,hlc,hb,hrow⟩
 ·exact ⟨[],⟨rfl,Nat.le_refl _,by omega,fun _=>⟨rfl,rfl⟩,fun h=>absurd rfl h⟩,by omega⟩
 ·rw [Tryz.bytesTier] at hb
  simp only [reachBytes] at hb
  by_cases h0:len=0
  ·subst h0
   exact ⟨[],⟨rfl,hlc,by omega,fun h=>by simp at h,fun h=>absurd rfl h⟩,by omega⟩
  obtain ⟨b,off,rfl⟩:∃ b off,ad=(aq b off):=by
   obtain ⟨cs,xs,n,hcl,hcc,_⟩:=hrow 0 (by omega)
   have:=hcc 0 (by omega)
   rw [List.getElem?_eq_getElem (by omega)] at this
   exact jol (by simpa using this)
  have hall:∀ i,i<len->∃ q:Int × Int,w.cell? (aq b (off+i * 2))=some (iv q.1)/\w.cell? (aq b (off+i * 2+1))=some (iv q.2):=by
   intro i hi
   obtain ⟨cs,xs,n,hcl,hcc,hxl,hf,_⟩:=hrow i hi
   have hxl':xs.length=2:=hxl
   obtain ⟨f',e0,_⟩:=jc6 (k:=0) (by omega) (hf 0 _ rfl) (jc8 hxl' (by omega))
   obtain ⟨c',e1,_⟩:=jc6 (k:=1) (by omega) (hf 1 _ rfl) (jc8 hxl' (by omega))
   have hc:∀ j,j<2->w.cell? (aq b (off+i * 2+j))=cs[j]?:=fun j hj=>by rw [← hcc j hj,Addr.add_lit,Nat.add_assoc]
   exact ⟨(f',c'),(hc 0 (by omega)).trans e0,(hc 1 (by omega)).trans e1⟩
  obtain ⟨f,hff⟩:=@Deep.choose_lt (Int × Int) ⟨(0,0)⟩ _ _ hall
  refine ⟨(List.range len).map f,⟨by simp,hlc,by omega,fun h=>by simp at h,fun _=>⟨b,off,rfl,World.block_lt_of_cell? w _ (hff 0 (by omega)).1,fun i hi=>?_⟩⟩,by omega⟩
  rw [jua f (0,0) hi];exact hff i hi
end
section
def Sal.acc (S:Sal) (c:Int):Int × Int × Int × Int:=if jbn c then ((S.account c).1,(S.account c).2.1,(S.account c).2.2,0) else (0,0,0,3)
structure BookOK (PS:World->Nat->(Nat->Prop)->Sal->Prop):Prop where
 books:∀ {w x own S},PS w x own S->salJ S->Calls Tryz.prog 29 #[pt x 0] w fun e w'=>e=.returned (.agg #[iv S.free,iv (ja4 S.os 13 0),iv (ja4 S.os 14 0),iv (ja5 S.os).length,iv S.answers])/\jsj PS w w' x own S
 account:∀ {w x own S} (c:Int),PS w x own S->salJ S->Calls Tryz.prog 31 #[pt x 0,iv c] w fun e w'=>e=.returned (.tuple #[.agg #[iv (S.acc c).1,iv (S.acc c).2.1,iv (S.acc c).2.2.1],iv (S.acc c).2.2.2])/\jsj PS w w' x own S
structure TickOK (PS:World->Nat->(Nat->Prop)->Sal->Prop):Prop where
 tick:∀ {w x own S} (n:Int),-9223372036854775808<=n->n<=9223372036854775807->PS w x own S->salJ S->Calls Tryz.prog 36 #[pt x 0,iv n] w fun e w'=>e=.returned (.tuple #[iv (S.tick n).1.1,iv (S.tick n).1.2])/\jsj PS w w' x own (S.tick n).2
 clock:∀ {w x own S},PS w x own S->salJ S->Calls Tryz.prog 19 #[pt x 0] w fun e w'=>e=.returned (iv S.now)/\jsj PS w w' x own S
theorem jf7 (S:Sal) (st en:Int):(S.past st en).C=S.C/\(S.past st en).now=S.now/\(S.past st en).ansL=S.ansL:=by
 obtain ⟨a,b,c⟩:=jeo (jbq S st en S.os.length)
 obtain ⟨d,e,f⟩:=jdp S st en S.os.length
 exact ⟨a.trans d,b.trans e,c.trans f⟩
theorem jnl (S:Sal) (t:Int):(S.round t).C=S.C/\(S.round t).ansL=S.ansL/\(S.round t).os.length=S.os.length:=by
 obtain ⟨a,_,c⟩:=jf7 (({ S with now:=t }:Sal).past 13 15) 12 17
 obtain ⟨d,_,f⟩:=jf7 ({ S with now:=t }:Sal) 13 15
 exact ⟨a.trans d,c.trans f,(jjc _ 12 17).trans (jjc _ 13 15)⟩
theorem jjr:∀ (n:Nat) (S:Sal) (to:Int),(jdw n S to).C=S.C/\(jdw n S to).ansL=S.ansL/\(jdw n S to).os.length=S.os.length
 | 0,_,_=>⟨rfl,rfl,rfl⟩
 | n+1,S,to=>by
   unfold jdw
   split
   ·exact ⟨rfl,rfl,rfl⟩
   ·obtain ⟨a,b,c⟩:=jjr n (S.round (S.due to)) to
    obtain ⟨d,e,f⟩:=jnl S (S.due to)
    exact ⟨a.trans d,b.trans e,c.trans f⟩
theorem jfu (S:Sal) (n:Int):(S.tick n).2.C=S.C/\(S.tick n).2.ansL=S.ansL/\(S.tick n).2.os.length=S.os.length:=by
 unfold Sal.tick
 split
 ·exact ⟨rfl,rfl,rfl⟩
 split<;>exact jjr _ _ _
theorem jzm {S:Sal} (h:salJ S) (n:Int) (hI:salI (S.tick n).2):salJ (S.tick n).2:=by
 obtain ⟨a,b,c⟩:=jfu S n
 exact ⟨hI,by rw [a];exact h.cap,by rw [a];exact h.queue,by rw [c];exact h.len,by rw [b];exact h.ats⟩
section
variable {PS:World->Nat->(Nat->Prop)->Sal->Prop} {w:World} {B j:Nat} {e:SE}
end
end
end Go.Proofs.YtfhncfghblkgeaaGreat
