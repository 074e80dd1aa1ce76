import Derived.Test.YtfhncfghblkgeaaGreatL00
set_option maxRecDepth 100000
set_option maxHeartbeats 2000000
namespace Go.Proofs.YtfhncfghblkgeaaGreat
open Go.RowKit
def jm8:Nat->Nat->List Int
 | 0,n=>[(n:Int)]
 | k+1,n=>if n<128 then [(n:Int)] else ((n % 128+128:Nat):Int) :: jm8 k (n / 128)
def jcn (n:Nat):List Int:=jm8 n n
theorem jpd:∀ (k k' n:Nat),n<=k->n<=k'->jm8 k n=jm8 k' n
 | 0,0,_,_,_=>rfl
 | 0,k'+1,n,h,_=>by
   have:n=0:=by omega
   subst this;simp [jm8]
 | k+1,0,n,_,h=>by
   have:n=0:=by omega
   subst this;simp [jm8]
 | k+1,k'+1,n,h,h'=>by
   unfold jm8
   split
   ·rfl
   ·rw [jpd k k' (n / 128) (by omega) (by omega)]
theorem jc1 {n:Nat} (h:n<128):jcn n=[(n:Int)]:=by
 unfold jcn
 cases n with
 | zero=>rfl
 | succ n=>simp only [jm8];rw [if_pos h]
theorem jcu {n:Nat} (h:128<=n):jcn n=((n % 128+128:Nat):Int) :: jcn (n / 128):=by
 unfold jcn
 cases n with
 | zero=>omega
 | succ n =>
   simp only [jm8]
   rw [if_neg (by omega),jpd n ((n+1) / 128) ((n+1) / 128) (by omega) (Nat.le_refl _)]
theorem jde (n:Nat):1<=(jcn n).length:=by
 by_cases h:n<128
 ·rw [jc1 h];simp
 ·rw [jcu (by omega)];simp
theorem jhd:∀ (k n:Nat),n<128 ^ (k+1)->(jcn n).length<=k+1
 | 0,n,h=>by rw [jc1 (by simpa using h)];simp
 | k+1,n,h=>by
   by_cases h':n<128
   ·rw [jc1 h'];simp
   ·rw [jcu (by omega)]
    have:=jhd k (n / 128) (by rw [Nat.pow_succ] at h;omega)
    simp;omega
theorem jpv {n:Nat}:(jcn n).length=1↔n<128:=by
 by_cases h:n<128
 ·simp [jc1 h,h]
 ·rw [jcu (by omega)]
  have:=jde (n / 128)
  simp only [List.length_cons]
  constructor<;>intro h'<;>omega
theorem joi (n:Nat):∀ x∈jcn n,0<=x/\x<256:=by
 suffices H:∀ (k n:Nat),n<=k->∀ x∈jcn n,0<=x/\x<256 from H n n (Nat.le_refl _)
 intro k
 induction k with
 | zero=>intro n h x hx;rw [jc1 (by omega)] at hx;simp at hx;omega
 | succ k ih =>
   intro n h x hx
   by_cases h':n<128
   ·rw [jc1 h'] at hx;simp at hx;omega
   ·rw [jcu (by omega)] at hx
    rcases List.mem_cons.1 hx with rfl|hx
    ·omega
    ·exact ih (n / 128) (by omega) x hx
def jak (k:Int) (ns:List Int):List Int:=k :: ns.flatMap (fun n=>jcn n.toNat)
section
open Go.ChangeShapes Go.WideShapes Go.ChangeAt Go.RowKit
theorem own:ownKnob Tryz.prog.godebug=none:=by kernel_rfl
theorem qat:laidOutB Tryz.prog=true:=by kernel_rfl
theorem Tryz.cellsReq:Tryz.prog.cellsOf 46=5:=by kernel_rfl
theorem Tryz.cellsInt:Tryz.prog.cellsOf 3=1:=by kernel_rfl
end
end Go.Proofs.YtfhncfghblkgeaaGreat
