import Derived.Test.YtfhncfghblkgeaaGreatL00
set_option maxRecDepth 100000
set_option maxHeartbeats 2000000
namespace Go.Proofs.YtfhncfghblkgeaaGreat
open Go.RowKit
def jn3:Nat->Nat->List Int
 | 0,n=>[(n:Int)]
 | k+1,n=>if n<128 then [(n:Int)] else ((n % 128+128:Nat):Int) :: jn3 k (n / 128)
def jcy (n:Nat):List Int:=jn3 n n
theorem js5:∀ (k k' n:Nat),n<=k->n<=k'->jn3 k n=jn3 k' n
 | 0,0,_,_,_=>rfl
 | 0,k'+1,n,h,_=>by
   have:n=0:=by omega
   subst this;simp [jn3]
 | k+1,0,n,_,h=>by
   have:n=0:=by omega
   subst this;simp [jn3]
 | k+1,k'+1,n,h,h'=>by
   unfold jn3
   split
   ·rfl
   ·rw [js5 k k' (n / 128) (by omega) (by omega)]
theorem jc9 {n:Nat} (h:n<128):jcy n=[(n:Int)]:=by
 unfold jcy
 cases n with
 | zero=>rfl
 | succ n=>simp only [jn3];rw [if_pos h]
theorem jda {n:Nat} (h:128<=n):jcy n=((n % 128+128:Nat):Int) :: jcy (n / 128):=by
 unfold jcy
 cases n with
 | zero=>omega
 | succ n =>
   simp only [jn3]
   rw [if_neg (by omega),js5 n ((n+1) / 128) ((n+1) / 128) (by omega) (Nat.le_refl _)]
theorem jdy (n:Nat):1<=(jcy n).length:=by
 by_cases h:n<128
 ·rw [jc9 h];simp
 ·rw [jda (by omega)];simp
theorem ji1:∀ (k n:Nat),n<128 ^ (k+1)->(jcy n).length<=k+1
 | 0,n,h=>by rw [jc9 (by simpa using h)];simp
 | k+1,n,h=>by
   by_cases h':n<128
   ·rw [jc9 h'];simp
   ·rw [jda (by omega)]
    have:=ji1 k (n / 128) (by rw [Nat.pow_succ] at h;omega)
    simp;omega
theorem jqh {n:Nat}:(jcy n).length=1↔n<128:=by
 by_cases h:n<128
 ·simp [jc9 h,h]
 ·rw [jda (by omega)]
  have:=jdy (n / 128)
  simp only [List.length_cons]
  constructor<;>intro h'<;>omega
theorem jq9 (n:Nat):∀ x∈jcy n,0<=x/\x<256:=by
 suffices H:∀ (k n:Nat),n<=k->∀ x∈jcy n,0<=x/\x<256 from H n n (Nat.le_refl _)
 intro k
 induction k with
 | zero=>intro n h x hx;rw [jc9 (by omega)] at hx;simp at hx;omega
 | succ k ih =>
   intro n h x hx
   by_cases h':n<128
   ·rw [jc9 h'] at hx;simp at hx;omega
   ·rw [jda (by omega)] at hx
    rcases List.mem_cons.1 hx with rfl|hx
    ·omega
    ·exact ih (n / 128) (by omega) x hx
def jao (k:Int) (ns:List Int):List Int:=k :: ns.flatMap (fun n=>jcy n.toNat)
section
open Go.ChangeShapes Go.WideShapes Go.ChangeAt Go.RowKit
theorem own:ownKnob Tryz.prog.godebug=none:=by kernel_rfl
theorem jz6:laidOutB Tryz.prog=true:=by kernel_rfl
theorem Tryz.cellsReq:Tryz.prog.cellsOf 46=5:=by kernel_rfl
theorem Tryz.cellsInt:Tryz.prog.cellsOf 3=1:=by kernel_rfl
end
end Go.Proofs.YtfhncfghblkgeaaGreat
