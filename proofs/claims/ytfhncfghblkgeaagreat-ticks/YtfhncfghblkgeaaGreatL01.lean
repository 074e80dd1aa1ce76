import Derived.Test.YtfhncfghblkgeaaGreatL00
set_option maxRecDepth 100000
set_option maxHeartbeats 2000000
namespace Go.Proofs.YtfhncfghblkgeaaGreat
open Go.RowKit
def jpp:Nat->Nat->List Int
 | 0,n=>[(n:Int)]
 | k+1,n=>if n<128 then [(n:Int)] else ((n % 128+128:Nat):Int) :: jpp k (n / 128)
def jds (n:Nat):List Int:=jpp n n
theorem js3:∀ (k k' n:Nat),n<=k->n<=k'->jpp k n=jpp k' n
 | 0,0,_,_,_=>rfl
 | 0,k'+1,n,h,_=>by
   have:n=0:=by omega
   subst this;simp [jpp]
 | k+1,0,n,_,h=>by
   have:n=0:=by omega
   subst this;simp [jpp]
 | k+1,k'+1,n,h,h'=>by
   unfold jpp
   split
   ·rfl
   ·rw [js3 k k' (n / 128) (by omega) (by omega)]
theorem jcc {n:Nat} (h:n<128):jds n=[(n:Int)]:=by
 unfold jds
 cases n with
 | zero=>rfl
 | succ n=>simp only [jpp];rw [if_pos h]
theorem je1 {n:Nat} (h:128<=n):jds n=((n % 128+128:Nat):Int) :: jds (n / 128):=by
 unfold jds
 cases n with
 | zero=>omega
 | succ n =>
   simp only [jpp]
   rw [if_neg (by omega),js3 n ((n+1) / 128) ((n+1) / 128) (by omega) (Nat.le_refl _)]
theorem jgf (n:Nat):1<=(jds n).length:=by
 by_cases h:n<128
 ·rw [jcc h];simp
 ·rw [je1 (by omega)];simp
theorem ji1:∀ (k n:Nat),n<128 ^ (k+1)->(jds n).length<=k+1
 | 0,n,h=>by rw [jcc (by simpa using h)];simp
 | k+1,n,h=>by
   by_cases h':n<128
   ·rw [jcc h'];simp
   ·rw [je1 (by omega)]
    have:=ji1 k (n / 128) (by rw [Nat.pow_succ] at h;omega)
    simp;omega
theorem jrb (n:Nat):∀ x∈jds n,0<=x/\x<256:=by
 suffices H:∀ (k n:Nat),n<=k->∀ x∈jds n,0<=x/\x<256 from H n n (Nat.le_refl _)
 intro k
 induction k with
 | zero=>intro n h x hx;rw [jcc (by omega)] at hx;simp at hx;omega
 | succ k ih =>
   intro n h x hx
   by_cases h':n<128
   ·rw [jcc h'] at hx;simp at hx;omega
   ·rw [je1 (by omega)] at hx
    rcases List.mem_cons.1 hx with rfl|hx
    ·omega
    ·exact ih (n / 128) (by omega) x hx
def ja8 (k:Int) (ns:List Int):List Int:=k :: ns.flatMap (fun n=>jds n.toNat)
theorem js8 (k:Int) (ns:List Int) (n:Int):ja8 k (ns++[n])=ja8 k ns++jds n.toNat:=by simp [ja8]
end Go.Proofs.YtfhncfghblkgeaaGreat
