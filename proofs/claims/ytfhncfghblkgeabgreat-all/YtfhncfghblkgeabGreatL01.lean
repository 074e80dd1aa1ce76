import Derived.Test.YtfhncfghblkgeabGreatL00
set_option maxRecDepth 100000
set_option maxHeartbeats 2000000
namespace Go.Proofs.YtfhncfghblkgeabGreat
open Go.RowKit
def Ym:Nat->Nat->List Int
 | 0,n=>[(n:Int)]
 | k+1,n=>if n<128 then [(n:Int)] else ((n % 128+128:Nat):Int) :: Ym k (n / 128)
def jJ (n:Nat):List Int:=Ym n n
theorem Qk:∀ (k k' n:Nat),n<=k->n<=k'->Ym k n=Ym k' n
 | 0,0,_,_,_=>rfl
 | 0,k'+1,n,h,_=>by
   have:n=0:=uO
   subst this;simp [Ym]
 | k+1,0,n,_,h=>by
   have:n=0:=uO
   subst this;simp [Ym]
 | k+1,k'+1,n,h,h'=>by
   unfold Ym
   split
   ·rfl
   ·rw [Qk k k' (n / 128) uO uO]
theorem jC {n:Nat} (h:n<128):jJ n=[(n:Int)]:=by
 unfold jJ
 cases n with
 | zero=>rfl
 | succ n=>simp only [Ym];rw [uQ h]
theorem kK {n:Nat} (h:128<=n):jJ n=((n % 128+128:Nat):Int) :: jJ (n / 128):=by
 unfold jJ
 cases n with
 | zero=>omega
 | succ n =>
   simp only [Ym]
   rw [uP uO,Qk n ((n+1) / 128) ((n+1) / 128) uO (uA _)]
theorem dZ (n:Nat):1<=(jJ n).length:=by
 by_cases h:n<128
 ·rw [jC h];simp
 ·rw [kK uO];simp
theorem nL:∀ (k n:Nat),n<128 ^ (k+1)->(jJ n).length<=k+1
 | 0,n,h=>by rw [jC (by simpa using h)];simp
 | k+1,n,h=>by
   by_cases h':n<128
   ·rw [jC h'];simp
   ·rw [kK uO]
    have:=nL k (n / 128) (by rw [Nat.pow_succ] at h;omega)
    simp;omega
theorem Xe (n:Nat):∀ x∈jJ n,0<=x/\x<256:=by
 suffices H:∀ (k n:Nat),n<=k->∀ x∈jJ n,0<=x/\x<256 from H n n (uA _)
 intro k
 induction k with
 | zero=>intro n h x hx;rw [jC uO] at hx;simp at hx;omega
 | succ k ih =>
   intro n h x hx
   by_cases h':n<128
   ·rw [jC h'] at hx;simp at hx;omega
   ·rw [kK uO] at hx
    rcases List.mem_cons.1 hx with rfl|hx
    ·omega
    ·exact ih (n / 128) uO x hx
def qE (k:Int) (ns:List Int):List Int:=k :: ns.flatMap (fun n=>jJ n.toNat)
theorem Vi (k:Int) (ns:List Int) (n:Int):qE k (ns++[n])=qE k ns++jJ n.toNat:=by simp [qE]
