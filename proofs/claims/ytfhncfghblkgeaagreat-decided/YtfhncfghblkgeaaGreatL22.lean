import Derived.Test.YtfhncfghblkgeaaGreatL11
set_option maxRecDepth 100000
set_option maxHeartbeats 2000000
namespace Go.Proofs.YtfhncfghblkgeaaGreat
open Go.RowKit
theorem qfx {l:List Int} {k t c u o e k' t' c' u' o' e':Int} (h:UN l k t c u o e) (h':UN l k' t' c' u' o' e'):k=k'/\t=t'/\c=c'/\u=u'/\o=o'/\e=e':=by
 rcases h with ⟨rfl,h1,h2⟩|⟨rfl,rfl,rfl,rfl,rfl,rfl,h2⟩
 ·subst h2
  obtain ⟨rfl,rfl,rfl,rfl,rfl,rfl⟩:=qf7 h1 h'
  exact ⟨rfl,rfl,rfl,rfl,rfl,rfl⟩
 ·rcases h' with ⟨rfl,h1',h2'⟩|⟨rfl,rfl,rfl,rfl,rfl,rfl,_⟩
  ·exact absurd h2' (h2 _ _ _ _ _ h1')
  ·exact ⟨rfl,rfl,rfl,rfl,rfl,rfl⟩
end Go.Proofs.YtfhncfghblkgeaaGreat
