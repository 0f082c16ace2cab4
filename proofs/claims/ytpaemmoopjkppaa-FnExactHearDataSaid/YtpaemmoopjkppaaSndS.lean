import Derived.Test.YtpaemmoopjkppaaSrfX
namespace Go.Proofs.Ytpaemmoopjkppaa
open Go.RowKit

theorem numsB_in {base : Int} {n : Nat} : numsB base n = (inB base 0 9975 && decide (base + (n : Int) ≤ 9975)) := by
  unfold numsB inB
  rw [Bool.eq_iff_iff]
  simp
  omega

end Go.Proofs.Ytpaemmoopjkppaa
