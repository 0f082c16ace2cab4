/- The tag of a box, of the model. -/
import Derived.Test.YtcanmhlhnihijaaPolyC
import Derived.Test.YtcanmhlhnihijaaFillC
import Derived.Test.YtcanmhlhnihijaaStreamC
namespace Go.Proofs.Ytcanmhlhnihijaa
open Go.RowKit

/-- what a box's tag is of -/
def tagA (more hidden : List Int) : List Int := fillL (fillL more ++ hidden)
def tagB (more hidden : List Int) : List Int := tagA more hidden ++ lowOf (more.length : Int) 7 ++ [0]
def tagD (more hidden : List Int) : List Int := tagB more hidden ++ lowOf (hidden.length : Int) 7 ++ [0]
/-- how many bytes the first of these has -/
def tagN (p q : Nat) : Nat := p + fillN p + q + fillN (p + fillN p + q)
theorem tagA_len (more hidden : List Int) : (tagA more hidden).length = tagN more.length hidden.length := by
  unfold tagA
  rw [fillL_len, List.length_append, fillL_len]
  rfl
theorem tagB_len (more hidden : List Int) : (tagB more hidden).length = tagN more.length hidden.length + 8 := by
  unfold tagB
  rw [List.length_append, List.length_append, tagA_len, lowOf_len]
  rfl
theorem tagD_len (more hidden : List Int) : (tagD more hidden).length = tagN more.length hidden.length + 16 := by
  unfold tagD
  rw [List.length_append, List.length_append, tagB_len, lowOf_len]
  rfl
theorem tagN_bd (p q : Nat) : tagN p q ≤ p + q + 30 := by unfold tagN fillN; omega
def boxTag (key nonce more hidden : List Int) : List Int := polyTag ((keyBlock key 0 nonce).take 32) (tagD more hidden)
theorem boxTag_len (key nonce more hidden : List Int) : (boxTag key nonce more hidden).length = 16 := polyTag_len _ _

theorem Row.cap {w : World} {B n c : Nat} {A : Option Addr} {l : List Int} (h : Row w B (.slice A n c) l) : n ≤ c := by
  rcases h.own.2 with ⟨e, _⟩ | ⟨g, cap, cur, e, _, _, hnc, _⟩
  · injection e with _ e2 e3
    omega
  · injection e with _ e2 e3
    omega

end Go.Proofs.Ytcanmhlhnihijaa
