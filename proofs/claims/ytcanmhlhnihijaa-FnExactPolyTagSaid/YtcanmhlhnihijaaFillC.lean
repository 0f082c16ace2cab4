/- Zeros up to a multiple of 16 bytes, of the model. -/
import Derived.Test.YtcanmhlhnihijaaRowC
import Derived.Test.YtcanmhlhnihijaaCopyC
namespace Go.Proofs.Ytcanmhlhnihijaa
open Go.RowKit

/-- how many zeros are wanted -/
def fillN (n : Nat) : Nat := (16 - n % 16) % 16
def fillL (l : List Int) : List Int := l ++ List.replicate (fillN l.length) 0
theorem fillL_len (l : List Int) : (fillL l).length = l.length + fillN l.length := by simp [fillL]
theorem fillL_byte (l : List Int) (h : By l) : By (fillL l) := h.append fun x hx => by
  have := (List.mem_replicate.1 hx).2
  omega

/-- how long a slice is -/
def spanOf : Value → Nat
  | .slice _ n _ => n
  | _ => 0

end Go.Proofs.Ytcanmhlhnihijaa
