/- A box sealed and opened, of the model. -/
import Derived.Test.YtcanmhlhnihijaaTagC
import Derived.Test.YtcanmhlhnihijaaSame
import Derived.Deep.RegionHeld
namespace Go.Proofs.Ytcanmhlhnihijaa
open Go.RowKit

theorem Row.nilcap {w : World} {B n c : Nat} {A : Option Addr} {l : List Int} (h : Row w B (.slice A n c) l) : A = none → c = 0 := fun e0 => by
  rcases h.own.2 with ⟨e, _⟩ | ⟨g, cap, cur, e, _, _, hnc, _⟩
  · injection e with _ e2 e3
  · injection e with e1 e2 e3
    rw [e0] at e1; cases e1

/-- a box: a text hidden, and its tag behind it -/
def sealL (key nonce more text : List Int) : List Int := streamL key 1 nonce text ++ boxTag key nonce more (streamL key 1 nonce text)
theorem sealL_len (key nonce more text : List Int) : (sealL key nonce more text).length = text.length + 16 := by
  unfold sealL
  rw [List.length_append, streamL_len, boxTag_len]

end Go.Proofs.Ytcanmhlhnihijaa
