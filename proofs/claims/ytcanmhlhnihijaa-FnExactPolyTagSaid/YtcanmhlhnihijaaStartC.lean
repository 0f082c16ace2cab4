/- The sixteen words that a block of the stream starts from, of the model. -/
import Derived.Test.YtcanmhlhnihijaaJoinLow
import Derived.Test.YtcanmhlhnihijaaKRow
namespace Go.Proofs.Ytcanmhlhnihijaa
open Go.RowKit

theorem lo_bd (l : List Int) (h : By l) : 0 ≤ lo l ∧ lo l < 256 ^ l.length := by
  have := hi_bd l.reverse (fun x hx => h x (List.mem_reverse.1 hx))
  rwa [List.length_reverse] at this
/-- the word at four bytes, the lowest one first -/
def wlo (l : List Int) (i : Nat) : Int := lo ((l.drop (4 * i)).take 4)
def wordsLow (l : List Int) (k : Nat) : List Int := (List.range k).map (wlo l)
theorem wordsLow_zero (l : List Int) : wordsLow l 0 = [] := rfl
theorem wordsLow_len (l : List Int) (k : Nat) : (wordsLow l k).length = k := by simp [wordsLow]
theorem wordsLow_succ (l : List Int) (k : Nat) : wordsLow l (k + 1) = wordsLow l k ++ [wlo l k] := by simp [wordsLow, List.range_succ]
theorem wlo_bd (l : List Int) (h : By l) (i : Nat) : 0 ≤ wlo l i ∧ wlo l i < 4294967296 := by
  have hb := lo_bd ((l.drop (4 * i)).take 4) (fun y hy => h y (List.mem_of_mem_drop (List.mem_of_mem_take hy)))
  have hp : ∀ m : Nat, m ≤ 4 → (256 : Int) ^ m ≤ 4294967296 := by decide
  have := hp ((l.drop (4 * i)).take 4).length (by rw [List.length_take]; omega)
  unfold wlo
  omega
def sigmaW : List Int := [1634760805, 857760878, 2036477234, 1797285236]
def startW (key : List Int) (n : Int) (nonce : List Int) : List Int := sigmaW ++ wordsLow key 8 ++ [n % 4294967296] ++ wordsLow nonce 3
theorem startW_len (key : List Int) (n : Int) (nonce : List Int) : (startW key n nonce).length = 16 := by simp [startW, sigmaW, wordsLow_len]

end Go.Proofs.Ytcanmhlhnihijaa
