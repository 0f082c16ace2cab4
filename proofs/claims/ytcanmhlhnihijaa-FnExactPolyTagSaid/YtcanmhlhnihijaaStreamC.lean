/- Data xor the blocks of a stream, of the model. -/
import Derived.Test.YtcanmhlhnihijaaBlockC
import Derived.Test.YtcanmhlhnihijaaXorC
import Derived.Test.YtcanmhlhnihijaaAtC
namespace Go.Proofs.Ytcanmhlhnihijaa
open Go.RowKit

/-- the first m bytes of the blocks of n, n + 1 and so on -/
def keyStream (key : List Int) (n : Int) (nonce : List Int) (m : Nat) : List Int := (List.range m).map fun j => (keyBlock key (n + ((j / 64 : Nat) : Int)) nonce).getD (j % 64) 0
theorem keyStream_len (key : List Int) (n : Int) (nonce : List Int) (m : Nat) : (keyStream key n nonce m).length = m := by simp [keyStream]
theorem keyStream_get (key : List Int) (n : Int) (nonce : List Int) (m j : Nat) (h : j < m) : (keyStream key n nonce m).getD j 0 = (keyBlock key (n + ((j / 64 : Nat) : Int)) nonce).getD (j % 64) 0 := by
  simp [keyStream, List.getD, h]
/-- data hidden: xor a stream -/
def streamL (key : List Int) (n : Int) (nonce data : List Int) : List Int := xorL data (keyStream key n nonce data.length)
theorem streamL_len (key : List Int) (n : Int) (nonce data : List Int) : (streamL key n nonce data).length = data.length := xorL_len _ _ (keyStream_len _ _ _ _).symm
theorem streamL_get (key : List Int) (n : Int) (nonce data : List Int) (t i : Nat) (hi : i < 64) (h : 64 * t + i < data.length) :
    (streamL key n nonce data).getD (64 * t + i) 0 = xorB (data.getD (64 * t + i) 0) ((keyBlock key (n + (t : Int)) nonce).getD i 0) := by
  unfold streamL
  rw [xorL_get _ _ _ h (by rw [keyStream_len]; exact h), keyStream_get _ _ _ _ _ h]
  rw [show (64 * t + i) / 64 = t by omega, show (64 * t + i) % 64 = i by omega]
theorem streamL_succ (key : List Int) (n : Int) (nonce data : List Int) (t i : Nat) (hi : i < 64) (h : 64 * t + i < data.length) :
    (streamL key n nonce data).take (64 * t + (i + 1)) = (streamL key n nonce data).take (64 * t + i) ++ [xorB (data.getD (64 * t + i) 0) ((keyBlock key (n + (t : Int)) nonce).getD i 0)] := by
  rw [← Nat.add_assoc, take_getD _ _ (by rw [streamL_len]; exact h), streamL_get _ _ _ _ _ _ hi h]

end Go.Proofs.Ytcanmhlhnihijaa
