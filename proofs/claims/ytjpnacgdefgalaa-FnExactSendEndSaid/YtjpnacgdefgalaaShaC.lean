/- SHA-256, of the model. -/
import Derived.Test.YtjpnacgdefgalaaBase
namespace Go.Proofs.Ytjpnacgdefgalaa
open Go.RowKit

/-- x turned right by r places -/
def rightW (x r : Int) : Int := turn x (32 - r)

def addW (a b : Int) : Int := (a + b) % 4294967296
def xorW (a b : Int) : Int := bits BinOp.xor IntKind.u32 a b
def sig0 (x : Int) : Int := xorW (xorW (rightW x 7) (rightW x 18)) (x / 8)
def sig1 (x : Int) : Int := xorW (xorW (rightW x 17) (rightW x 19)) (x / 1024)
theorem xorW_bd (a b : Int) (ha0 : 0 ≤ a) (ha1 : a < 4294967296) (hb0 : 0 ≤ b) (hb1 : b < 4294967296) : 0 ≤ xorW a b ∧ xorW a b < 4294967296 := by
  unfold xorW
  rw [u32_xor a b ha0 ha1 hb0 hb1]
  have := Nat.xor_lt_two_pow (n := 32) (x := a.toNat) (y := b.toNat) (by omega) (by omega)
  omega
theorem rightW_bd (x r : Int) (h0 : 0 ≤ x) (h1 : x < 4294967296) (hr : 1 ≤ r) (hr1 : r ≤ 31) : 0 ≤ rightW x r ∧ rightW x r < 4294967296 := by
  have := turn_bd x (32 - r) h0 (by omega) (by omega) (by omega)
  unfold rightW
  omega
theorem sig0_bd (x : Int) (h0 : 0 ≤ x) (h1 : x < 4294967296) : 0 ≤ sig0 x ∧ sig0 x < 4294967296 := by
  have a := rightW_bd x 7 h0 h1 (by omega) (by omega)
  have b := rightW_bd x 18 h0 h1 (by omega) (by omega)
  have c := xorW_bd _ _ a.1 a.2 b.1 b.2
  exact xorW_bd _ _ c.1 c.2 (by omega) (by omega)
theorem sig1_bd (x : Int) (h0 : 0 ≤ x) (h1 : x < 4294967296) : 0 ≤ sig1 x ∧ sig1 x < 4294967296 := by
  have a := rightW_bd x 17 h0 h1 (by omega) (by omega)
  have b := rightW_bd x 19 h0 h1 (by omega) (by omega)
  have c := xorW_bd _ _ a.1 a.2 b.1 b.2
  exact xorW_bd _ _ c.1 c.2 (by omega) (by omega)
/-- the next of the 64 words of a block -/
def wordAt (l s : List Int) : Int :=
  if s.length < 16 then hi ((l.drop (4 * s.length)).take 4)
  else addW (addW (addW (s.getD (s.length - 16) 0) (sig0 (s.getD (s.length - 15) 0))) (s.getD (s.length - 7) 0)) (sig1 (s.getD (s.length - 2) 0))
def sched (l : List Int) : Nat → List Int
  | 0 => []
  | t + 1 => sched l t ++ [wordAt l (sched l t)]
theorem sched_len (l : List Int) (t : Nat) : (sched l t).length = t := by
  induction t with
  | zero => rfl
  | succ t ih => simp [sched, ih]
theorem sched_zero (l : List Int) : sched l 0 = [] := rfl
theorem sched_succ (l : List Int) (t : Nat) : sched l (t + 1) = sched l t ++ [wordAt l (sched l t)] := rfl

theorem sched_all (l : List Int) (h : By l) (t : Nat) : ∀ x ∈ sched l t, 0 ≤ x ∧ x < 4294967296 := by
  induction t with
  | zero => intro x hx; cases hx
  | succ t ih =>
    intro x hx
    rw [sched_succ] at hx
    rcases List.mem_append.1 hx with hx | hx
    · exact ih x hx
    · simp at hx
      subst hx
      unfold wordAt
      split
      · have hb := hi_bd ((l.drop (4 * (sched l t).length)).take 4) (fun y hy => h y (List.mem_of_mem_drop (List.mem_of_mem_take hy)))
        have hp : ∀ m : Nat, m ≤ 4 → (256 : Int) ^ m ≤ 4294967296 := by decide
        have := hp ((l.drop (4 * (sched l t).length)).take 4).length (by rw [List.length_take]; omega)
        omega
      · unfold addW; omega
theorem sched_word (l : List Int) (h : By l) (t i : Nat) : 0 ≤ (sched l t).getD i 0 ∧ (sched l t).getD i 0 < 4294967296 := by
  rcases Nat.lt_or_ge i (sched l t).length with hi | hi
  · have e : (sched l t).getD i 0 = (sched l t)[i] := by simp [List.getD, List.getElem?_eq_getElem hi]
    rw [e]
    exact sched_all l h t _ (List.getElem_mem hi)
  · have e : (sched l t).getD i 0 = 0 := by simp [List.getD, List.getElem?_eq_none hi]
    rw [e]; omega

def firstWords : List Int := [1779033703, 3144134277, 1013904242, 2773480762, 1359893119, 2600822924, 528734635, 1541459225]
def roundWords : List Int := [
  1116352408, 1899447441, 3049323471, 3921009573, 961987163, 1508970993, 2453635748, 2870763221,
  3624381080, 310598401, 607225278, 1426881987, 1925078388, 2162078206, 2614888103, 3248222580,
  3835390401, 4022224774, 264347078, 604807628, 770255983, 1249150122, 1555081692, 1996064986,
  2554220882, 2821834349, 2952996808, 3210313671, 3336571891, 3584528711, 113926993, 338241895,
  666307205, 773529912, 1294757372, 1396182291, 1695183700, 1986661051, 2177026350, 2456956037,
  2730485921, 2820302411, 3259730800, 3345764771, 3516065817, 3600352804, 4094571909, 275423344,
  430227734, 506948616, 659060556, 883997877, 958139571, 1322822218, 1537002063, 1747873779,
  1955562222, 2024104815, 2227730452, 2361852424, 2428436474, 2756734187, 3204031479, 3329325298]

end Go.Proofs.Ytjpnacgdefgalaa
