/- SHA-256, of the model. -/
import Derived.Test.YtgmbofoneeagiaaDoorBase
namespace Go.Proofs.YtgmbofoneeagiaaDoor
open Go.RowKit

/-- x turned right by r places -/
def rightW (x r : Int) : Int := turn x (32 - r)

theorem l2Right_any (x r : Int) (hr : 1 ≤ r) (hr1 : r ≤ 31) (w : World) :
    Calls Tryd.prog 40 #[.int .u32 x, .int .u32 r] w fun e w' => e = .returned (.int .u32 (rightW x r)) ∧ w = w' := by
  go_enter Tryd.func40, Tryd.ntmps40
  go_wp2_with fail
  refine (Turn_any _ _ (by omega) (by omega) _).mono ?_
  rintro e w' ⟨rfl, rfl⟩
  go_wp2
  go_ret
  exact ⟨rfl, rfl⟩

def addW (a b : Int) : Int := (a + b) % 4294967296
def xorW (a b : Int) : Int := bits BinOp.xor IntKind.u32 a b
def sig0 (x : Int) : Int := xorW (xorW (rightW x 7) (rightW x 18)) (x / 8)
def sig1 (x : Int) : Int := xorW (xorW (rightW x 17) (rightW x 19)) (x / 1024)
theorem xorW_bd (a b : Int) (ha0 : 0 ≤ a) (ha1 : a < 4294967296) (hb0 : 0 ≤ b) (hb1 : b < 4294967296) : 0 ≤ xorW a b ∧ xorW a b < 4294967296 := by
  unfold xorW
  rw [u32_xor a b ha0 ha1 hb0 hb1]
  have := Nat.xor_lt_two_pow (n := 32) (x := a.toNat) (y := b.toNat) (by omega) (by omega)
  omega
theorem rightW_bd (x r : Int) (h0 : 0 ≤ x) (h1 : x < 4294967296) (hr : 1 ≤ r) (hr1 : r ≤ 31) : 0 ≤ rightW x r ∧ rightW x r < 4294967296 := by
  have := turn_bd x (32 - r) h0 (by omega) (by omega) (by omega)
  unfold rightW
  omega
theorem sig0_bd (x : Int) (h0 : 0 ≤ x) (h1 : x < 4294967296) : 0 ≤ sig0 x ∧ sig0 x < 4294967296 := by
  have a := rightW_bd x 7 h0 h1 (by omega) (by omega)
  have b := rightW_bd x 18 h0 h1 (by omega) (by omega)
  have c := xorW_bd _ _ a.1 a.2 b.1 b.2
  exact xorW_bd _ _ c.1 c.2 (by omega) (by omega)
theorem sig1_bd (x : Int) (h0 : 0 ≤ x) (h1 : x < 4294967296) : 0 ≤ sig1 x ∧ sig1 x < 4294967296 := by
  have a := rightW_bd x 17 h0 h1 (by omega) (by omega)
  have b := rightW_bd x 19 h0 h1 (by omega) (by omega)
  have c := xorW_bd _ _ a.1 a.2 b.1 b.2
  exact xorW_bd _ _ c.1 c.2 (by omega) (by omega)
/-- the next of the 64 words of a block -/
def wordAt (l s : List Int) : Int :=
  if s.length < 16 then hi ((l.drop (4 * s.length)).take 4)
  else addW (addW (addW (s.getD (s.length - 16) 0) (sig0 (s.getD (s.length - 15) 0))) (s.getD (s.length - 7) 0)) (sig1 (s.getD (s.length - 2) 0))
def sched (l : List Int) : Nat → List Int
  | 0 => []
  | t + 1 => sched l t ++ [wordAt l (sched l t)]
theorem sched_len (l : List Int) (t : Nat) : (sched l t).length = t := by
  induction t with
  | zero => rfl
  | succ t ih => simp [sched, ih]
theorem sched_zero (l : List Int) : sched l 0 = [] := rfl
theorem sched_succ (l : List Int) (t : Nat) : sched l (t + 1) = sched l t ++ [wordAt l (sched l t)] := rfl

theorem sched_all (l : List Int) (h : By l) (t : Nat) : ∀ x ∈ sched l t, 0 ≤ x ∧ x < 4294967296 := by
  induction t with
  | zero => intro x hx; cases hx
  | succ t ih =>
    intro x hx
    rw [sched_succ] at hx
    rcases List.mem_append.1 hx with hx | hx
    · exact ih x hx
    · simp at hx
      subst hx
      unfold wordAt
      split
      · have hb := hi_bd ((l.drop (4 * (sched l t).length)).take 4) (fun y hy => h y (List.mem_of_mem_drop (List.mem_of_mem_take hy)))
        have hp : ∀ m : Nat, m ≤ 4 → (256 : Int) ^ m ≤ 4294967296 := by decide
        have := hp ((l.drop (4 * (sched l t).length)).take 4).length (by rw [List.length_take]; omega)
        omega
      · unfold addW; omega
theorem sched_word (l : List Int) (h : By l) (t i : Nat) : 0 ≤ (sched l t).getD i 0 ∧ (sched l t).getD i 0 < 4294967296 := by
  rcases Nat.lt_or_ge i (sched l t).length with hi | hi
  · have e : (sched l t).getD i 0 = (sched l t)[i] := by simp [List.getD, List.getElem?_eq_getElem hi]
    rw [e]
    exact sched_all l h t _ (List.getElem_mem hi)
  · have e : (sched l t).getD i 0 = 0 := by simp [List.getD, List.getElem?_eq_none hi]
    rw [e]; omega

set_option maxHeartbeats 1000000 in
theorem l2Words_any (A : Option Addr) (c : Nat) (l : List Int) (w : World) (h : Bs w A 64 l) (hc : 64 ≤ c) :
    Calls Tryd.prog 38 #[.slice A 64 c] w fun e w' => e = .returned (.slice (some ⟨w.heap.size, 0, none⟩) 64 64) ∧ KB .u32 44 w' w.heap.size (sched l 64) ∧ Below w.heap.size w w' := by
  have hmk : ∀ W : World, (Instr.makeSlice 41 (.int .i64 64) (.int .i64 64)).run Tryd.prog W = .ok (.slice (some ⟨W.heap.size, 0, none⟩) 64 64) (W.alloc (.cells (zeroWords 64) 44)) := fun W => run_make_words 64 (by omega) W
  obtain ⟨b, off, rfl, hbs, hcell⟩ := h.at_ (by omega)
  clear hcell
  go_enter Tryd.func38, Tryd.ntmps38
  go_wp2
  clear hmk
  go_loopw [4] (fun i wr => ∃ k : Nat, k ≤ 16 ∧ i = .int .i64 k ∧ KB .u32 44 wr w.heap.size (padded (sched l k) 64) ∧ Below w.heap.size w wr) (fun i _ => 16 - (intOf i).toNat)
  case atStart =>
    refine ⟨0, by omega, rfl, ?_, ab (Below.refl _ _) _⟩
    rw [sched_zero, padded_nil]
    exact KB.new w _ _ (zeroWords_eq 64)
  case round =>
    obtain ⟨k, hk, rfl, hkb, hbel⟩ := hrel
    by_cases hlt : k < 16
    · have hp := (h.below hbel).part_ (4 * k) 4 (by omega)
      have hsl := sched_len l k
      have Hw : Hid (sched l (k + 1) = sched l k ++ [hi ((l.drop (4 * k)).take 4)]) := by
        show sched l (k + 1) = _
        rw [sched_succ, wordAt, hsl, if_pos hlt]
      have Hp : Hid (∀ x, (padded (sched l k) 64).set k x = padded (sched l k ++ [x]) 64) := by
        intro x
        have := padded_set (sched l k) 64 x (by rw [hsl]; omega)
        rwa [hsl] at this
      have hpl := padded_len (sched l k) 64 (by rw [hsl]; omega)
      have hy := hkb.cell (i := k) (by omega)
      have hz := hkb.frozen k
      obtain ⟨X, hX⟩ : ∃ X, X = hi ((l.drop (4 * k)).take 4) := ⟨_, rfl⟩
      have hXb := hi_bd _ hp.byte
      rw [hp.len, ← hX] at hXb
      have hX0 : 0 ≤ X := hXb.1
      have hX1 : X < 4294967296 := by have := hXb.2; simpa using this
      have HX := Lib.hid hX
      clear hXb hX hsl hpl
      go_wp2_with fail
      refine (specl1ReadHigh_any _ _ _ _ _ hp (by omega)).mono ?_
      rintro e w2 ⟨rfl, rfl⟩
      rw [← HX.out]
      go_wp2
      refine ⟨⟨k + 1, by omega, by go_num, ?_, hbel.setCell (Nat.le_refl _) _⟩, by simp [intOf]; omega⟩
      rw [Hw.out, ← HX.out, ← Hp.out]
      exact hkb.set_ k X
    · obtain rfl : k = 16 := by omega
      go_wp2
      simp only [Int.cast_ofNat_Int]
      go_loopw [5] (fun i wr => ∃ j : Nat, j ≤ 48 ∧ i = .int .i64 ((j : Int) + 16) ∧ KB .u32 44 wr w.heap.size (padded (sched l (j + 16)) 64) ∧ Below w.heap.size w wr) (fun i _ => 64 - (intOf i).toNat)
      case atStart => exact ⟨0, by omega, rfl, hkb, hbel⟩
      case round =>
        clear hkb hbel hk hlt
        obtain ⟨j, hj, rfl, hkb, hbel⟩ := hrel
        by_cases hlt : j < 48
        · have hsl := sched_len l (j + 16)
          have hpl := padded_len (sched l (j + 16)) 64 (by rw [hsl]; omega)
          have hwd := fun i => sched_word l h.byte (j + 16) i
          have hg := fun i (hi : i < j + 16) => padded_get (sched l (j + 16)) 64 i (by rw [hsl]; exact hi)
          have hc := fun i (hi : i < 64) => hkb.cell (i := i) (by omega)
          have hz := hkb.frozen (j + 16)
          have hcA := hc j (by omega)
          have hcB := hc (j + 1) (by omega)
          have hcC := hc (j + 9) (by omega)
          have hcD := hc (j + 14) (by omega)
          have hcE := hc (j + 16) (by omega)
          rw [hg _ (by omega)] at hcA hcB hcC hcD
          have hwA := hwd j
          have hwB := hwd (j + 1)
          have hwC := hwd (j + 9)
          have hwD := hwd (j + 14)
          have Hw : Hid (sched l (j + 16 + 1) = sched l (j + 16) ++ [addW (addW (addW ((sched l (j + 16)).getD j 0) (sig0 ((sched l (j + 16)).getD (j + 1) 0))) ((sched l (j + 16)).getD (j + 9) 0)) (sig1 ((sched l (j + 16)).getD (j + 14) 0))]) := by
            show sched l (j + 16 + 1) = _
            rw [sched_succ, wordAt, hsl, if_neg (by omega), show j + 16 - 16 = j by omega, show j + 16 - 15 = j + 1 by omega, show j + 16 - 7 = j + 9 by omega, show j + 16 - 2 = j + 14 by omega]
          have Hp : Hid (∀ x, (padded (sched l (j + 16)) 64).set (j + 16) x = padded (sched l (j + 16) ++ [x]) 64) := by
            intro x
            have := padded_set (sched l (j + 16)) 64 x (by rw [hsl]; omega)
            rwa [hsl] at this
          generalize (sched l (j + 16)).getD j 0 = XA at *
          generalize (sched l (j + 16)).getD (j + 1) 0 = XB at *
          generalize (sched l (j + 16)).getD (j + 9) 0 = XC at *
          generalize (sched l (j + 16)).getD (j + 14) 0 = XD at *
          obtain ⟨hA0, hA1⟩ := hwA
          obtain ⟨hB0, hB1⟩ := hwB
          obtain ⟨hC0, hC1⟩ := hwC
          obtain ⟨hD0, hD1⟩ := hwD
          clear hsl hpl hwd hg hc
          go_wp2_with (first | (go_at_call 40; refine (l2Right_any _ _ (by omega) (by omega) _).mono ?_; rintro e w' ⟨rfl, rfl⟩))
          have hS0 := sig0_bd XB hB0 hB1
          have hS1 := sig1_bd XD hD0 hD1
          unfold sig0 xorW at hS0
          unfold sig1 xorW at hS1
          have Hw' : Hid (sched l (j + 16 + 1) = sched l (j + 16) ++ [addW (addW (addW XA (bits BinOp.xor IntKind.u32 (bits BinOp.xor IntKind.u32 (rightW XB 7) (rightW XB 18)) (XB / 8))) XC) (bits BinOp.xor IntKind.u32 (bits BinOp.xor IntKind.u32 (rightW XD 17) (rightW XD 19)) (XD / 1024))]) := Hw
          generalize bits BinOp.xor IntKind.u32 (bits BinOp.xor IntKind.u32 (rightW XB 7) (rightW XB 18)) (XB / 8) = S0 at hS0 Hw' ⊢
          generalize bits BinOp.xor IntKind.u32 (bits BinOp.xor IntKind.u32 (rightW XD 17) (rightW XD 19)) (XD / 1024) = S1 at hS1 Hw' ⊢
          obtain ⟨hS00, hS01⟩ := hS0
          obtain ⟨hS10, hS11⟩ := hS1
          have i1 : (j : Int) < 48 := by omega
          clear Hw
          go_region
          all_goals
            go_wp2
            refine ⟨⟨j + 1, by omega, by go_num, ?_, (hbel.setCell (Nat.le_refl _) _).drew⟩, by simp [intOf]; omega⟩
            have hsum : addW (addW (addW XA S0) XC) S1 = (XA + S0 + XC + S1) % 4294967296 := by unfold addW; omega
            rw [show j + 1 + 16 = j + 16 + 1 by omega, Hw'.out, hsum, ← Hp.out]
            exact (hkb.set_ (j + 16) _).drew
        · obtain rfl : j = 48 := by omega
          go_wp2
          go_ret
          rw [padded_full _ _ (sched_len l 64)] at hkb
          exact ⟨rfl, hkb, hbel⟩

def firstWords : List Int := [1779033703, 3144134277, 1013904242, 2773480762, 1359893119, 2600822924, 528734635, 1541459225]
def roundWords : List Int := [
  1116352408, 1899447441, 3049323471, 3921009573, 961987163, 1508970993, 2453635748, 2870763221,
  3624381080, 310598401, 607225278, 1426881987, 1925078388, 2162078206, 2614888103, 3248222580,
  3835390401, 4022224774, 264347078, 604807628, 770255983, 1249150122, 1555081692, 1996064986,
  2554220882, 2821834349, 2952996808, 3210313671, 3336571891, 3584528711, 113926993, 338241895,
  666307205, 773529912, 1294757372, 1396182291, 1695183700, 1986661051, 2177026350, 2456956037,
  2730485921, 2820302411, 3259730800, 3345764771, 3516065817, 3600352804, 4094571909, 275423344,
  430227734, 506948616, 659060556, 883997877, 958139571, 1322822218, 1537002063, 1747873779,
  1955562222, 2024104815, 2227730452, 2361852424, 2428436474, 2756734187, 3204031479, 3329325298]

theorem l2First_any (w : World) :
    Calls Tryd.prog 31 #[] w fun e w' => e = .returned (.slice (some ⟨w.heap.size, 0, none⟩) 8 8) ∧ KB .u32 44 w' w.heap.size firstWords ∧ Below w.heap.size w w' := by
  go_enter Tryd.func31, Tryd.ntmps31
  go_wp2
  go_ret
  exact ⟨rfl, KB.new w _ _ rfl, ab (Below.refl _ _) _⟩

theorem l2Round_any (w : World) :
    Calls Tryd.prog 39 #[] w fun e w' => e = .returned (.slice (some ⟨w.heap.size, 0, none⟩) 64 64) ∧ KB .u32 44 w' w.heap.size roundWords ∧ Below w.heap.size w w' := by
  go_enter Tryd.func39, Tryd.ntmps39
  go_wp2
  go_ret
  exact ⟨rfl, KB.new w _ _ rfl, ab (Below.refl _ _) _⟩
end Go.Proofs.YtgmbofoneeagiaaDoor
