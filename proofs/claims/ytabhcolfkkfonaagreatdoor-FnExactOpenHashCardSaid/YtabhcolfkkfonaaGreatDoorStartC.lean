/- The sixteen words that a block of the stream starts from, of the model. -/
import Derived.Test.YtabhcolfkkfonaaGreatDoorJoinLow
import Derived.Test.YtabhcolfkkfonaaGreatDoorKRow
namespace Go.Proofs.YtabhcolfkkfonaaGreatDoor
open Go.RowKit

theorem lo_bd (l : List Int) (h : By l) : 0 ≤ lo l ∧ lo l < 256 ^ l.length := by
  have := hi_bd l.reverse (fun x hx => h x (List.mem_reverse.1 hx))
  rwa [List.length_reverse] at this
/-- the word at four bytes, the lowest one first -/
def wlo (l : List Int) (i : Nat) : Int := lo ((l.drop (4 * i)).take 4)
def wordsLow (l : List Int) (k : Nat) : List Int := (List.range k).map (wlo l)
theorem wordsLow_zero (l : List Int) : wordsLow l 0 = [] := rfl
theorem wordsLow_len (l : List Int) (k : Nat) : (wordsLow l k).length = k := by simp [wordsLow]
theorem wordsLow_succ (l : List Int) (k : Nat) : wordsLow l (k + 1) = wordsLow l k ++ [wlo l k] := by simp [wordsLow, List.range_succ]
theorem wlo_bd (l : List Int) (h : By l) (i : Nat) : 0 ≤ wlo l i ∧ wlo l i < 4294967296 := by
  have hb := lo_bd ((l.drop (4 * i)).take 4) (fun y hy => h y (List.mem_of_mem_drop (List.mem_of_mem_take hy)))
  have hp : ∀ m : Nat, m ≤ 4 → (256 : Int) ^ m ≤ 4294967296 := by decide
  have := hp ((l.drop (4 * i)).take 4).length (by rw [List.length_take]; omega)
  unfold wlo
  omega
def sigmaW : List Int := [1634760805, 857760878, 2036477234, 1797285236]
def startW (key : List Int) (n : Int) (nonce : List Int) : List Int := sigmaW ++ wordsLow key 8 ++ [n % 4294967296] ++ wordsLow nonce 3
theorem startW_len (key : List Int) (n : Int) (nonce : List Int) : (startW key n nonce).length = 16 := by simp [startW, sigmaW, wordsLow_len]

set_option maxHeartbeats 1000000 in
theorem l3Start_any (A : Option Addr) (c : Nat) (key : List Int) (n : Int) (A2 : Option Addr) (c2 : Nat) (nonce : List Int) (w : World) (hk : Bs w A 32 key) (hc : 32 ≤ c) (hn : Bs w A2 12 nonce) (hc2 : 12 ≤ c2) :
    Calls Tryz.prog 231 #[.slice A 32 c, .int .i64 n, .slice A2 12 c2] w fun e w' => (∃ g c', e = .returned (.slice (some ⟨g, 0, none⟩) 16 c') ∧ w.heap.size ≤ g ∧ KOw .u32 w' g (startW key n nonce)) ∧ Below w.heap.size w w' := by
  obtain ⟨b, off, rfl, hbs, hcell⟩ := hk.at_ (by omega)
  obtain ⟨b2, off2, rfl, hbs2, hcell2⟩ := hn.at_ (by omega)
  clear hcell hcell2
  go_enter Tryz.func231, Tryz.ntmps231
  go_wp2
  have h0 := KRow.new w sigmaW #[.int .u32 1634760805, .int .u32 857760878, .int .u32 2036477234, .int .u32 1797285236] 4 rfl rfl (by omega)
  go_loopw [7, 8] (fun v i wr => ∃ k : Nat, k ≤ 8 ∧ i = .int .i64 k ∧ KRow wr w.heap.size v (sigmaW ++ wordsLow key k) ∧ Below w.heap.size w wr) (fun _ i _ => 8 - (intOf i).toNat)
  case atStart => exact ⟨0, by omega, rfl, h0, ab (Below.refl _ _) _⟩
  case round =>
    obtain ⟨k, hkk, rfl, hrow, hbel⟩ := hrel
    have HL := Lib.hid (show (sigmaW ++ wordsLow key k).length = 4 + k by rw [List.length_append, wordsLow_len]; rfl)
    have hsz := hbel.size
    obtain ⟨g1, c1, rfl, hg1, how⟩ := hrow.kow HL.out (by omega)
    by_cases hlt : k < 8
    · have hp := (hk.below hbel).part_ (4 * k) 4 (by omega)
      have hX := wlo_bd key hk.byte k
      have Hs := Lib.hid (wordsLow_succ key k)
      go_wp2_with fail
      refine (specl1ReadLow_any _ _ _ _ _ hp (by omega)).mono ?_
      rintro e w2 ⟨rfl, hb2⟩
      have hs2 := hb2.size
      have row2 := hrow.keep (w' := w2) (fun g _ h2 => hb2.block g h2)
      rw [show lo ((key.drop (4 * k)).take 4) = wlo key k from rfl]
      generalize wlo key k = X at *
      obtain ⟨hX0, hX1⟩ := hX
      go_wp2_with (at_builtin; refine wpList_krow_append rfl _ _ rfl _ w.heap.size (.slice (some ⟨g1, 0, none⟩) (4 + k) c1) _ rfl (row2.alloc _) (by simp; omega) ⟨w2.heap.size, 0, none⟩ 1 X rfl (cell_one _ _ _) (by rw [HL.out]; omega) ?_; intro v3 w3 hr3 hb3 hs3)
      refine ⟨⟨k + 1, by omega, by go_num, ?_, (ab (ac hbel hb2) _).trans hb3⟩, by simp [intOf]; omega⟩
      rw [Hs.out, ← List.append_assoc]
      exact hr3
    · obtain rfl : k = 8 := by omega
      have HL9 := Lib.hid (show (sigmaW ++ wordsLow key 8 ++ [n % 4294967296]).length = 13 by rw [List.length_append, HL.out]; rfl)
      go_wp2_with (at_builtin; refine wpList_krow_append rfl _ _ rfl _ w.heap.size (.slice (some ⟨g1, 0, none⟩) 12 c1) _ rfl (hrow.alloc _) (by simp; omega) ⟨wr.heap.size, 0, none⟩ 1 (n % 4294967296) rfl (cell_one _ _ _) (by rw [HL.out]; omega) ?_; intro v4 w4 hr4 hb4 hs4)
      have B4 := (ab hbel _).trans hb4
      clear hbel hb4 hs4 hsz hrow how hkk hlt
      go_loopw [7, 9] (fun v i wr => ∃ k : Nat, k ≤ 3 ∧ i = .int .i64 k ∧ KRow wr w.heap.size v (sigmaW ++ wordsLow key 8 ++ [n % 4294967296] ++ wordsLow nonce k) ∧ Below w.heap.size w wr) (fun _ i _ => 3 - (intOf i).toNat)
      case atStart => exact ⟨0, by omega, rfl, by rw [wordsLow_zero, List.append_nil]; exact hr4, B4⟩
      case round =>
        obtain ⟨j, hj, rfl, hrow, hbel⟩ := hrel
        have HM := Lib.hid (show (sigmaW ++ wordsLow key 8 ++ [n % 4294967296] ++ wordsLow nonce j).length = 13 + j by rw [List.length_append, HL9.out, wordsLow_len])
        have hsz := hbel.size
        obtain ⟨g3, c3, rfl, hg3, how⟩ := hrow.kow HM.out (by omega)
        by_cases hlt : j < 3
        · have hp := (hn.below hbel).part_ (4 * j) 4 (by omega)
          have hX := wlo_bd nonce hn.byte j
          have Hs := Lib.hid (wordsLow_succ nonce j)
          go_wp2_with fail
          refine (specl1ReadLow_any _ _ _ _ _ hp (by omega)).mono ?_
          rintro e w2 ⟨rfl, hb2⟩
          have hs2 := hb2.size
          have row2 := hrow.keep (w' := w2) (fun g _ h2 => hb2.block g h2)
          rw [show lo ((nonce.drop (4 * j)).take 4) = wlo nonce j from rfl]
          generalize wlo nonce j = X at *
          obtain ⟨hX0, hX1⟩ := hX
          go_wp2_with (at_builtin; refine wpList_krow_append rfl _ _ rfl _ w.heap.size (.slice (some ⟨g3, 0, none⟩) (13 + j) c3) _ rfl (row2.alloc _) (by simp; omega) ⟨w2.heap.size, 0, none⟩ 1 X rfl (cell_one _ _ _) (by rw [HM.out]; omega) ?_; intro v5 w5 hr5 hb5 hs5)
          refine ⟨⟨j + 1, by omega, by go_num, ?_, (ab (ac hbel hb2) _).trans hb5⟩, by simp [intOf]; omega⟩
          rw [Hs.out, ← List.append_assoc]
          exact hr5
        · obtain rfl : j = 3 := by omega
          go_wp2
          go_ret
          exact ⟨⟨g3, c3, rfl, hg3, how⟩, hbel⟩
end Go.Proofs.YtabhcolfkkfonaaGreatDoor
