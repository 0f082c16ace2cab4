/- OpenCell, at all keys and wires, of both. -/
import Derived.Test.YtabhcolfkkfonaaGreatDoorOpnP
namespace Go.Proofs.YtabhcolfkkfonaaGreatDoor
open Go.RowKit

theorem slot_bd {m : Nat} {wire : List Int} (hb : By wire) (h : slotC m wire = 0) : m = 64 ∧ 0 ≤ slotV m wire ∧ slotV m wire ≤ 400 := by
  unfold slotC at h
  split at h
  · rename_i hm
    split at h
    · rename_i h4
      unfold slotV
      rw [if_pos hm, if_pos h4]
      exact ⟨hm, (hi4_bd hb).1, h4⟩
    · omega
  · omega

theorem specOpenCell_any (K : Option Addr) (n kc : Nat) (key : List Int) (A : Option Addr) (m mc : Nat) (wire : List Int) (w : World) (hk : Bs w K n key) (hkc : n ≤ kc) (hA : Bs w A m wire) (hm : m ≤ mc) :
    Calls Tryz.prog 45 #[.slice K n kc, .slice A m mc] w (OpnAns (opC n m key wire) (opD n m key wire) (slotV m wire) (opText key wire (slotV m wire)) w) := by
  unfold opC opD
  by_cases hn : n = 32
  · subst hn
    by_cases hs : slotC m wire = 0
    · obtain ⟨rfl, hv⟩ := slot_bd hA.byte hs
      obtain ⟨b, off, rfl, _⟩ := hA.at_ (by omega)
      by_cases ht : opTag key wire (slotV 64 wire)
      · simp only [hs, ht, decide_true, Bool.true_and, if_true]
        exact specOpen_box K kc key b off mc wire _ w hk hkc hA hm hs rfl hv ht
      · simp only [hs, ht, decide_true, decide_false, Bool.true_and, Bool.false_and, if_true, if_false]
        exact specOpen_sum K kc key b off mc wire _ _ w hk hkc hA hm hs rfl hv ht
    · simp only [hs, decide_true, decide_false, Bool.true_and, Bool.false_and, if_true, if_false]
      exact specOpen_slot K kc A m mc wire _ _ w hA hm hs
  · simp only [hn, decide_false, Bool.false_and, if_false]
    exact specOpen_key K n kc A m mc _ _ w hn

theorem implOpenCell_any (K : Option Addr) (n kc : Nat) (key : List Int) (A : Option Addr) (m mc : Nat) (wire : List Int) (w : World) (hQ : Quar w) (hE : Sent w) (hk : Bs w K n key) (hkc : n ≤ kc) (hA : Bs w A m wire) (hm : m ≤ mc) :
    Calls Tryz.prog 40 #[.slice K n kc, .slice A m mc] w (OpnAns (opC n m key wire) (opD n m key wire) (slotV m wire) (opText key wire (slotV m wire)) w) := by
  unfold opC opD
  by_cases hn : n = 32
  · subst hn
    by_cases hs : slotC m wire = 0
    · obtain ⟨rfl, hv⟩ := slot_bd hA.byte hs
      obtain ⟨b, off, rfl, _⟩ := hA.at_ (by omega)
      by_cases ht : opTag key wire (slotV 64 wire)
      · simp only [hs, ht, decide_true, Bool.true_and, if_true]
        exact implOpen_box K kc key b off mc wire _ w hQ hE hk hkc hA hm hs rfl hv ht
      · simp only [hs, ht, decide_true, decide_false, Bool.true_and, Bool.false_and, if_true, if_false]
        exact implOpen_sum K kc key b off mc wire _ _ w hQ hE hk hkc hA hm hs rfl hv ht
    · simp only [hs, decide_true, decide_false, Bool.true_and, Bool.false_and, if_true, if_false]
      exact implOpen_slot K kc A m mc wire _ _ w hA hm hs
  · simp only [hn, decide_false, Bool.false_and, if_false]
    exact implOpen_key K n kc A m mc _ _ w hn

theorem opD_len {n m : Nat} {key wire : List Int} : selN (opD n m key wire) (fZ (opText key wire (slotV m wire))).toNat ≤ 2000000 := by
  unfold selN
  split
  · rename_i h
    unfold opD decOk at h
    simp only [Bool.and_eq_true, decide_eq_true_eq] at h
    have := h.2.2.2.1
    omega
  · omega

theorem OpnAns.rs {C : Int} {b : Bool} {s : Int} {p : List Int} {w : World} {e : Ending} {w' : World} (h : OpnAns C b s p w e w') : (∃ A f, e = .returned (.agg #[.int .i64 C, .int .i64 (selI b s), .int .i64 (selI b (fK p)), .int .i64 (selI b (fS p)), .int .i64 (selI b (fA p)), .int .i64 (selI b (fM p)), .bool (selB b (fL p)), .slice A (selN b (fZ p).toNat) f]) ∧ Rs w' w.heap.size [(A, selN b (fZ p).toNat, selL b (fB p (fZ p).toNat))]) ∧ Below w.heap.size w w' :=
  ⟨by obtain ⟨A, f, h1, h2, _⟩ := h.1; exact ⟨A, f, h1, h2⟩, h.2⟩
end Go.Proofs.YtabhcolfkkfonaaGreatDoor
