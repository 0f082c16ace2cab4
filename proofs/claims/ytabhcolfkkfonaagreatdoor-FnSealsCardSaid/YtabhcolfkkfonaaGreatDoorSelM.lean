/- What is opened is what was sealed, of cells: plain mathematics. -/
import Derived.Test.YtabhcolfkkfonaaGreatDoorSelD
import Derived.Test.YtabhcolfkkfonaaGreatDoorOpnQ
import Derived.Test.YtabhcolfkkfonaaGreatDoorCellS
import Derived.Test.YtabhcolfkkfonaaGreatDoorTurnsC
import Derived.Test.YtabhcolfkkfonaaGreatDoorCipDrw
namespace Go.Proofs.YtabhcolfkkfonaaGreatDoor
open Go.RowKit
set_option linter.unusedVariables false

theorem fld_cr0 (x y a b c d : Int) (v : Bool) (A : Option Addr) (n f : Nat) (w : World) : (Instr.field 60 (.agg #[.int .i64 x, .int .i64 y, .int .i64 a, .int .i64 b, .int .i64 c, .int .i64 d, .bool v, .slice A n f]) 0).run Tryz.prog w = .ok (.int .i64 x) w := by kernel_rfl
theorem fld_cr1 (x y a b c d : Int) (v : Bool) (A : Option Addr) (n f : Nat) (w : World) : (Instr.field 60 (.agg #[.int .i64 x, .int .i64 y, .int .i64 a, .int .i64 b, .int .i64 c, .int .i64 d, .bool v, .slice A n f]) 1).run Tryz.prog w = .ok (.int .i64 y) w := by kernel_rfl
theorem fld_cr2 (x y a b c d : Int) (v : Bool) (A : Option Addr) (n f : Nat) (w : World) : (Instr.field 60 (.agg #[.int .i64 x, .int .i64 y, .int .i64 a, .int .i64 b, .int .i64 c, .int .i64 d, .bool v, .slice A n f]) 2).run Tryz.prog w = .ok (.agg #[.int .i64 a, .int .i64 b, .int .i64 c, .int .i64 d, .bool v, .slice A n f]) w := by kernel_rfl
theorem fld_br1 (x : Int) (A : Option Addr) (n f : Nat) (w : World) : (Instr.field 46 (.agg #[.int .i64 x, .slice A n f]) 1).run Tryz.prog w = .ok (.slice A n f) w := by kernel_rfl
theorem sameC_self (a b c d : Int) (v : Bool) (l : List Int) : sameC a b c d v l a b c d v l = true := by simp [sameC]

theorem dec_back {p : List Int} (h : decCode 44 p = 0) : decOk p = true ∧ cellC (fK p) (fS p) (fA p) (fM p) (fL p) (fZ p).toNat = 0 ∧ cellL (fK p) (fS p) (fA p) (fM p) (fL p) (fB p (fZ p).toNat) = p := by
  unfold decCode at h
  rw [if_pos rfl] at h
  split at h
  · rename_i ho
    have ho2 := ho
    unfold decOk at ho2
    rw [Bool.and_eq_true] at ho2
    obtain ⟨h1, h2⟩ := decB_of ho2.2
    exact ⟨ho, h1, h2⟩
  · omega

theorem dec_cellL {a b c d : Int} {v : Bool} {l : List Int} (h : cellC a b c d v l.length = 0) : decOk (cellL a b c d v l) = true := by
  unfold decOk
  have hz := fZ_cellL a b c d v l
  have hl := (cellC_lim h).2.2
  rw [hz, Int.toNat_natCast, decB_cellL h, Bool.and_true, decide_eq_true_eq]
  omega

theorem hi4_hi {l : List Int} (hb : By l) (hl : l.length = 4) : hi4 (hi l) = l := by
  obtain ⟨a, b, c, d, rfl⟩ : ∃ a b c d, l = [a, b, c, d] := by
    rcases l with _ | ⟨a, _ | ⟨b, _ | ⟨c, _ | ⟨d, _ | ⟨e, r⟩⟩⟩⟩⟩ <;> simp at hl
    exact ⟨a, b, c, d, rfl⟩
  have ha := hb a (by simp)
  have hbb := hb b (by simp)
  have hc := hb c (by simp)
  have hd := hb d (by simp)
  have e : hi [a, b, c, d] = ((a * 256 + b) * 256 + c) * 256 + d := by simp [hi, hiStep]
  rw [e]
  unfold hi4 lowOf
  simp [List.range_succ]
  omega

theorem hi_hi4 {s : Int} (h0 : 0 ≤ s) (h1 : s ≤ 400) : hi (hi4 s) = s := by
  have e : hi4 s = [s / 256 ^ 3 % 256, s / 256 ^ 2 % 256, s / 256 ^ 1 % 256, s / 256 ^ 0 % 256] := by
    unfold hi4 lowOf
    simp [List.range_succ]
  rw [e]
  simp [hi, hiStep]
  omega

theorem By.take' {l : List Int} (h : By l) (k : Nat) : By (l.take k) := fun x hx => h x (List.mem_of_mem_take hx)
theorem By.drop' {l : List Int} (h : By l) (k : Nat) : By (l.drop k) := fun x hx => h x (List.mem_of_mem_drop hx)

/-- a wire that is opened is that of its cell -/
theorem open_back {n m : Nat} {key wire : List Int} (hw : wire.length = m) (hby : By wire) (h : opC n m key wire = 0) :
    n = 32 ∧ m = 64 ∧ inB (slotV m wire) 0 400 = true ∧ opD n m key wire = true ∧ cellC (fK (opText key wire (slotV m wire))) (fS (opText key wire (slotV m wire))) (fA (opText key wire (slotV m wire))) (fM (opText key wire (slotV m wire))) (fL (opText key wire (slotV m wire))) (fZ (opText key wire (slotV m wire))).toNat = 0 ∧
      wireL key (slotV m wire) (cellL (fK (opText key wire (slotV m wire))) (fS (opText key wire (slotV m wire))) (fA (opText key wire (slotV m wire))) (fM (opText key wire (slotV m wire))) (fL (opText key wire (slotV m wire))) (fB (opText key wire (slotV m wire)) (fZ (opText key wire (slotV m wire))).toNat)) = wire := by
  unfold opC at h
  split at h
  · rename_i hn
    split at h
    · rename_i hs
      split at h
      · rename_i ht
        obtain ⟨hm, hv0, hv1⟩ := slot_bd hby hs
        obtain ⟨ho, hc, hl⟩ := dec_back h
        refine ⟨hn, hm, by simp [inB, hv0, hv1], by simp [opD, hn, hs, ht, ho], hc, ?_⟩
        rw [hl]
        have hsv : slotV m wire = hi (wire.take 4) := by
          have hs9 := hs
          unfold slotV
          unfold slotC at hs9
          rw [if_pos hm] at hs9 ⊢
          by_cases h4 : hi (wire.take 4) ≤ 400
          · rw [if_pos h4]
          · rw [if_neg h4] at hs9; omega
        have h4 : hi4 (slotV m wire) = wire.take 4 := by rw [hsv]; exact hi4_hi (hby.take' 4) (by rw [List.length_take, hw, hm]; rfl)
        have h60 : (opBox wire).length = 60 := by unfold opBox; rw [List.length_drop, hw, hm]
        have hoc : openCode 0 key (nonceL (slotV m wire)) (wire.take 4) (opBox wire) = 0 := by
          unfold openCode
          rw [if_pos rfl, h60, if_neg (by omega)]
          exact if_pos ht
        have hso := (seal_open key (nonceL (slotV m wire)) (wire.take 4) (opBox wire) (hby.drop' 4) hoc).2
        have hot : openL key (nonceL (slotV m wire)) (opBox wire) = opText key wire (slotV m wire) := by
          unfold openL opText
          rw [h60]
        rw [hot] at hso
        unfold wireL
        rw [h4, hso]
        exact List.take_append_drop 4 wire
      · omega
    · rename_i hs; exact absurd h hs
  · omega

/-- a cell that is sealed is opened -/
theorem seal_back {key : List Int} {s a b c d : Int} {v : Bool} {l : List Int} (hs : inB s 0 400 = true) (hby : By (cellL a b c d v l)) (hc : cellC a b c d v l.length = 0) :
    slotC 64 (wireL key s (cellL a b c d v l)) = 0 ∧ slotV 64 (wireL key s (cellL a b c d v l)) = s ∧ opC 32 64 key (wireL key s (cellL a b c d v l)) = 0 ∧ opD 32 64 key (wireL key s (cellL a b c d v l)) = true ∧ opText key (wireL key s (cellL a b c d v l)) s = cellL a b c d v l := by
  have hs2 : 0 ≤ s ∧ s ≤ 400 := by simpa [inB] using hs
  have hl := (cellC_lim hc).2.2
  have hE := cellL_len a b c d v l (by omega)
  have hdk := dec_cellL hc
  generalize cellL a b c d v l = E at *
  have ht4 : (wireL key s E).take 4 = hi4 s := by unfold wireL; exact List.take_left' (hi4_len s)
  have hd4 : opBox (wireL key s E) = sealL key (nonceL s) (hi4 s) E := by unfold opBox wireL; exact List.drop_left' (hi4_len s)
  have e1 : slotC 64 (wireL key s E) = 0 := by unfold slotC; rw [if_pos rfl, ht4, hi_hi4 hs2.1 hs2.2, if_pos hs2.2]
  have e2 : slotV 64 (wireL key s E) = s := by unfold slotV; rw [if_pos rfl, ht4, hi_hi4 hs2.1 hs2.2, if_pos hs2.2]
  obtain ⟨o1, o2⟩ := open_seal key (nonceL s) (hi4 s) E hby
  have h60 : (sealL key (nonceL s) (hi4 s) E).length = 60 := by rw [sealL_len, hE]
  have e3 : opText key (wireL key s E) s = E := by
    unfold openL at o2
    rw [h60] at o2
    unfold opText
    rw [hd4]
    exact o2
  have e4 : opTag key (wireL key s E) s := by
    unfold openCode at o1
    rw [if_pos rfl, h60, if_neg (by omega)] at o1
    unfold opTag
    rw [ht4, hd4]
    split at o1
    · rename_i h; exact h
    · omega
  have e5 : decCode 44 E = 0 := by simp [decCode, hdk]
  refine ⟨e1, e2, ?_, ?_, e3⟩
  · unfold opC
    rw [if_pos rfl, if_pos e1, e2, if_pos e4, e3]
    exact e5
  · unfold opD
    rw [e2, e3]
    simp [e1, e4, hdk]
end Go.Proofs.YtabhcolfkkfonaaGreatDoor
