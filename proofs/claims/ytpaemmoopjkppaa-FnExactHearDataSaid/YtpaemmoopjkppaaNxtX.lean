import Derived.Test.YtpaemmoopjkppaaSndP
import Derived.Test.YtpaemmoopjkppaaSrfX
import Derived.Test.YtpaemmoopjkppaaSndS
import Derived.WalkMore

/-! WinP -/
/- The program's window of parts: made of copies. -/
namespace Go.Proofs.Ytpaemmoopjkppaa
open Go.RowKit

end Go.Proofs.Ytpaemmoopjkppaa

/-! NxtC -/
/- Which part goes out next: of the model and of the program. -/
namespace Go.Proofs.Ytpaemmoopjkppaa
open Go.RowKit

def choose (now : Int) : Nat → Int → List PartD → Int
  | _, late, [] => late
  | i, late, e :: r => if 8 ≤ i then late else if e.f3 = true then choose now (i + 1) late r else if e.f2 = -1 then (i : Int) else choose now (i + 1) (if late < 0 ∧ e.f2 + 4 ≤ now then (i : Int) else late) r
theorem choose_end (now : Int) (i : Nat) (late : Int) (l : List PartD) (h : 8 ≤ i) : choose now i late l = late := by
  cases l with
  | nil => rfl
  | cons e r => simp only [choose]; rw [if_pos h]
theorem drop_cons {E : Type} {els : List E} {k : Nat} {e : E} (h : els[k]? = some e) : els.drop k = e :: els.drop (k + 1) := by
  have hk := (List.getElem?_eq_some_iff.1 h).1
  rw [List.drop_eq_getElem_cons hk]
  rw [List.getElem?_eq_getElem hk] at h
  injection h with h
  rw [h]
theorem choose_got {now late : Int} {els : List PartD} {k : Nat} {e : PartD} (he : els[k]? = some e) (hk : k < 8) (h : e.f3 = true) : choose now k late (els.drop k) = choose now (k + 1) late (els.drop (k + 1)) := by
  rw [drop_cons he]; simp only [choose]; rw [if_neg (by omega), if_pos h]
theorem choose_never {now late : Int} {els : List PartD} {k : Nat} {e : PartD} (he : els[k]? = some e) (hk : k < 8) (h : e.f3 = false) (h2 : e.f2 = -1) : choose now k late (els.drop k) = (k : Int) := by
  rw [drop_cons he]; simp only [choose]; rw [if_neg (by omega), if_neg (by simp [h]), if_pos h2]
theorem choose_late {now late : Int} {els : List PartD} {k : Nat} {e : PartD} (he : els[k]? = some e) (hk : k < 8) (h : e.f3 = false) (h2 : ¬ e.f2 = -1) (h3 : late < 0 ∧ e.f2 + 4 ≤ now) : choose now k late (els.drop k) = choose now (k + 1) (k : Int) (els.drop (k + 1)) := by
  rw [drop_cons he]; simp only [choose]; rw [if_neg (by omega), if_neg (by simp [h]), if_neg h2, if_pos h3]
theorem choose_no {now late : Int} {els : List PartD} {k : Nat} {e : PartD} (he : els[k]? = some e) (hk : k < 8) (h : e.f3 = false) (h2 : ¬ e.f2 = -1) (h3 : ¬ (late < 0 ∧ e.f2 + 4 ≤ now)) : choose now k late (els.drop k) = choose now (k + 1) late (els.drop (k + 1)) := by
  rw [drop_cons he]; simp only [choose]; rw [if_neg (by omega), if_neg (by simp [h]), if_neg h2, if_neg h3]
theorem choose_bd (now : Int) : ∀ (l : List PartD) (i : Nat) (late : Int), choose now i late l = late ∨ ((i : Int) ≤ choose now i late l ∧ choose now i late l < (i : Int) + (l.length : Int) ∧ choose now i late l < 8)
  | [], i, late => .inl rfl
  | e :: r, i, late => by
    simp only [choose, List.length_cons]
    by_cases h8 : 8 ≤ i
    · rw [if_pos h8]; exact .inl rfl
    · rw [if_neg h8]
      by_cases h3 : e.f3 = true
      · rw [if_pos h3]
        rcases choose_bd now r (i + 1) late with h | h
        · exact .inl h
        · right; push_cast at h ⊢; omega
      · rw [if_neg h3]
        by_cases h2 : e.f2 = -1
        · rw [if_pos h2]; right; push_cast; omega
        · rw [if_neg h2]
          by_cases h4 : late < 0 ∧ e.f2 + 4 ≤ now
          · rw [if_pos h4]
            rcases choose_bd now r (i + 1) (i : Int) with h | h
            · right; rw [h]; push_cast; omega
            · right; push_cast at h ⊢; omega
          · rw [if_neg h4]
            rcases choose_bd now r (i + 1) late with h | h
            · exact .inl h
            · right; push_cast at h ⊢; omega

end Go.Proofs.Ytpaemmoopjkppaa

/-! NxtS -/
namespace Go.Proofs.Ytpaemmoopjkppaa
open Go.RowKit

def slotAt (now : Int) (e : PartD) : PartD := ⟨e.f0, e.f1, now, e.f3⟩

end Go.Proofs.Ytpaemmoopjkppaa

/-! NxtN -/
/- NextCell of the model. -/
namespace Go.Proofs.Ytpaemmoopjkppaa
open Go.RowKit

/-- what NextCell gives -/
def NextOut (base : Int) (els : List PartD) (now Z0 Z1 : Int) (N0 : Nat) (D0 : List PartD) (Z3 Z4 Z5 Z6 : Int) (Z7 : Bool) (N1 : Nat) (D1 : List Int) : Prop :=
  N0 = D0.length ∧ N1 = D1.length ∧ Z5 = 0 ∧ Z6 = 0 ∧
  ((senF base els ≠ 0 ∧ Z0 = senF base els ∧ Z1 = 0 ∧ D0 = [] ∧ Z3 = 0 ∧ Z4 = 0 ∧ Z7 = false ∧ D1 = []) ∨
   (senF base els = 0 ∧ slotB now = false ∧ Z0 = 3 ∧ Z1 = 0 ∧ D0 = [] ∧ Z3 = 0 ∧ Z4 = 0 ∧ Z7 = false ∧ D1 = []) ∨
   (senF base els = 0 ∧ slotB now = true ∧ choose now 0 (-1) els < 0 ∧ Z0 = 0 ∧ Z1 = base ∧ D0 = els ∧ Z3 = 0 ∧ Z4 = 0 ∧ Z7 = false ∧ D1 = []) ∨
   (senF base els = 0 ∧ slotB now = true ∧ ∃ (k : Nat) (e : PartD), els[k]? = some e ∧ choose now 0 (-1) els = (k : Int) ∧ Z0 = 0 ∧ Z1 = base ∧ D0 = els.set k (slotAt now e) ∧ Z3 = 1 ∧ Z4 = base + (k : Int) ∧ Z7 = e.f1 ∧ D1 = e.f0))
theorem firstF_zero {E : Type} (f : E → Int) : ∀ {els : List E}, firstF f els = 0 → ∀ e ∈ els, f e = 0
  | [], _ => fun e he => by cases he
  | x :: r, h => fun e he => by
    simp only [firstF] at h
    by_cases hx : f x ≠ 0
    · rw [if_pos hx] at h; exact absurd h hx
    · rw [if_neg hx] at h
      rcases List.mem_cons.1 he with rfl | he
      · exact Classical.not_not.1 hx
      · exact firstF_zero f h e he
theorem senF_zero {base : Int} {els : List PartD} (h : senF base els = 0) : 0 ≤ base ∧ base ≤ 9975 ∧ els.length ≤ 24 ∧ ∀ e ∈ els, e.f0.length ≤ 32 ∧ -1 ≤ e.f2 ∧ e.f2 ≤ 400 := by
  unfold senF at h
  by_cases h1 : numsB base els.length = false
  · rw [if_pos h1] at h; cases h
  · rw [if_neg h1] at h
    by_cases h2 : 24 < els.length
    · rw [if_pos h2] at h; cases h
    · rw [if_neg h2] at h
      by_cases h3 : firstF partF els ≠ 0
      · rw [if_pos h3] at h; exact absurd h h3
      · have h4 := firstF_zero partF (Classical.not_not.1 h3)
        have h1' : numsB base els.length = true := by simpa using h1
        unfold numsB at h1'
        have h5 := of_decide_eq_true h1'
        refine ⟨h5.1, by omega, by omega, fun e he => ?_⟩
        have h6 := h4 e he
        unfold partF at h6
        by_cases h7 : 32 < e.f0.length
        · rw [if_pos h7] at h6; cases h6
        · rw [if_neg h7] at h6
          by_cases h8 : sentB e = true ∧ slotB e.f2 = false
          · rw [if_pos h8] at h6; cases h6
          · refine ⟨by omega, ?_⟩
            by_cases h9 : e.f2 = -1
            · omega
            · have h10 : sentB e = true := by simpa [sentB] using h9
              have h11 : slotB e.f2 = true := by
                cases hh : slotB e.f2
                · exact absurd ⟨h10, hh⟩ h8
                · rfl
              unfold slotB at h11
              have := of_decide_eq_true h11
              omega
theorem slotB_bd {x : Int} (h : slotB x = true) : 0 ≤ x ∧ x ≤ 400 := by unfold slotB at h; exact of_decide_eq_true h
theorem choose_cases (now : Int) (els : List PartD) : choose now 0 (-1) els < 0 ∨ ∃ (k : Nat) (e : PartD), els[k]? = some e ∧ choose now 0 (-1) els = (k : Int) := by
  rcases choose_bd now els 0 (-1) with h | ⟨h1, h2, _⟩
  · left; omega
  · right
    obtain ⟨k, hk⟩ : ∃ k : Nat, choose now 0 (-1) els = (k : Int) := ⟨(choose now 0 (-1) els).toNat, by omega⟩
    have hl : k < els.length := by omega
    exact ⟨k, els[k], List.getElem?_eq_getElem hl, hk⟩
theorem NextOut.ex (base now : Int) (els : List PartD) : ∃ Z0 Z1 N0 D0 Z3 Z4 Z5 Z6 Z7 N1 D1, NextOut base els now Z0 Z1 N0 D0 Z3 Z4 Z5 Z6 Z7 N1 D1 := by
  by_cases h0 : senF base els = 0
  · cases h1 : slotB now
    · exact ⟨3, 0, 0, [], 0, 0, 0, 0, false, 0, [], rfl, rfl, rfl, rfl, .inr (.inl ⟨h0, h1, rfl, rfl, rfl, rfl, rfl, rfl, rfl⟩)⟩
    · rcases choose_cases now els with h2 | ⟨k, e, he, hk⟩
      · exact ⟨0, base, _, els, 0, 0, 0, 0, false, 0, [], rfl, rfl, rfl, rfl, .inr (.inr (.inl ⟨h0, h1, h2, rfl, rfl, rfl, rfl, rfl, rfl, rfl⟩))⟩
      · exact ⟨0, base, _, els.set k (slotAt now e), 1, base + (k : Int), 0, 0, e.f1, _, e.f0, rfl, rfl, rfl, rfl, .inr (.inr (.inr ⟨h0, h1, k, e, he, hk, rfl, rfl, rfl, rfl, rfl, rfl, rfl⟩))⟩
  · exact ⟨_, 0, 0, [], 0, 0, 0, 0, false, 0, [], rfl, rfl, rfl, rfl, .inl ⟨h0, rfl, rfl, rfl, rfl, rfl, rfl, rfl⟩⟩
theorem NextOut.bd {base now Z0 Z1 : Int} {els : List PartD} {N0 : Nat} {D0 : List PartD} {Z3 Z4 Z5 Z6 : Int} {Z7 : Bool} {N1 : Nat} {D1 : List Int} (h : NextOut base els now Z0 Z1 N0 D0 Z3 Z4 Z5 Z6 Z7 N1 D1) : N0 ≤ 24 ∧ N1 ≤ 32 ∧ (∀ e ∈ D0, e.f0.length ≤ 32) := by
  obtain ⟨rfl, rfl, _, _, h⟩ := h
  rcases h with ⟨_, _, _, rfl, _, _, _, rfl⟩ | ⟨_, _, _, _, rfl, _, _, _, rfl⟩ | ⟨h0, _, _, _, _, rfl, _, _, _, rfl⟩ | ⟨h0, _, k, e, he, _, _, _, rfl, _, _, _, rfl⟩
  · exact ⟨by simp, by simp, fun e he => by cases he⟩
  · exact ⟨by simp, by simp, fun e he => by cases he⟩
  · obtain ⟨_, _, h3, h4⟩ := senF_zero h0
    exact ⟨h3, by simp, fun e he => (h4 e he).1⟩
  · obtain ⟨_, _, h3, h4⟩ := senF_zero h0
    have hm : e ∈ els := List.mem_of_getElem? he
    refine ⟨by rw [List.length_set]; exact h3, (h4 e hm).1, fun x hx => ?_⟩
    rcases List.mem_or_eq_of_mem_set hx with hx | rfl
    · exact (h4 x hx).1
    · exact (h4 e hm).1
theorem none_P (w : World) (lo hi : Nat) : (tP none 0 []) w (rng lo hi) := Lo.nil_ _ _ _
theorem none_R (w : World) (lo hi : Nat) : (tR none 0 []) w (rng lo hi) := Bo.nil_ _ _ _

end Go.Proofs.Ytpaemmoopjkppaa

/-! NxtP -/
namespace Go.Proofs.Ytpaemmoopjkppaa
open Go.RowKit

end Go.Proofs.Ytpaemmoopjkppaa

/-! NxtI -/
namespace Go.Proofs.Ytpaemmoopjkppaa
open Go.RowKit

theorem Lo.setSent {w : World} {F : Nat → Prop} {A : Option Addr} {n : Nat} {els : List PartD} (h : Lo PartD.cels 4 w F A n els) {k : Nat} {e : PartD} (he : els[k]? = some e) (now : Int) :
    ∃ b off B m d, A = some ⟨b, off, none⟩ ∧ F b ∧ b < w.heap.size ∧ (∀ i, w.frozen? ⟨b, i, none⟩ = false) ∧ Shut (e.f0.length = m) ∧ (∃ x, w.cell? ⟨b, off + k * 4 + 2, none⟩ = some x) ∧
      Shut (∀ W1, W1 = w.setCell ⟨b, off + k * 4 + 2, none⟩ (.int .i64 now) → W1.heap.size = w.heap.size ∧ Lo PartD.cels 4 W1 F A n (els.set k (slotAt now e)) ∧
      W1.cell? ⟨b, off + k * 4, none⟩ = some (.slice B m d) ∧ W1.cell? ⟨b, off + k * 4 + 1, none⟩ = some (.bool e.f1) ∧ W1.cell? ⟨b, off + k * 4 + 2, none⟩ = some (.int .i64 now) ∧ W1.cell? ⟨b, off + k * 4 + 3, none⟩ = some (.bool e.f3) ∧
      Bs W1 B m e.f0 ∧ (B = none → d = 0) ∧ Tu F w W1) := by
  obtain ⟨b, off, G, rfl, hF, hbl, hfz, hG, hc, hup⟩ := h.upd (fun _ => rfl) he
  obtain ⟨x0, c0, B, m, d, rfl, ho, hzz⟩ := hc 0 _ rfl
  obtain ⟨x1, c1, rfl⟩ := hc 1 _ rfl
  obtain ⟨x2, c2, rfl⟩ := hc 2 _ rfl
  obtain ⟨x3, c3, rfl⟩ := hc 3 _ rfl
  simp only [Nat.add_zero] at c0
  refine ⟨b, off, B, m, d, rfl, hF, hbl, hfz, ⟨ho.len⟩, ⟨_, c2⟩, ⟨fun W1 hW1 => ?_⟩⟩
  have hs1 : W1.heap.size = w.heap.size := by rw [hW1]; simp
  have d0 : W1.cell? ⟨b, off + k * 4, none⟩ = some (.slice B m d) := by rw [hW1, cellOff _ (by omega)]; exact c0
  have d1 : W1.cell? ⟨b, off + k * 4 + 1, none⟩ = some (.bool e.f1) := by rw [hW1, cellOff _ (by omega)]; exact c1
  have d2 : W1.cell? ⟨b, off + k * 4 + 2, none⟩ = some (.int .i64 now) := by rw [hW1]; exact cellOn _ c2
  have d3 : W1.cell? ⟨b, off + k * 4 + 3, none⟩ = some (.bool e.f3) := by rw [hW1, cellOff _ (by omega)]; exact c3
  have hT1 : Tu F w W1 := by rw [hW1]; exact (Tu.refl F w).set_ hF _
  have hB1 : Bo W1 (G 0) B m e.f0 := by
    refine ho.keep (by rw [hs1]; exact Nat.le_refl _) fun b' hb' _ => ?_
    rw [hW1]; exact heapOff _ (hG 0 b' hb').2
  refine ⟨hs1, ?_, d0, d1, d2, d3, hB1.bs, hzz, hT1⟩
  refine hup.out _ _ (by rw [hs1]; exact Nat.le_refl _) (fun i => by rw [hW1]; simp only [World.frozen?_setCell]; exact hfz i) (fun b' hFb hbg' hGb hlb => by rw [hW1]; exact heapOff _ hbg') (fun i hi => by rw [hW1]; exact cellOff _ (by omega)) (fun i d0' hd => ?_)
  rcases i with _ | _ | _ | _ | i <;> simp [PartD.cels, slotAt] at hd <;> subst hd
  · exact ⟨_, d0, ⟨_, _, _, rfl, hB1, hzz⟩⟩
  · exact ⟨_, d1, rfl⟩
  · exact ⟨_, d2, rfl⟩
  · exact ⟨_, d3, rfl⟩
theorem choose_neg {now : Int} {els : List PartD} (h : choose now 0 (-1) els < 0) : choose now 0 (-1) els = -1 := by
  rcases choose_bd now els 0 (-1) with h1 | ⟨h1, _, _⟩
  · exact h1
  · omega
end Go.Proofs.Ytpaemmoopjkppaa
