/- Which part goes out next: of the model and of the program. -/
import Derived.Test.YtgmbofoneeagiaaWinP
import Derived.Test.YtgmbofoneeagiaaSndG
namespace Go.Proofs.Ytgmbofoneeagiaa
open Go.RowKit

def choose (now : Int) : Nat → Int → List PartD → Int
  | _, late, [] => late
  | i, late, e :: r => if 8 ≤ i then late else if e.f3 = true then choose now (i + 1) late r else if e.f2 = -1 then (i : Int) else choose now (i + 1) (if late < 0 ∧ e.f2 + 4 ≤ now then (i : Int) else late) r
theorem choose_end (now : Int) (i : Nat) (late : Int) (l : List PartD) (h : 8 ≤ i) : choose now i late l = late := by
  cases l with
  | nil => rfl
  | cons e r => simp only [choose]; rw [if_pos h]
theorem drop_cons {E : Type} {els : List E} {k : Nat} {e : E} (h : els[k]? = some e) : els.drop k = e :: els.drop (k + 1) := by
  have hk := (List.getElem?_eq_some_iff.1 h).1
  rw [List.drop_eq_getElem_cons hk]
  rw [List.getElem?_eq_getElem hk] at h
  injection h with h
  rw [h]
theorem choose_got {now late : Int} {els : List PartD} {k : Nat} {e : PartD} (he : els[k]? = some e) (hk : k < 8) (h : e.f3 = true) : choose now k late (els.drop k) = choose now (k + 1) late (els.drop (k + 1)) := by
  rw [drop_cons he]; simp only [choose]; rw [if_neg (by omega), if_pos h]
theorem choose_never {now late : Int} {els : List PartD} {k : Nat} {e : PartD} (he : els[k]? = some e) (hk : k < 8) (h : e.f3 = false) (h2 : e.f2 = -1) : choose now k late (els.drop k) = (k : Int) := by
  rw [drop_cons he]; simp only [choose]; rw [if_neg (by omega), if_neg (by simp [h]), if_pos h2]
theorem choose_late {now late : Int} {els : List PartD} {k : Nat} {e : PartD} (he : els[k]? = some e) (hk : k < 8) (h : e.f3 = false) (h2 : ¬ e.f2 = -1) (h3 : late < 0 ∧ e.f2 + 4 ≤ now) : choose now k late (els.drop k) = choose now (k + 1) (k : Int) (els.drop (k + 1)) := by
  rw [drop_cons he]; simp only [choose]; rw [if_neg (by omega), if_neg (by simp [h]), if_neg h2, if_pos h3]
theorem choose_no {now late : Int} {els : List PartD} {k : Nat} {e : PartD} (he : els[k]? = some e) (hk : k < 8) (h : e.f3 = false) (h2 : ¬ e.f2 = -1) (h3 : ¬ (late < 0 ∧ e.f2 + 4 ≤ now)) : choose now k late (els.drop k) = choose now (k + 1) late (els.drop (k + 1)) := by
  rw [drop_cons he]; simp only [choose]; rw [if_neg (by omega), if_neg (by simp [h]), if_neg h2, if_neg h3]
theorem choose_bd (now : Int) : ∀ (l : List PartD) (i : Nat) (late : Int), choose now i late l = late ∨ ((i : Int) ≤ choose now i late l ∧ choose now i late l < (i : Int) + (l.length : Int) ∧ choose now i late l < 8)
  | [], i, late => .inl rfl
  | e :: r, i, late => by
    simp only [choose, List.length_cons]
    by_cases h8 : 8 ≤ i
    · rw [if_pos h8]; exact .inl rfl
    · rw [if_neg h8]
      by_cases h3 : e.f3 = true
      · rw [if_pos h3]
        rcases choose_bd now r (i + 1) late with h | h
        · exact .inl h
        · right; push_cast at h ⊢; omega
      · rw [if_neg h3]
        by_cases h2 : e.f2 = -1
        · rw [if_pos h2]; right; push_cast; omega
        · rw [if_neg h2]
          by_cases h4 : late < 0 ∧ e.f2 + 4 ≤ now
          · rw [if_pos h4]
            rcases choose_bd now r (i + 1) (i : Int) with h | h
            · right; rw [h]; push_cast; omega
            · right; push_cast at h ⊢; omega
          · rw [if_neg h4]
            rcases choose_bd now r (i + 1) late with h | h
            · exact .inl h
            · right; push_cast at h ⊢; omega

set_option linter.unusedVariables false in
set_option maxHeartbeats 4000000 in
theorem l8Choose_any (g : Nat) (base now : Int) (A : Option Addr) (n c : Nat) (els : List PartD) (w : World) (hS : Stc w g [.int .i64 base, .slice A n c] 58) (h : Lst PartD.cels 4 w A n els) (hn : n ≤ 1048576) (hs : ∀ e ∈ els, -1 ≤ e.f2 ∧ e.f2 ≤ 1000) (h0 : 0 ≤ now) (h1 : now ≤ 1000) :
    Calls Try.prog 185 #[.pointer (some ⟨g, 0, none⟩), .int .i64 now] w fun x w' => x = .returned (.int .i64 (choose now 0 (-1) els)) ∧ w' = w := by
  have hg := hS.lt
  have v1 := hS.cell (i := 1) rfl
  have Hl := Shut.mk h.len
  obtain ⟨z, hz⟩ : ∃ z, z = choose now 0 (-1) els := ⟨_, rfl⟩
  rw [← hz]
  have Hz := Shut.mk hz
  clear hz
  go_enter Try.func185, Try.ntmps185
  go_wp2
  go_loopw [5, 6] (fun lt i wr => ∃ (k : Nat) (late : Int), k ≤ n ∧ k ≤ 8 ∧ i = .int .i64 k ∧ lt = .int .i64 late ∧ Shut (z = choose now k late (els.drop k)) ∧ -1 ≤ late ∧ late ≤ 8 ∧ wr = w) (fun lt i _ => n - (intOf i).toNat)
  case atStart => exact ⟨0, -1, Nat.zero_le _, by omega, rfl, rfl, Hz, by omega, by omega, rfl⟩
  case round =>
    obtain ⟨k, late, hk, hk8, rfl, rfl, hc, hl0, hl1, rfl⟩ := hrel
    by_cases hlt : k < n
    · by_cases h8 : k < 8
      · obtain ⟨b, off, e, B, m, c', rfl, hbs, he, g0, g1, g2, g3, hB, hz'⟩ := h.getPart hlt
        obtain ⟨e1, e2⟩ := hs e (List.mem_of_getElem? he.out)
        have t0 : decide ((k : Int) < (n : Int)) = true := by simp; omega
        have t1 : decide ((k : Int) < 8) = true := by simp; omega
        cases hf : e.f3
        · by_cases h2 : e.f2 = -1
          · have E : Shut (z = (k : Int)) := ⟨by rw [hc.out, choose_never he.out h8 hf h2]⟩
            have t2 : (e.f2 == -1) = true := by simpa using h2
            rw [hf] at g3
            clear h hB hf h2 hc
            go_wp2
            go_ret
            exact ⟨by rw [E.out]; rfl, rfl⟩
          · have t2 : (e.f2 == -1) = false := by simpa using h2
            by_cases h3 : late < 0 ∧ e.f2 + 4 ≤ now
            · have E : Shut (z = choose now (k + 1) (k : Int) (els.drop (k + 1))) := ⟨by rw [hc.out, choose_late he.out h8 hf h2 h3]⟩
              have t3 : decide (late < 0) = true := by simp; omega
              have t4 : decide (e.f2 + 4 ≤ now) = true := by simp; omega
              rw [hf] at g3
              clear h hB hf h2 hc h3
              go_wp2
              go_roundw
              case rel => exact ⟨k + 1, _, by omega, by omega, by go_num, rfl, E, by omega, by omega, trivial⟩
              case measure => (simp [intOf]; omega)
            · have E : Shut (z = choose now (k + 1) late (els.drop (k + 1))) := ⟨by rw [hc.out, choose_no he.out h8 hf h2 h3]⟩
              rw [hf] at g3
              by_cases h4 : late < 0
              · have t3 : decide (late < 0) = true := by simp; omega
                have t4 : decide (e.f2 + 4 ≤ now) = false := by simp; omega
                clear h hB hf h2 hc h3
                go_wp2
                go_roundw
                case rel => exact ⟨k + 1, _, by omega, by omega, by go_num, rfl, E, by omega, by omega, trivial⟩
                case measure => (simp [intOf]; omega)
              · have t3 : decide (late < 0) = false := by simp; omega
                clear h hB hf h2 hc h3
                go_wp2
                go_roundw
                case rel => exact ⟨k + 1, _, by omega, by omega, by go_num, rfl, E, by omega, by omega, trivial⟩
                case measure => (simp [intOf]; omega)
        · have E : Shut (z = choose now (k + 1) late (els.drop (k + 1))) := ⟨by rw [hc.out, choose_got he.out h8 hf]⟩
          rw [hf] at g3
          clear h hB hf hc
          go_wp2
          go_roundw
          case rel => exact ⟨k + 1, _, by omega, by omega, by go_num, rfl, E, by omega, by omega, trivial⟩
          case measure => (simp [intOf]; omega)
      · obtain rfl : k = 8 := by omega
        have E : Shut (z = late) := ⟨by rw [hc.out, choose_end _ _ _ _ (Nat.le_refl _)]⟩
        have t0 : decide (((8 : Nat) : Int) < (n : Int)) = true := by simp; omega
        clear h hc
        go_wp2
        go_ret
        exact ⟨by rw [E.out]; rfl, rfl⟩
    · obtain rfl : k = n := by omega
      have E : Shut (z = late) := ⟨by rw [hc.out, List.drop_of_length_le (by rw [Hl.out]; exact Nat.le_refl _)]; rfl⟩
      clear h hc
      go_wp2
      go_ret
      exact ⟨by rw [E.out]; rfl, rfl⟩
end Go.Proofs.Ytgmbofoneeagiaa
