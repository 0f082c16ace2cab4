/- A message is put into a sender: of the model. -/
import Derived.Test.YtjpnacgdefgalaaSdmC
namespace Go.Proofs.Ytjpnacgdefgalaa
open Go.RowKit

def apxP := @Apx PartD PartD.cels 4 96

set_option linter.unusedVariables false in
set_option maxRecDepth 100000 in
set_option maxHeartbeats 4000000 in
theorem l8Send_any (g lo : Nat) (base : Int) (v : Value) (els : List PartD) (Bm : Option Addr) (m d : Nat) (l : List Int) (w : World) (hS : Stc w g [.int .i64 base, v] 36) (hap : apxP w lo (fun b => b = g) v els) (hlo : lo ≤ g) (hB : ∀ W, Below lo w W → Bs W Bm m l) (hmd : m ≤ d) (hm : m ≤ 1000) (hn : els.length ≤ 1000) :
    Calls Try.prog 97 #[.pointer (some ⟨g, 0, none⟩), .slice Bm m d] w fun e w' => e = .returned (.tuple #[]) ∧ (∃ v', Stc w' g [.int .i64 base, v'] 36 ∧ apxP w' lo (fun b => b = g) v' (els ++ cutL l (cntL l))) ∧ Below lo w w' := by
  have hgl := hS.lt
  have hB0 := hB w (Below.refl _ _)
  have Hl := Shut.mk hB0.len
  obtain ⟨L, hL⟩ : ∃ L, L = els ++ cutL l (cntL l) := ⟨_, rfl⟩
  rw [← hL]
  have HL := Shut.mk hL
  clear hL
  go_enter Try.func97, Try.ntmps97
  go_wp2
  go_loopw [4] (fun i wr => ∃ (j p : Nat) (v' : Value), Shut (p = 32 * j) ∧ (m = 0 ∧ p = 0 ∨ p < m + 32) ∧ i = .int .i64 (p : Int) ∧ Stc wr g [.int .i64 base, v'] 36 ∧ apxP wr lo (fun b => b = g) v' (els ++ cutL l j) ∧ Below lo w wr) (fun i _ => m + 32 - (intOf i).toNat)
  case atStart => exact ⟨0, 0, v, ⟨rfl⟩, by omega, rfl, hS, by rw [show cutL l 0 = [] from rfl, List.append_nil]; exact hap, Below.refl _ _⟩
  case round =>
    obtain ⟨j, p, v', hp, hj, rfl, hS1, hap1, hbel⟩ := hrel
    have hpj := hp.out
    have u1 := hS1.cell (i := 1) rfl
    have uf := hS1.frozen 1
    have hgl1 := hS1.lt
    by_cases hlt : p < m
    · obtain ⟨b, off, rfl, hbw, hcw⟩ := hB0.at_ (by omega)
      obtain ⟨E, hE⟩ : ∃ E : Nat, E = (if p + 32 < m then p + 32 else m) := ⟨_, rfl⟩
      have hEb : p < E ∧ E ≤ m ∧ E ≤ p + 32 := by split at hE <;> omega
      have hmin := fun W => Min_any ((p : Int) + 32) (m : Int) W
      have hmi : (if (p : Int) + 32 < (m : Int) then (p : Int) + 32 else (m : Int)) = (E : Int) := by rw [hE]; split <;> split <;> omega
      rw [hmi] at hmin
      obtain ⟨P, hP⟩ : ∃ P, P = pieceAt l j := ⟨_, rfl⟩
      have hp0 : P.f0 = (l.drop p).take (E - p) := by
        rw [hP]
        show (l.drop (32 * j)).take 32 = _
        rw [← hpj]
        have hd9 : (l.drop p).length = m - p := by rw [List.length_drop, Hl.out]
        by_cases h9 : p + 32 < m
        · rw [if_pos h9] at hE; rw [show E - p = 32 by omega]
        · rw [if_neg h9] at hE; rw [List.take_of_length_le (by omega), List.take_of_length_le (by omega)]
      have hp1 : P.f1 = ((E : Int) == (m : Int)) := by
        rw [hP]
        show decide (l.length ≤ 32 * (j + 1)) = _
        rw [Hl.out]
        by_cases h9 : p + 32 < m
        · rw [if_pos h9] at hE
          rw [decide_eq_false (by omega)]
          symm; simp; omega
        · rw [if_neg h9] at hE
          rw [decide_eq_true (by omega)]
          symm; simp; omega
      have hp2 : P.f2 = -1 := by rw [hP]; rfl
      have hp3 : P.f3 = false := by rw [hP]; rfl
      have hcut : els ++ cutL l (j + 1) = (els ++ cutL l j) ++ [P] := by rw [cutL_succ, hP, List.append_assoc]
      have Hcut := Shut.mk hcut
      have hlen : (els ++ cutL l j).length ≤ 10000000 := by rw [List.length_append, cutL_len]; omega
      have t0 : decide ((p : Int) < (m : Int)) = true := by simp; omega
      have hcp := fun W (hh : Below lo w W) => copy_own (some ⟨b, off + p, none⟩) (E - p) (d - p) P.f0 W (by rw [hp0]; exact (hB W hh).part_ p (E - p) (by omega)) (fun h => by cases h) (by omega)
      clear hcut hP hmi hE hcw hp0 hpj
      go_wp2_with fail
      refine (hmin _).mono ?_
      rintro x w9 ⟨rfl, rfl⟩
      go_wp2
      have hbwr : b < wr.heap.size := by have := hbel.size; omega
      obtain ⟨q, hq⟩ : ∃ q : Nat, q = E - p := ⟨_, rfl⟩
      rw [← hq] at hcp
      have hqi : (E : Int) - (p : Int) = (q : Int) := by omega
      have hlen0 : True := trivial
      have hq' := hq.symm
      have g1 : E ≤ d := by omega
      have g2 : p ≤ E := by omega
      have g3 : ¬ p = d := by omega
      have g4 : ¬ d - p = 0 := by omega
      have g5 : ¬ d ≤ p := by omega
      clear hq
      have hXl : ∀ b, b = g → b < wr.heap.size := fun b e => e ▸ hgl1
      have hsz : lo ≤ wr.heap.size := by omega
      have hapX : v'.ownBlock ≠ some g := by
        obtain ⟨xs, ho, hX, r⟩ := hap1.own
        exact hX g rfl
      have Hlk : Shut ((els ++ cutL l j ++ [P]).length = els.length + j + 1) := ⟨by simp [cutL_len]; omega⟩
      have Hp1 := Shut.mk hp1
      have Hp2 := Shut.mk hp2
      have Hp3 := Shut.mk hp3
      clear hp1 hp2 hp3
      go_region_law (first
        | (refine step_apx_append (cels := PartD.cels) Try.underlying34 info_Part rfl (by decide) (by decide) (fun _ => rfl) rfl _ _ rfl wr _ lo (fun b => b = g) hXl v' (els ++ cutL l j) hap1 (ab ((Below.refl wr.heap.size wr).drew.trans b1) _) hsz rfl hlen _ _ [.slice A1 q c1, .bool ((E : Int) == (m : Int)), .int .i64 (-1), .bool false] rfl rfl (cells_new (by simp) _ _) (by simp [Value.oneCell']) P (Gone 0 q A1) (fun j b hb => by have h7 := Gone.in_ (ho.alloc (.cells #[.slice A1 q c1, .bool ((E : Int) == (m : Int)), .int .i64 (-1), .bool false] 96)) j b hb; exact h7) Gone.dis (fun j d hj => by
            rcases j with _ | _ | _ | _ | j <;> simp [PartD.cels] at hj <;> subst hj
            · exact ⟨_, rfl, Gone.ow (ho.alloc _) hrm.2⟩
            · exact ⟨_, rfl, by rw [Hp1.out]; rfl⟩
            · exact ⟨_, rfl, by rw [Hp2.out]; rfl⟩
            · exact ⟨_, rfl, by rw [Hp3.out]; rfl⟩) ?_; intro v2 w2 hap' hb2 hlay helse; obtain ⟨A2, c2, rfl, _, _⟩ := hap'.ap.lo Hlk.out; have HS2 := ((hS1.below ((Below.refl wr.heap.size wr).drew.trans b1) hgl1).alloc (.cells #[.slice A1 q c1, .bool ((E : Int) == (m : Int)), .int .i64 (-1), .bool false] 96)); have e9 := helse g HS2.lt (fun e => hapX e); have HS3 : Stc w2 g [.int .i64 base, v'] 36 := e9.trans HS2; have y1 := HS3.cell (i := 1) rfl; have yf := HS3.frozen 1)
        | (go_simp; go_wp2_with (go_at_call 160; refine (hcp _ ?hb).mono ?_; (case hb => first | exact hbel | exact hbel.drew | exact hbel.drew.drew); rintro x w1 ⟨⟨A1, c1, rfl, ho, hrm⟩, b1⟩; have S8 := hS1.below ((Below.refl wr.heap.size wr).drew.trans b1) hgl1; have u8 := S8.cell (i := 1) rfl; have g8 := S8.lt)))
      all_goals
        have b1' := (Below.refl wr.heap.size wr).drew.trans b1
        have hsz1 := b1'.size
        have HS4 := HS3.set_ (i := 1) (.slice A2 (els.length + j + 1) c2)
        have HA4 := hap'.far (p := ⟨g, 1, none⟩) rfl (.slice A2 (els.length + j + 1) c2)
        have HB4 := (((hbel.trans (b1'.mono hsz)).alloc (by have := hbel.size; omega) (.cells #[.slice A1 q c1, .bool ((E : Int) == (m : Int)), .int .i64 (-1), .bool false] 96)).trans hb2).setCell (p := ⟨g, 1, none⟩) hlo (.slice A2 (els.length + j + 1) c2)
        go_wp2
        go_roundw
        case rel => exact ⟨j + 1, p + 32, _, ⟨by rw [hp.out]; omega⟩, by omega, by go_num, HS4, by rw [Hcut.out]; exact HA4, HB4⟩
        case measure => (simp [intOf]; omega)
    · have hje : Shut (j = cntL l) := ⟨by unfold cntL; rw [Hl.out]; omega⟩
      have t0 : decide ((p : Int) < (m : Int)) = false := by simp; omega
      go_wp2
      go_end0
      exact ⟨rfl, ⟨v', hS1, by rw [HL.out, ← hje.out]; exact hap1⟩, hbel⟩
end Go.Proofs.Ytjpnacgdefgalaa
