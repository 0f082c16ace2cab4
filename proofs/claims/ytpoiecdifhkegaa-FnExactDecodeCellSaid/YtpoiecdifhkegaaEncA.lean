/- EncodeCell, of the model and of the program. -/
import Derived.Test.YtpoiecdifhkegaaEncQ
import Derived.Test.YtpoiecdifhkegaaCellC
namespace Go.Proofs.Ytpoiecdifhkegaa
open Go.RowKit

theorem Row.capX {w : World} {B n c : Nat} {A : Option Addr} {l : List Int} (h : Row w B (.slice A n c) l) : n ≤ c ∧ (A = none → c = 0) := by
  rcases h.own.2 with ⟨e, _⟩ | ⟨g, cap, cur, e, _, _, hnc, _⟩
  · injection e with e1 e2 e3
    exact ⟨by omega, fun _ => e3⟩
  · injection e with e1 e2 e3
    exact ⟨by omega, fun e0 => by rw [e0] at e1; cases e1⟩

/-- how long the text is, and what it is, if nothing is wrong -/
def encN (C : Int) : Nat := if C = 0 then 44 else 0
def encL (C : Int) (l : List Int) : List Int := if C = 0 then l else []
theorem encN_le (C : Int) : encN C ≤ 44 := by unfold encN; split <;> omega

/-- the answer with a code and a text of the call's own -/
def EncAns (C : Int) (L : List Int) (w : World) (e : Ending) (w' : World) : Prop :=
  (∃ A0 d0, e = .returned (.agg #[.int .i64 C, .slice A0 (encN C) d0]) ∧ Rs w' w.heap.size [(A0, encN C, encL C L)] ∧ encN C ≤ d0 ∧ (A0 = none → d0 = 0)) ∧ Below w.heap.size w w'

theorem EncAns.rs {C : Int} {L : List Int} {w : World} {e : Ending} {w' : World} (h : EncAns C L w e w') : (∃ A0 d0, e = .returned (.agg #[.int .i64 C, .slice A0 (encN C) d0]) ∧ Rs w' w.heap.size [(A0, encN C, encL C L)]) ∧ Below w.heap.size w w' :=
  ⟨by obtain ⟨A0, d0, h1, h2, _⟩ := h.1; exact ⟨A0, d0, h1, h2⟩, h.2⟩

set_option maxHeartbeats 2000000 in
theorem specEncodeCell_any (a b c d : Int) (v : Bool) (A : Option Addr) (n f : Nat) (l : List Int) (w : World) (hA : Bs w A n l) (hcap : A = none → f = 0) :
    Calls Try.prog 16 #[.agg #[.int .i64 a, .int .i64 b, .int .i64 c, .int .i64 d, .bool v, .slice A n f]] w (EncAns (cellC a b c d v n) (cellL a b c d v l) w) := by
  have cc := fun W => specCellFault_any a b c d v A n f W
  have D0 := (Stc.new w 25 [.int .i64 a, .int .i64 b, .int .i64 c, .int .i64 d, .bool v, .slice A n f] _ rfl).alloc (.cells #[.int .i64 0, .slice none 0 0] 28)
  have T0 := Stc.new (w.alloc (.cells #[.int .i64 a, .int .i64 b, .int .i64 c, .int .i64 d, .bool v, .slice A n f] 25)) 28 [.int .i64 0, .slice none 0 0] _ rfl
  have B0 := ab (ab (Below.refl _ w) (.cells #[.int .i64 a, .int .i64 b, .int .i64 c, .int .i64 d, .bool v, .slice A n f] 25)) (.cells #[.int .i64 0, .slice none 0 0] 28)
  simp only [World.size_alloc] at T0
  by_cases h0 : cellC a b c d v n = 0
  · obtain ⟨⟨a0, a1⟩, ⟨b0, b1⟩, ⟨c0, c1⟩, ⟨d0, d1⟩, hn, _⟩ := cellC_ok h0
    have H := fun W (hW : Below w.heap.size w W) (hD : Stc W w.heap.size [.int .i64 a, .int .i64 b, .int .i64 c, .int .i64 d, .bool v, .slice A n f] 25) => l6Encode_any w.heap.size a b c d v A n f l W hD (hA.below hW) hcap a0 a1 b0 b1 c0 c1 d0 d1 hn
    rw [h0] at cc ⊢
    have F : Shut (encN 0 = 44 ∧ encL 0 (cellL a b c d v l) = cellL a b c d v l) := ⟨rfl, rfl⟩
    have len := Shut.mk (cellL_len a b c d v l (by rw [hA.len]; omega))
    clear h0 hA a0 a1 b0 b1 c0 c1 d0 d1
    generalize cellL a b c d v l = L at *
    go_enter Try.func16, Try.ntmps16
    go_wp2_with fail
    refine (cc _).mono ?_
    rintro e w1 ⟨rfl, b1⟩
    have B1 := ac B0 b1
    replace D0 := D0.below b1 D0.lt
    replace T0 := T0.below b1 T0.lt
    clear b1 B0
    go_wp2_with fail
    refine (H _ B1 D0).mono ?_
    rintro e w2 ⟨⟨A', c', rfl, r2⟩, b2⟩
    have B2 := ac B1 b2
    have z1 := T0.lt
    replace T0 := T0.below b2 T0.lt
    have y0 := T0.cell (i := 0) rfl
    have y1 := T0.cell (i := 1) rfl
    have y2 := T0.frozen
    obtain ⟨q1, q2⟩ := r2.capX
    have o2 := r2.ow' len.out
    clear b2 B1 D0 H cc
    go_wp2
    refine bodyPost_ret (v := .agg #[.int .i64 0, .slice A' 44 c']) (by simp [results, Try.results16, go_sem, y0, y1]) rfl ?_
    refine ⟨⟨A', c', rfl, ?_, q1, q2⟩, (B2.setCell (by simp) _).setCell (by simp) _⟩
    exact Rs.one (((o2.far (by simp; omega) _).far (by simp; omega) _).mono (by have := B2.size; omega))
  · have hx : (cellC a b c d v n != 0) = true := by simpa using h0
    have F : Shut (encN (cellC a b c d v n) = 0 ∧ encL (cellC a b c d v n) (cellL a b c d v l) = []) := ⟨by unfold encN; rw [if_neg h0], by unfold encL; rw [if_neg h0]⟩
    unfold EncAns
    rw [F.out.1, F.out.2]
    generalize cellC a b c d v n = C at *
    clear h0 F
    go_enter Try.func16, Try.ntmps16
    go_wp2_with fail
    refine (cc _).mono ?_
    rintro e w1 ⟨rfl, b1⟩
    have B1 := ac B0 b1
    replace T0 := T0.below b1 T0.lt
    have y0 := T0.cell (i := 0) rfl
    have y1 := T0.cell (i := 1) rfl
    have y2 := T0.frozen
    go_wp2
    refine bodyPost_ret (v := .agg #[.int .i64 C, .slice none 0 0]) (by simp [results, Try.results16, go_sem, y0, y1]) rfl ?_
    exact ⟨⟨none, 0, rfl, Rs.one (Ow.nil_ _ _), Nat.le_refl _, fun _ => rfl⟩, (B1.setCell (by simp) _).setCell (by simp) _⟩
set_option maxHeartbeats 2000000 in
theorem implEncodeCell_any (a b c d : Int) (v : Bool) (A : Option Addr) (n f : Nat) (l : List Int) (w : World) (hA : Bs w A n l) :
    Calls Try.prog 11 #[.agg #[.int .i64 a, .int .i64 b, .int .i64 c, .int .i64 d, .bool v, .slice A n f]] w (EncAns (cellC a b c d v n) (cellL a b c d v l) w) := by
  have cc := fun W => implCellFault_any a b c d v A n f W
  have D0 := (Stc.new w 25 [.int .i64 a, .int .i64 b, .int .i64 c, .int .i64 d, .bool v, .slice A n f] _ rfl).alloc (.cells #[.int .i64 0, .slice none 0 0] 28)
  have T0 := Stc.new (w.alloc (.cells #[.int .i64 a, .int .i64 b, .int .i64 c, .int .i64 d, .bool v, .slice A n f] 25)) 28 [.int .i64 0, .slice none 0 0] _ rfl
  have B0 := ab (ab (Below.refl _ w) (.cells #[.int .i64 a, .int .i64 b, .int .i64 c, .int .i64 d, .bool v, .slice A n f] 25)) (.cells #[.int .i64 0, .slice none 0 0] 28)
  simp only [World.size_alloc] at T0
  by_cases h0 : cellC a b c d v n = 0
  · have hn : n ≤ 32 := (cellC_ok h0).2.2.2.2.1
    have H := fun W (hW : Below w.heap.size w W) => encoded_any a b c d v A n f l W (hA.below hW) h0
    rw [h0] at cc ⊢
    have F : Shut (encN 0 = 44 ∧ encL 0 (cellL a b c d v l) = cellL a b c d v l) := ⟨rfl, rfl⟩
    have len := Shut.mk (cellL_len a b c d v l (by rw [hA.len]; omega))
    clear h0 hA
    generalize cellL a b c d v l = L at *
    go_enter Try.func11, Try.ntmps11
    go_wp2_with fail
    refine (cc _).mono ?_
    rintro e w1 ⟨rfl, b1⟩
    have B1 := ac B0 b1
    replace D0 := D0.below b1 D0.lt
    replace T0 := T0.below b1 T0.lt
    clear b1 B0
    have x0 := D0.cell (i := 0) rfl
    have x1 := D0.cell (i := 1) rfl
    have x2 := D0.cell (i := 2) rfl
    have x3 := D0.cell (i := 3) rfl
    have x4 := D0.cell (i := 4) rfl
    have x5 := D0.cell (i := 5) rfl
    go_wp2_with fail
    refine (H _ B1).mono ?_
    clear x0 x1 x2 x3 x4 x5
    rintro e w2 ⟨⟨g, rfl, o2⟩, b2⟩
    have B2 := ac B1 b2
    have z1 := T0.lt
    replace T0 := T0.below b2 T0.lt
    have y0 := T0.cell (i := 0) rfl
    have y1 := T0.cell (i := 1) rfl
    have y2 := T0.frozen
    clear b2 B1 D0 H cc
    go_wp2
    refine bodyPost_ret (v := .agg #[.int .i64 0, .slice (some ⟨g, 0, none⟩) 44 44]) (by simp [results, Try.results11, go_sem, y0, y1]) rfl ?_
    refine ⟨⟨_, _, rfl, ?_, Nat.le_refl _, fun e => by cases e⟩, (B2.setCell (by simp) _).setCell (by simp) _⟩
    exact Rs.one (((o2.far (by simp; omega) _).far (by simp; omega) _).mono (by have := B2.size; omega))
  · have hx : (cellC a b c d v n != 0) = true := by simpa using h0
    have F : Shut (encN (cellC a b c d v n) = 0 ∧ encL (cellC a b c d v n) (cellL a b c d v l) = []) := ⟨by unfold encN; rw [if_neg h0], by unfold encL; rw [if_neg h0]⟩
    unfold EncAns
    rw [F.out.1, F.out.2]
    generalize cellC a b c d v n = C at *
    clear h0 F
    go_enter Try.func11, Try.ntmps11
    go_wp2_with fail
    refine (cc _).mono ?_
    rintro e w1 ⟨rfl, b1⟩
    have B1 := ac B0 b1
    replace T0 := T0.below b1 T0.lt
    have y0 := T0.cell (i := 0) rfl
    have y1 := T0.cell (i := 1) rfl
    have y2 := T0.frozen
    go_wp2
    refine bodyPost_ret (v := .agg #[.int .i64 C, .slice none 0 0]) (by simp [results, Try.results11, go_sem, y0, y1]) rfl ?_
    exact ⟨⟨none, 0, rfl, Rs.one (Ow.nil_ _ _), Nat.le_refl _, fun _ => rfl⟩, (B1.setCell (by simp) _).setCell (by simp) _⟩
end Go.Proofs.Ytpoiecdifhkegaa
