/- HearData where something is wrong, of the model and of the program. -/
import Derived.Test.YtpaemmoopjkppaaSrfX
import Derived.Test.YtpaemmoopjkppaaCflX
namespace Go.Proofs.Ytpaemmoopjkppaa
open Go.RowKit

set_option linter.unusedVariables false in
set_option maxRecDepth 100000 in
set_option maxHeartbeats 4000000 in
theorem specHdtFault_any (next : Int) (A : Option Addr) (n c : Nat) (els : List HeldD) (A2 : Option Addr) (n2 c2 : Nat) (k0 k1 k2 k3 : Int) (kv : Bool) (B : Option Addr) (m d : Nat) (w : World) (h : Lst HeldD.cels 3 w A n els) (hn : n ≤ 1048576) (hn2 : n2 ≤ 1048576) (z : Int) (hz : recF next els n2 = z) (h0 : z ≠ 0) :
    Calls Try.prog 8 #[.agg #[.int .i64 next, .slice A n c, .slice A2 n2 c2], .agg #[.int .i64 k0, .int .i64 k1, .int .i64 k2, .int .i64 k3, .bool kv, .slice B m d]] w fun x w' => x = .returned (.agg #[.int .i64 z, .int .i64 0, .slice none 0 0, .slice none 0 0, .slice none 0 0]) ∧ Below w.heap.size w w' := by
  have hrf := fun W L => specReceiverFault_any next A n c els A2 n2 c2 W L hn hn2
  have hcf := fun W => specCellFault_any k0 k1 k2 k3 kv B m d W
  rw [hz] at hrf
  have t0 : (z != 0) = true := by simpa using h0
  clear hz
  have S0 := ((Stc.new w 32 [.int .i64 next, .slice A n c, .slice A2 n2 c2] _ rfl).alloc (.cells #[.int .i64 k0, .int .i64 k1, .int .i64 k2, .int .i64 k3, .bool kv, .slice B m d] 38)).alloc (.cells #[.int .i64 0, .int .i64 0, .slice none 0 0, .slice none 0 0, .slice none 0 0] 35)
  have S1 := (Stc.new (w.alloc (.cells #[.int .i64 next, .slice A n c, .slice A2 n2 c2] 32)) 38 [.int .i64 k0, .int .i64 k1, .int .i64 k2, .int .i64 k3, .bool kv, .slice B m d] _ rfl).alloc (.cells #[.int .i64 0, .int .i64 0, .slice none 0 0, .slice none 0 0, .slice none 0 0] 35)
  have Z0 := Stc.new ((w.alloc (.cells #[.int .i64 next, .slice A n c, .slice A2 n2 c2] 32)).alloc (.cells #[.int .i64 k0, .int .i64 k1, .int .i64 k2, .int .i64 k3, .bool kv, .slice B m d] 38)) 35 [.int .i64 0, .int .i64 0, .slice none 0 0, .slice none 0 0, .slice none 0 0] _ rfl
  have B0 := ab (ab (ab (Below.refl w.heap.size w) (.cells #[.int .i64 next, .slice A n c, .slice A2 n2 c2] 32)) (.cells #[.int .i64 k0, .int .i64 k1, .int .i64 k2, .int .i64 k3, .bool kv, .slice B m d] 38)) (.cells #[.int .i64 0, .int .i64 0, .slice none 0 0, .slice none 0 0, .slice none 0 0] 35)
  simp only [World.size_alloc] at Z0 S1
  have HL := h.below B0
  have s0 := S0.cell (i := 0) rfl
  have s1 := S0.cell (i := 1) rfl
  have s2 := S0.cell (i := 2) rfl
  go_enter Try.func8, Try.ntmps8
  go_wp2_with fail
  refine (hrf _ HL).mono ?_
  rintro x w1 ⟨rfl, b1⟩
  have B1 := ac B0 b1
  have Z1 := Z0.below b1 (by simp)
  have S2 := S1.below b1 (by simp)
  have q0 := Z1.cell (i := 0) rfl
  have q1 := Z1.cell (i := 1) rfl
  have q2 := Z1.cell (i := 2) rfl
  have q3 := Z1.cell (i := 3) rfl
  have q4 := Z1.cell (i := 4) rfl
  have qf := Z1.frozen
  go_wp2
  have J := (((((Z1.set_ (i := 0) (.int .i64 z)).set_ (i := 1) (.int .i64 0)).set_ (i := 2) (.slice none 0 0)).set_ (i := 3) (.slice none 0 0)).set_ (i := 4) (.slice none 0 0))
  have r0 := J.cell (i := 0) rfl
  have r1 := J.cell (i := 1) rfl
  have r2 := J.cell (i := 2) rfl
  have r3 := J.cell (i := 3) rfl
  have r4 := J.cell (i := 4) rfl
  refine bodyPost_ret (v := .agg #[.int .i64 z, .int .i64 0, .slice none 0 0, .slice none 0 0, .slice none 0 0]) (by simp [results, Try.results8, go_sem, r0, r1, r2, r3, r4]) rfl ?_
  exact ⟨rfl, ((((((B1).setCell (p := ⟨w.heap.size + 1 + 1, 0, none⟩) (by show w.heap.size ≤ w.heap.size + 1 + 1; omega) (.int .i64 z)).setCell (p := ⟨w.heap.size + 1 + 1, 1, none⟩) (by show w.heap.size ≤ w.heap.size + 1 + 1; omega) (.int .i64 0)).setCell (p := ⟨w.heap.size + 1 + 1, 2, none⟩) (by show w.heap.size ≤ w.heap.size + 1 + 1; omega) (.slice none 0 0)).setCell (p := ⟨w.heap.size + 1 + 1, 3, none⟩) (by show w.heap.size ≤ w.heap.size + 1 + 1; omega) (.slice none 0 0)).setCell (p := ⟨w.heap.size + 1 + 1, 4, none⟩) (by show w.heap.size ≤ w.heap.size + 1 + 1; omega) (.slice none 0 0))⟩

set_option linter.unusedVariables false in
set_option maxRecDepth 100000 in
set_option maxHeartbeats 4000000 in
theorem specHdtCell_any (next : Int) (A : Option Addr) (n c : Nat) (els : List HeldD) (A2 : Option Addr) (n2 c2 : Nat) (k0 k1 k2 k3 : Int) (kv : Bool) (B : Option Addr) (m d : Nat) (w : World) (h : Lst HeldD.cels 3 w A n els) (hn : n ≤ 1048576) (hn2 : n2 ≤ 1048576) (z : Int) (hz0 : recF next els n2 = 0) (hz : cellC k0 k1 k2 k3 kv m = z) (h0 : z ≠ 0) :
    Calls Try.prog 8 #[.agg #[.int .i64 next, .slice A n c, .slice A2 n2 c2], .agg #[.int .i64 k0, .int .i64 k1, .int .i64 k2, .int .i64 k3, .bool kv, .slice B m d]] w fun x w' => x = .returned (.agg #[.int .i64 z, .int .i64 0, .slice none 0 0, .slice none 0 0, .slice none 0 0]) ∧ Below w.heap.size w w' := by
  have hrf := fun W L => specReceiverFault_any next A n c els A2 n2 c2 W L hn hn2
  have hcf := fun W => specCellFault_any k0 k1 k2 k3 kv B m d W
  rw [hz0] at hrf
  rw [hz] at hcf
  have t0 : (z != 0) = true := by simpa using h0
  clear hz hz0
  have S0 := ((Stc.new w 32 [.int .i64 next, .slice A n c, .slice A2 n2 c2] _ rfl).alloc (.cells #[.int .i64 k0, .int .i64 k1, .int .i64 k2, .int .i64 k3, .bool kv, .slice B m d] 38)).alloc (.cells #[.int .i64 0, .int .i64 0, .slice none 0 0, .slice none 0 0, .slice none 0 0] 35)
  have S1 := (Stc.new (w.alloc (.cells #[.int .i64 next, .slice A n c, .slice A2 n2 c2] 32)) 38 [.int .i64 k0, .int .i64 k1, .int .i64 k2, .int .i64 k3, .bool kv, .slice B m d] _ rfl).alloc (.cells #[.int .i64 0, .int .i64 0, .slice none 0 0, .slice none 0 0, .slice none 0 0] 35)
  have Z0 := Stc.new ((w.alloc (.cells #[.int .i64 next, .slice A n c, .slice A2 n2 c2] 32)).alloc (.cells #[.int .i64 k0, .int .i64 k1, .int .i64 k2, .int .i64 k3, .bool kv, .slice B m d] 38)) 35 [.int .i64 0, .int .i64 0, .slice none 0 0, .slice none 0 0, .slice none 0 0] _ rfl
  have B0 := ab (ab (ab (Below.refl w.heap.size w) (.cells #[.int .i64 next, .slice A n c, .slice A2 n2 c2] 32)) (.cells #[.int .i64 k0, .int .i64 k1, .int .i64 k2, .int .i64 k3, .bool kv, .slice B m d] 38)) (.cells #[.int .i64 0, .int .i64 0, .slice none 0 0, .slice none 0 0, .slice none 0 0] 35)
  simp only [World.size_alloc] at Z0 S1
  have HL := h.below B0
  have s0 := S0.cell (i := 0) rfl
  have s1 := S0.cell (i := 1) rfl
  have s2 := S0.cell (i := 2) rfl
  go_enter Try.func8, Try.ntmps8
  go_wp2_with fail
  refine (hrf _ HL).mono ?_
  rintro x w1 ⟨rfl, b1⟩
  have B1 := ac B0 b1
  have Z1 := Z0.below b1 (by simp)
  have S2 := S1.below b1 (by simp)
  have e0 := S2.cell (i := 0) rfl
  have e1 := S2.cell (i := 1) rfl
  have e2 := S2.cell (i := 2) rfl
  have e3 := S2.cell (i := 3) rfl
  have e4 := S2.cell (i := 4) rfl
  have e5 := S2.cell (i := 5) rfl
  clear s0 s1 s2
  go_wp2_with fail
  refine (hcf _).mono ?_
  rintro x w2 ⟨rfl, b2⟩
  have B2 := ac B1 b2
  have Z2 := Z1.below b2 Z1.lt
  have S3 := S2.below b2 S2.lt
  clear e0 e1 e2 e3 e4 e5
  have q0 := Z2.cell (i := 0) rfl
  have q1 := Z2.cell (i := 1) rfl
  have q2 := Z2.cell (i := 2) rfl
  have q3 := Z2.cell (i := 3) rfl
  have q4 := Z2.cell (i := 4) rfl
  have qf := Z2.frozen
  go_wp2
  have J := (((((Z2.set_ (i := 0) (.int .i64 z)).set_ (i := 1) (.int .i64 0)).set_ (i := 2) (.slice none 0 0)).set_ (i := 3) (.slice none 0 0)).set_ (i := 4) (.slice none 0 0))
  have r0 := J.cell (i := 0) rfl
  have r1 := J.cell (i := 1) rfl
  have r2 := J.cell (i := 2) rfl
  have r3 := J.cell (i := 3) rfl
  have r4 := J.cell (i := 4) rfl
  refine bodyPost_ret (v := .agg #[.int .i64 z, .int .i64 0, .slice none 0 0, .slice none 0 0, .slice none 0 0]) (by simp [results, Try.results8, go_sem, r0, r1, r2, r3, r4]) rfl ?_
  exact ⟨rfl, ((((((B2).setCell (p := ⟨w.heap.size + 1 + 1, 0, none⟩) (by show w.heap.size ≤ w.heap.size + 1 + 1; omega) (.int .i64 z)).setCell (p := ⟨w.heap.size + 1 + 1, 1, none⟩) (by show w.heap.size ≤ w.heap.size + 1 + 1; omega) (.int .i64 0)).setCell (p := ⟨w.heap.size + 1 + 1, 2, none⟩) (by show w.heap.size ≤ w.heap.size + 1 + 1; omega) (.slice none 0 0)).setCell (p := ⟨w.heap.size + 1 + 1, 3, none⟩) (by show w.heap.size ≤ w.heap.size + 1 + 1; omega) (.slice none 0 0)).setCell (p := ⟨w.heap.size + 1 + 1, 4, none⟩) (by show w.heap.size ≤ w.heap.size + 1 + 1; omega) (.slice none 0 0))⟩

set_option linter.unusedVariables false in
set_option maxRecDepth 100000 in
set_option maxHeartbeats 4000000 in
theorem specHdtForm_any (next : Int) (A : Option Addr) (n c : Nat) (els : List HeldD) (A2 : Option Addr) (n2 c2 : Nat) (k0 k1 k2 k3 : Int) (kv : Bool) (B : Option Addr) (m d : Nat) (w : World) (h : Lst HeldD.cels 3 w A n els) (hn : n ≤ 1048576) (hn2 : n2 ≤ 1048576) (hz0 : recF next els n2 = 0) (hk : k0 = 0) (hz : cellC k0 k1 k2 k3 kv m = 0) :
    Calls Try.prog 8 #[.agg #[.int .i64 next, .slice A n c, .slice A2 n2 c2], .agg #[.int .i64 k0, .int .i64 k1, .int .i64 k2, .int .i64 k3, .bool kv, .slice B m d]] w fun x w' => x = .returned (.agg #[.int .i64 1, .int .i64 0, .slice none 0 0, .slice none 0 0, .slice none 0 0]) ∧ Below w.heap.size w w' := by
  have hrf := fun W L => specReceiverFault_any next A n c els A2 n2 c2 W L hn hn2
  have hcf := fun W => specCellFault_any k0 k1 k2 k3 kv B m d W
  rw [hz0] at hrf
  rw [hz] at hcf
  subst hk
  clear hz hz0
  have S0 := ((Stc.new w 32 [.int .i64 next, .slice A n c, .slice A2 n2 c2] _ rfl).alloc (.cells #[.int .i64 0, .int .i64 k1, .int .i64 k2, .int .i64 k3, .bool kv, .slice B m d] 38)).alloc (.cells #[.int .i64 0, .int .i64 0, .slice none 0 0, .slice none 0 0, .slice none 0 0] 35)
  have S1 := (Stc.new (w.alloc (.cells #[.int .i64 next, .slice A n c, .slice A2 n2 c2] 32)) 38 [.int .i64 0, .int .i64 k1, .int .i64 k2, .int .i64 k3, .bool kv, .slice B m d] _ rfl).alloc (.cells #[.int .i64 0, .int .i64 0, .slice none 0 0, .slice none 0 0, .slice none 0 0] 35)
  have Z0 := Stc.new ((w.alloc (.cells #[.int .i64 next, .slice A n c, .slice A2 n2 c2] 32)).alloc (.cells #[.int .i64 0, .int .i64 k1, .int .i64 k2, .int .i64 k3, .bool kv, .slice B m d] 38)) 35 [.int .i64 0, .int .i64 0, .slice none 0 0, .slice none 0 0, .slice none 0 0] _ rfl
  have B0 := ab (ab (ab (Below.refl w.heap.size w) (.cells #[.int .i64 next, .slice A n c, .slice A2 n2 c2] 32)) (.cells #[.int .i64 0, .int .i64 k1, .int .i64 k2, .int .i64 k3, .bool kv, .slice B m d] 38)) (.cells #[.int .i64 0, .int .i64 0, .slice none 0 0, .slice none 0 0, .slice none 0 0] 35)
  simp only [World.size_alloc] at Z0 S1
  have HL := h.below B0
  have s0 := S0.cell (i := 0) rfl
  have s1 := S0.cell (i := 1) rfl
  have s2 := S0.cell (i := 2) rfl
  go_enter Try.func8, Try.ntmps8
  go_wp2_with fail
  refine (hrf _ HL).mono ?_
  rintro x w1 ⟨rfl, b1⟩
  have B1 := ac B0 b1
  have Z1 := Z0.below b1 (by simp)
  have S2 := S1.below b1 (by simp)
  have e0 := S2.cell (i := 0) rfl
  have e1 := S2.cell (i := 1) rfl
  have e2 := S2.cell (i := 2) rfl
  have e3 := S2.cell (i := 3) rfl
  have e4 := S2.cell (i := 4) rfl
  have e5 := S2.cell (i := 5) rfl
  clear s0 s1 s2
  go_wp2_with fail
  refine (hcf _).mono ?_
  rintro x w2 ⟨rfl, b2⟩
  have B2 := ac B1 b2
  have Z2 := Z1.below b2 Z1.lt
  have S3 := S2.below b2 S2.lt
  clear e0 e1 e2 e3 e4 e5
  have e0 := S3.cell (i := 0) rfl
  have q0 := Z2.cell (i := 0) rfl
  have q1 := Z2.cell (i := 1) rfl
  have q2 := Z2.cell (i := 2) rfl
  have q3 := Z2.cell (i := 3) rfl
  have q4 := Z2.cell (i := 4) rfl
  have qf := Z2.frozen
  go_wp2
  have J := (((((Z2.set_ (i := 0) (.int .i64 1)).set_ (i := 1) (.int .i64 0)).set_ (i := 2) (.slice none 0 0)).set_ (i := 3) (.slice none 0 0)).set_ (i := 4) (.slice none 0 0))
  have r0 := J.cell (i := 0) rfl
  have r1 := J.cell (i := 1) rfl
  have r2 := J.cell (i := 2) rfl
  have r3 := J.cell (i := 3) rfl
  have r4 := J.cell (i := 4) rfl
  refine bodyPost_ret (v := .agg #[.int .i64 1, .int .i64 0, .slice none 0 0, .slice none 0 0, .slice none 0 0]) (by simp [results, Try.results8, go_sem, r0, r1, r2, r3, r4]) rfl ?_
  exact ⟨rfl, ((((((B2).setCell (p := ⟨w.heap.size + 1 + 1, 0, none⟩) (by show w.heap.size ≤ w.heap.size + 1 + 1; omega) (.int .i64 1)).setCell (p := ⟨w.heap.size + 1 + 1, 1, none⟩) (by show w.heap.size ≤ w.heap.size + 1 + 1; omega) (.int .i64 0)).setCell (p := ⟨w.heap.size + 1 + 1, 2, none⟩) (by show w.heap.size ≤ w.heap.size + 1 + 1; omega) (.slice none 0 0)).setCell (p := ⟨w.heap.size + 1 + 1, 3, none⟩) (by show w.heap.size ≤ w.heap.size + 1 + 1; omega) (.slice none 0 0)).setCell (p := ⟨w.heap.size + 1 + 1, 4, none⟩) (by show w.heap.size ≤ w.heap.size + 1 + 1; omega) (.slice none 0 0))⟩

set_option linter.unusedVariables false in
set_option maxRecDepth 100000 in
set_option maxHeartbeats 4000000 in
theorem implHdtFault_any (next : Int) (A : Option Addr) (n c : Nat) (els : List HeldD) (A2 : Option Addr) (n2 c2 : Nat) (k0 k1 k2 k3 : Int) (kv : Bool) (B : Option Addr) (m d : Nat) (w : World) (h : Lst HeldD.cels 3 w A n els) (hn : n ≤ 1048576) (hn2 : n2 ≤ 1048576) (z : Int) (hz : recF next els n2 = z) (h0 : z ≠ 0) :
    Calls Try.prog 11 #[.agg #[.int .i64 next, .slice A n c, .slice A2 n2 c2], .agg #[.int .i64 k0, .int .i64 k1, .int .i64 k2, .int .i64 k3, .bool kv, .slice B m d]] w fun x w' => x = .returned (.agg #[.int .i64 z, .int .i64 0, .slice none 0 0, .slice none 0 0, .slice none 0 0]) ∧ Below w.heap.size w w' := by
  have hrf := fun W L => implReceiverFault_any next A n c els A2 n2 c2 W L hn hn2
  have hcf := fun W => implCellFault_any k0 k1 k2 k3 kv B m d W
  rw [hz] at hrf
  have t0 : (z != 0) = true := by simpa using h0
  clear hz
  have S0 := ((Stc.new w 32 [.int .i64 next, .slice A n c, .slice A2 n2 c2] _ rfl).alloc (.cells #[.int .i64 k0, .int .i64 k1, .int .i64 k2, .int .i64 k3, .bool kv, .slice B m d] 38)).alloc (.cells #[.int .i64 0, .int .i64 0, .slice none 0 0, .slice none 0 0, .slice none 0 0] 35)
  have S1 := (Stc.new (w.alloc (.cells #[.int .i64 next, .slice A n c, .slice A2 n2 c2] 32)) 38 [.int .i64 k0, .int .i64 k1, .int .i64 k2, .int .i64 k3, .bool kv, .slice B m d] _ rfl).alloc (.cells #[.int .i64 0, .int .i64 0, .slice none 0 0, .slice none 0 0, .slice none 0 0] 35)
  have Z0 := Stc.new ((w.alloc (.cells #[.int .i64 next, .slice A n c, .slice A2 n2 c2] 32)).alloc (.cells #[.int .i64 k0, .int .i64 k1, .int .i64 k2, .int .i64 k3, .bool kv, .slice B m d] 38)) 35 [.int .i64 0, .int .i64 0, .slice none 0 0, .slice none 0 0, .slice none 0 0] _ rfl
  have B0 := ab (ab (ab (Below.refl w.heap.size w) (.cells #[.int .i64 next, .slice A n c, .slice A2 n2 c2] 32)) (.cells #[.int .i64 k0, .int .i64 k1, .int .i64 k2, .int .i64 k3, .bool kv, .slice B m d] 38)) (.cells #[.int .i64 0, .int .i64 0, .slice none 0 0, .slice none 0 0, .slice none 0 0] 35)
  simp only [World.size_alloc] at Z0 S1
  have HL := h.below B0
  have s0 := S0.cell (i := 0) rfl
  have s1 := S0.cell (i := 1) rfl
  have s2 := S0.cell (i := 2) rfl
  go_enter Try.func11, Try.ntmps11
  go_wp2_with fail
  refine (hrf _ HL).mono ?_
  rintro x w1 ⟨rfl, b1⟩
  have B1 := ac B0 b1
  have Z1 := Z0.below b1 (by simp)
  have S2 := S1.below b1 (by simp)
  have q0 := Z1.cell (i := 0) rfl
  have q1 := Z1.cell (i := 1) rfl
  have q2 := Z1.cell (i := 2) rfl
  have q3 := Z1.cell (i := 3) rfl
  have q4 := Z1.cell (i := 4) rfl
  have qf := Z1.frozen
  go_wp2
  have J := (((((Z1.set_ (i := 0) (.int .i64 z)).set_ (i := 1) (.int .i64 0)).set_ (i := 2) (.slice none 0 0)).set_ (i := 3) (.slice none 0 0)).set_ (i := 4) (.slice none 0 0))
  have r0 := J.cell (i := 0) rfl
  have r1 := J.cell (i := 1) rfl
  have r2 := J.cell (i := 2) rfl
  have r3 := J.cell (i := 3) rfl
  have r4 := J.cell (i := 4) rfl
  refine bodyPost_ret (v := .agg #[.int .i64 z, .int .i64 0, .slice none 0 0, .slice none 0 0, .slice none 0 0]) (by simp [results, Try.results11, go_sem, r0, r1, r2, r3, r4]) rfl ?_
  exact ⟨rfl, ((((((B1).setCell (p := ⟨w.heap.size + 1 + 1, 0, none⟩) (by show w.heap.size ≤ w.heap.size + 1 + 1; omega) (.int .i64 z)).setCell (p := ⟨w.heap.size + 1 + 1, 1, none⟩) (by show w.heap.size ≤ w.heap.size + 1 + 1; omega) (.int .i64 0)).setCell (p := ⟨w.heap.size + 1 + 1, 2, none⟩) (by show w.heap.size ≤ w.heap.size + 1 + 1; omega) (.slice none 0 0)).setCell (p := ⟨w.heap.size + 1 + 1, 3, none⟩) (by show w.heap.size ≤ w.heap.size + 1 + 1; omega) (.slice none 0 0)).setCell (p := ⟨w.heap.size + 1 + 1, 4, none⟩) (by show w.heap.size ≤ w.heap.size + 1 + 1; omega) (.slice none 0 0))⟩

set_option linter.unusedVariables false in
set_option maxRecDepth 100000 in
set_option maxHeartbeats 4000000 in
theorem implHdtCell_any (next : Int) (A : Option Addr) (n c : Nat) (els : List HeldD) (A2 : Option Addr) (n2 c2 : Nat) (k0 k1 k2 k3 : Int) (kv : Bool) (B : Option Addr) (m d : Nat) (w : World) (h : Lst HeldD.cels 3 w A n els) (hn : n ≤ 1048576) (hn2 : n2 ≤ 1048576) (z : Int) (hz0 : recF next els n2 = 0) (hz : cellC k0 k1 k2 k3 kv m = z) (h0 : z ≠ 0) :
    Calls Try.prog 11 #[.agg #[.int .i64 next, .slice A n c, .slice A2 n2 c2], .agg #[.int .i64 k0, .int .i64 k1, .int .i64 k2, .int .i64 k3, .bool kv, .slice B m d]] w fun x w' => x = .returned (.agg #[.int .i64 z, .int .i64 0, .slice none 0 0, .slice none 0 0, .slice none 0 0]) ∧ Below w.heap.size w w' := by
  have hrf := fun W L => implReceiverFault_any next A n c els A2 n2 c2 W L hn hn2
  have hcf := fun W => implCellFault_any k0 k1 k2 k3 kv B m d W
  rw [hz0] at hrf
  rw [hz] at hcf
  have t0 : (z != 0) = true := by simpa using h0
  clear hz hz0
  have S0 := ((Stc.new w 32 [.int .i64 next, .slice A n c, .slice A2 n2 c2] _ rfl).alloc (.cells #[.int .i64 k0, .int .i64 k1, .int .i64 k2, .int .i64 k3, .bool kv, .slice B m d] 38)).alloc (.cells #[.int .i64 0, .int .i64 0, .slice none 0 0, .slice none 0 0, .slice none 0 0] 35)
  have S1 := (Stc.new (w.alloc (.cells #[.int .i64 next, .slice A n c, .slice A2 n2 c2] 32)) 38 [.int .i64 k0, .int .i64 k1, .int .i64 k2, .int .i64 k3, .bool kv, .slice B m d] _ rfl).alloc (.cells #[.int .i64 0, .int .i64 0, .slice none 0 0, .slice none 0 0, .slice none 0 0] 35)
  have Z0 := Stc.new ((w.alloc (.cells #[.int .i64 next, .slice A n c, .slice A2 n2 c2] 32)).alloc (.cells #[.int .i64 k0, .int .i64 k1, .int .i64 k2, .int .i64 k3, .bool kv, .slice B m d] 38)) 35 [.int .i64 0, .int .i64 0, .slice none 0 0, .slice none 0 0, .slice none 0 0] _ rfl
  have B0 := ab (ab (ab (Below.refl w.heap.size w) (.cells #[.int .i64 next, .slice A n c, .slice A2 n2 c2] 32)) (.cells #[.int .i64 k0, .int .i64 k1, .int .i64 k2, .int .i64 k3, .bool kv, .slice B m d] 38)) (.cells #[.int .i64 0, .int .i64 0, .slice none 0 0, .slice none 0 0, .slice none 0 0] 35)
  simp only [World.size_alloc] at Z0 S1
  have HL := h.below B0
  have s0 := S0.cell (i := 0) rfl
  have s1 := S0.cell (i := 1) rfl
  have s2 := S0.cell (i := 2) rfl
  go_enter Try.func11, Try.ntmps11
  go_wp2_with fail
  refine (hrf _ HL).mono ?_
  rintro x w1 ⟨rfl, b1⟩
  have B1 := ac B0 b1
  have Z1 := Z0.below b1 (by simp)
  have S2 := S1.below b1 (by simp)
  have e0 := S2.cell (i := 0) rfl
  have e1 := S2.cell (i := 1) rfl
  have e2 := S2.cell (i := 2) rfl
  have e3 := S2.cell (i := 3) rfl
  have e4 := S2.cell (i := 4) rfl
  have e5 := S2.cell (i := 5) rfl
  clear s0 s1 s2
  go_wp2_with fail
  refine (hcf _).mono ?_
  rintro x w2 ⟨rfl, b2⟩
  have B2 := ac B1 b2
  have Z2 := Z1.below b2 Z1.lt
  have S3 := S2.below b2 S2.lt
  clear e0 e1 e2 e3 e4 e5
  have q0 := Z2.cell (i := 0) rfl
  have q1 := Z2.cell (i := 1) rfl
  have q2 := Z2.cell (i := 2) rfl
  have q3 := Z2.cell (i := 3) rfl
  have q4 := Z2.cell (i := 4) rfl
  have qf := Z2.frozen
  go_wp2
  have J := (((((Z2.set_ (i := 0) (.int .i64 z)).set_ (i := 1) (.int .i64 0)).set_ (i := 2) (.slice none 0 0)).set_ (i := 3) (.slice none 0 0)).set_ (i := 4) (.slice none 0 0))
  have r0 := J.cell (i := 0) rfl
  have r1 := J.cell (i := 1) rfl
  have r2 := J.cell (i := 2) rfl
  have r3 := J.cell (i := 3) rfl
  have r4 := J.cell (i := 4) rfl
  refine bodyPost_ret (v := .agg #[.int .i64 z, .int .i64 0, .slice none 0 0, .slice none 0 0, .slice none 0 0]) (by simp [results, Try.results11, go_sem, r0, r1, r2, r3, r4]) rfl ?_
  exact ⟨rfl, ((((((B2).setCell (p := ⟨w.heap.size + 1 + 1, 0, none⟩) (by show w.heap.size ≤ w.heap.size + 1 + 1; omega) (.int .i64 z)).setCell (p := ⟨w.heap.size + 1 + 1, 1, none⟩) (by show w.heap.size ≤ w.heap.size + 1 + 1; omega) (.int .i64 0)).setCell (p := ⟨w.heap.size + 1 + 1, 2, none⟩) (by show w.heap.size ≤ w.heap.size + 1 + 1; omega) (.slice none 0 0)).setCell (p := ⟨w.heap.size + 1 + 1, 3, none⟩) (by show w.heap.size ≤ w.heap.size + 1 + 1; omega) (.slice none 0 0)).setCell (p := ⟨w.heap.size + 1 + 1, 4, none⟩) (by show w.heap.size ≤ w.heap.size + 1 + 1; omega) (.slice none 0 0))⟩

set_option linter.unusedVariables false in
set_option maxRecDepth 100000 in
set_option maxHeartbeats 4000000 in
theorem implHdtForm_any (next : Int) (A : Option Addr) (n c : Nat) (els : List HeldD) (A2 : Option Addr) (n2 c2 : Nat) (k0 k1 k2 k3 : Int) (kv : Bool) (B : Option Addr) (m d : Nat) (w : World) (h : Lst HeldD.cels 3 w A n els) (hn : n ≤ 1048576) (hn2 : n2 ≤ 1048576) (hz0 : recF next els n2 = 0) (hk : k0 = 0) (hz : cellC k0 k1 k2 k3 kv m = 0) :
    Calls Try.prog 11 #[.agg #[.int .i64 next, .slice A n c, .slice A2 n2 c2], .agg #[.int .i64 k0, .int .i64 k1, .int .i64 k2, .int .i64 k3, .bool kv, .slice B m d]] w fun x w' => x = .returned (.agg #[.int .i64 1, .int .i64 0, .slice none 0 0, .slice none 0 0, .slice none 0 0]) ∧ Below w.heap.size w w' := by
  have hrf := fun W L => implReceiverFault_any next A n c els A2 n2 c2 W L hn hn2
  have hcf := fun W => implCellFault_any k0 k1 k2 k3 kv B m d W
  rw [hz0] at hrf
  rw [hz] at hcf
  subst hk
  clear hz hz0
  have S0 := ((Stc.new w 32 [.int .i64 next, .slice A n c, .slice A2 n2 c2] _ rfl).alloc (.cells #[.int .i64 0, .int .i64 k1, .int .i64 k2, .int .i64 k3, .bool kv, .slice B m d] 38)).alloc (.cells #[.int .i64 0, .int .i64 0, .slice none 0 0, .slice none 0 0, .slice none 0 0] 35)
  have S1 := (Stc.new (w.alloc (.cells #[.int .i64 next, .slice A n c, .slice A2 n2 c2] 32)) 38 [.int .i64 0, .int .i64 k1, .int .i64 k2, .int .i64 k3, .bool kv, .slice B m d] _ rfl).alloc (.cells #[.int .i64 0, .int .i64 0, .slice none 0 0, .slice none 0 0, .slice none 0 0] 35)
  have Z0 := Stc.new ((w.alloc (.cells #[.int .i64 next, .slice A n c, .slice A2 n2 c2] 32)).alloc (.cells #[.int .i64 0, .int .i64 k1, .int .i64 k2, .int .i64 k3, .bool kv, .slice B m d] 38)) 35 [.int .i64 0, .int .i64 0, .slice none 0 0, .slice none 0 0, .slice none 0 0] _ rfl
  have B0 := ab (ab (ab (Below.refl w.heap.size w) (.cells #[.int .i64 next, .slice A n c, .slice A2 n2 c2] 32)) (.cells #[.int .i64 0, .int .i64 k1, .int .i64 k2, .int .i64 k3, .bool kv, .slice B m d] 38)) (.cells #[.int .i64 0, .int .i64 0, .slice none 0 0, .slice none 0 0, .slice none 0 0] 35)
  simp only [World.size_alloc] at Z0 S1
  have HL := h.below B0
  have s0 := S0.cell (i := 0) rfl
  have s1 := S0.cell (i := 1) rfl
  have s2 := S0.cell (i := 2) rfl
  go_enter Try.func11, Try.ntmps11
  go_wp2_with fail
  refine (hrf _ HL).mono ?_
  rintro x w1 ⟨rfl, b1⟩
  have B1 := ac B0 b1
  have Z1 := Z0.below b1 (by simp)
  have S2 := S1.below b1 (by simp)
  have e0 := S2.cell (i := 0) rfl
  have e1 := S2.cell (i := 1) rfl
  have e2 := S2.cell (i := 2) rfl
  have e3 := S2.cell (i := 3) rfl
  have e4 := S2.cell (i := 4) rfl
  have e5 := S2.cell (i := 5) rfl
  clear s0 s1 s2
  go_wp2_with fail
  refine (hcf _).mono ?_
  rintro x w2 ⟨rfl, b2⟩
  have B2 := ac B1 b2
  have Z2 := Z1.below b2 Z1.lt
  have S3 := S2.below b2 S2.lt
  clear e0 e1 e2 e3 e4 e5
  have e0 := S3.cell (i := 0) rfl
  have q0 := Z2.cell (i := 0) rfl
  have q1 := Z2.cell (i := 1) rfl
  have q2 := Z2.cell (i := 2) rfl
  have q3 := Z2.cell (i := 3) rfl
  have q4 := Z2.cell (i := 4) rfl
  have qf := Z2.frozen
  go_wp2
  have J := (((((Z2.set_ (i := 0) (.int .i64 1)).set_ (i := 1) (.int .i64 0)).set_ (i := 2) (.slice none 0 0)).set_ (i := 3) (.slice none 0 0)).set_ (i := 4) (.slice none 0 0))
  have r0 := J.cell (i := 0) rfl
  have r1 := J.cell (i := 1) rfl
  have r2 := J.cell (i := 2) rfl
  have r3 := J.cell (i := 3) rfl
  have r4 := J.cell (i := 4) rfl
  refine bodyPost_ret (v := .agg #[.int .i64 1, .int .i64 0, .slice none 0 0, .slice none 0 0, .slice none 0 0]) (by simp [results, Try.results11, go_sem, r0, r1, r2, r3, r4]) rfl ?_
  exact ⟨rfl, ((((((B2).setCell (p := ⟨w.heap.size + 1 + 1, 0, none⟩) (by show w.heap.size ≤ w.heap.size + 1 + 1; omega) (.int .i64 1)).setCell (p := ⟨w.heap.size + 1 + 1, 1, none⟩) (by show w.heap.size ≤ w.heap.size + 1 + 1; omega) (.int .i64 0)).setCell (p := ⟨w.heap.size + 1 + 1, 2, none⟩) (by show w.heap.size ≤ w.heap.size + 1 + 1; omega) (.slice none 0 0)).setCell (p := ⟨w.heap.size + 1 + 1, 3, none⟩) (by show w.heap.size ≤ w.heap.size + 1 + 1; omega) (.slice none 0 0)).setCell (p := ⟨w.heap.size + 1 + 1, 4, none⟩) (by show w.heap.size ≤ w.heap.size + 1 + 1; omega) (.slice none 0 0))⟩

end Go.Proofs.Ytpaemmoopjkppaa
