/- The answers of the model's functions of chapter 3. -/
import Derived.Test.YtcanmhlhnihijaaDoorCipAns
namespace Go.Proofs.YtcanmhlhnihijaaDoor
open Go.RowKit

def okN (c : Int) (n : Nat) : Nat := if c = 0 then n else 0
def okL (c : Int) (l : List Int) : List Int := if c = 0 then l else []
theorem okN_le (c : Int) (n : Nat) : okN c n ≤ n := by unfold okN; split <;> omega
theorem ask_zero {n1 : Nat} {k : Int} {n2 : Nat} {s : Int} (h : askCode n1 k n2 s = 0) : n1 = 32 ∧ n2 = 12 ∧ (0 ≤ k ∧ k ≤ 1000000) ∧ s ≤ 1000 := by
  unfold askCode at h
  split at h
  · rename_i ho
    split at h
    · rename_i hs
      simp [askOk, inB] at ho
      exact ⟨ho.1.1, ho.1.2, ho.2, hs⟩
    · omega
  · omega
theorem l1Max_any (a b : Int) (w : World) : Calls Tryd.prog 50 #[.int .i64 a, .int .i64 b] w fun e w' => e = .returned (.int .i64 (if a > b then a else b)) ∧ w' = w := by
  by_cases h : a > b
  · simp only [if_pos h]
    go_enter Tryd.func50, Tryd.ntmps50
    go_wp2
    go_ret
    exact ⟨rfl, rfl⟩
  · simp only [if_neg h]
    go_enter Tryd.func50, Tryd.ntmps50
    go_wp2
    go_ret
    exact ⟨rfl, rfl⟩
/-- the greater one of two lengths -/
def maxN (p q : Nat) : Nat := if p > q then p else q
theorem max_len (p q : Nat) (w : World) : Calls Tryd.prog 50 #[.int .i64 (p : Int), .int .i64 (q : Int)] w fun e w' => e = .returned (.int .i64 (maxN p q : Int)) ∧ w' = w := by
  have := l1Max_any (p : Int) (q : Int) w
  rwa [show (if (p : Int) > (q : Int) then (p : Int) else (q : Int)) = (maxN p q : Int) from by unfold maxN; split <;> split <;> omega] at this

set_option maxHeartbeats 1000000 in
theorem specStreamBlock_any (A : Option Addr) (n1 c1 : Nat) (key : List Int) (k : Int) (A2 : Option Addr) (n2 c2 : Nat) (nonce : List Int) (w : World) (h1 : Bs w A n1 key) (hc1 : n1 ≤ c1) (h2 : Bs w A2 n2 nonce) (hc2 : n2 ≤ c2) :
    Calls Tryd.prog 16 #[.slice A n1 c1, .int .i64 k, .slice A2 n2 c2] w (BytesAns (askCode n1 k n2 0) (okN (askCode n1 k n2 0) 64) (okL (askCode n1 k n2 0) (keyBlock key k nonce)) w) := by
  have hask := fun w => l3Asked_any A n1 c1 k A2 n2 c2 0 w
  by_cases hok : askCode n1 k n2 0 = 0
  · obtain ⟨rfl, rfl, hk0, hs0⟩ := ask_zero hok
    have Hf : Shut (okN (askCode 32 k 12 0) 64 = 64 ∧ okL (askCode 32 k 12 0) (keyBlock key k nonce) = keyBlock key k nonce ∧ askCode 32 k 12 0 = 0) := ⟨by simp [okN, okL, hok]⟩
    rw [Hf.out.1, Hf.out.2.1, Hf.out.2.2]
    simp only [hok] at hask
    clear hok
    have hcall := fun (w' : World) (h : Below w.heap.size w w') => l3Block_any A c1 key k A2 c2 nonce w' (h1.below h) hc1 (h2.below h) hc2
    have Lk := Shut.mk (keyBlock_len key k nonce)
    generalize keyBlock key k nonce = K at *
    go_enter Tryd.func16, Tryd.ntmps16
    go_wp2_with fail
    refine (hask _).mono ?_
    rintro e w' ⟨rfl, rfl⟩
    clear hask
    go_wp2_with fail
    refine (hcall _ (ab (Below.refl _ _) _)).mono ?_
    clear hcall
    rintro e w1 ⟨⟨A1, q1, rfl, hrow⟩, hb⟩
    have how := hrow.ow' Lk.out
    have t1 := (Two.new w 27 (.int .i64 0) (.slice none 0 0)).below hb (by simp)
    have hs := hb.size
    simp only [World.size_alloc] at hs how
    obtain ⟨x0, x1, x2, x3⟩ := t1.cells
    go_wp2
    refine bodyPost_ret (v := .agg #[.int .i64 0, .slice A1 (64) q1]) (by simp [results, Tryd.results16, go_sem, x0, x1]) rfl ?_
    refine ⟨⟨A1, q1, rfl, ((how.far (p := ⟨w.heap.size, 0, none⟩) (by simp) _).far (p := ⟨w.heap.size, 1, none⟩) (by simp) _).mono (by omega)⟩, ?_⟩
    exact ((ac (ab (Below.refl _ w) _) hb).setCell (by simp) _).setCell (by simp) _
  · have Hf : Shut (okN (askCode n1 k n2 0) 64 = 0 ∧ okL (askCode n1 k n2 0) (keyBlock key k nonce) = []) := ⟨by simp [okN, okL, hok]⟩
    rw [Hf.out.1, Hf.out.2]
    have hne : (askCode n1 k n2 0 != 0) = true := by rw [bne_iff_ne]; exact hok
    clear hok Hf
    generalize askCode n1 k n2 0 = C at *
    go_enter Tryd.func16, Tryd.ntmps16
    go_wp2_with fail
    refine (hask _).mono ?_
    rintro e w' ⟨rfl, rfl⟩
    clear hask
    go_wp2
    go_returns
    exact ⟨⟨none, 0, rfl, Ow.nil_ _ _⟩, by go_grown⟩

set_option maxHeartbeats 1000000 in
theorem specStreamXor_any (A : Option Addr) (n1 c1 : Nat) (key : List Int) (k : Int) (A2 : Option Addr) (n2 c2 : Nat) (nonce : List Int) (A3 : Option Addr) (m c3 : Nat) (data : List Int) (w : World) (h1 : Bs w A n1 key) (hc1 : n1 ≤ c1) (h2 : Bs w A2 n2 nonce) (hc2 : n2 ≤ c2) (h3 : Bs w A3 m data) :
    Calls Tryd.prog 15 #[.slice A n1 c1, .int .i64 k, .slice A2 n2 c2, .slice A3 m c3] w (BytesAns (askCode n1 k n2 (m : Int)) (okN (askCode n1 k n2 (m : Int)) m) (okL (askCode n1 k n2 (m : Int)) (streamL key k nonce data)) w) := by
  have hask := fun w => l3Asked_any A n1 c1 k A2 n2 c2 (m : Int) w
  by_cases hok : askCode n1 k n2 (m : Int) = 0
  · obtain ⟨rfl, rfl, hk0, hs0⟩ := ask_zero hok
    have Hf : Shut (okN (askCode 32 k 12 (m : Int)) m = m ∧ okL (askCode 32 k 12 (m : Int)) (streamL key k nonce data) = streamL key k nonce data ∧ askCode 32 k 12 (m : Int) = 0) := ⟨by simp [okN, okL, hok]⟩
    rw [Hf.out.1, Hf.out.2.1, Hf.out.2.2]
    simp only [hok] at hask
    clear hok
    have hcall := fun (w' : World) (h : Below w.heap.size w w') => l3Stream_any A c1 key k A2 c2 nonce A3 m c3 data w' (h1.below h) hc1 (h2.below h) hc2 (h3.below h) (by omega) hk0.1 hk0.2
    have Lk := Shut.mk ((streamL_len key k nonce data).trans h3.len)
    generalize streamL key k nonce data = K at *
    go_enter Tryd.func15, Tryd.ntmps15
    go_wp2_with fail
    refine (hask _).mono ?_
    rintro e w' ⟨rfl, rfl⟩
    clear hask
    go_wp2_with fail
    refine (hcall _ (ab (Below.refl _ _) _)).mono ?_
    clear hcall
    rintro e w1 ⟨⟨A1, q1, rfl, hrow⟩, hb⟩
    have how := hrow.ow' Lk.out
    have t1 := (Two.new w 27 (.int .i64 0) (.slice none 0 0)).below hb (by simp)
    have hs := hb.size
    simp only [World.size_alloc] at hs how
    obtain ⟨x0, x1, x2, x3⟩ := t1.cells
    go_wp2
    refine bodyPost_ret (v := .agg #[.int .i64 0, .slice A1 (m) q1]) (by simp [results, Tryd.results15, go_sem, x0, x1]) rfl ?_
    refine ⟨⟨A1, q1, rfl, ((how.far (p := ⟨w.heap.size, 0, none⟩) (by simp) _).far (p := ⟨w.heap.size, 1, none⟩) (by simp) _).mono (by omega)⟩, ?_⟩
    exact ((ac (ab (Below.refl _ w) _) hb).setCell (by simp) _).setCell (by simp) _
  · have Hf : Shut (okN (askCode n1 k n2 (m : Int)) m = 0 ∧ okL (askCode n1 k n2 (m : Int)) (streamL key k nonce data) = []) := ⟨by simp [okN, okL, hok]⟩
    rw [Hf.out.1, Hf.out.2]
    have hne : (askCode n1 k n2 (m : Int) != 0) = true := by rw [bne_iff_ne]; exact hok
    clear hok Hf
    generalize askCode n1 k n2 (m : Int) = C at *
    go_enter Tryd.func15, Tryd.ntmps15
    go_wp2_with fail
    refine (hask _).mono ?_
    rintro e w' ⟨rfl, rfl⟩
    clear hask
    go_wp2
    go_returns
    exact ⟨⟨none, 0, rfl, Ow.nil_ _ _⟩, by go_grown⟩

set_option maxHeartbeats 1000000 in
theorem specSealBox_any (A : Option Addr) (n1 c1 : Nat) (key : List Int) (A2 : Option Addr) (n2 c2 : Nat) (nonce : List Int) (A3 : Option Addr) (p c3 : Nat) (more : List Int) (A4 : Option Addr) (q c4 : Nat) (text : List Int) (w : World) (h1 : Bs w A n1 key) (hc1 : n1 ≤ c1) (h2 : Bs w A2 n2 nonce) (hc2 : n2 ≤ c2) (h3 : Bs w A3 p more) (hc3 : A3 = none → c3 = 0) (h4 : Bs w A4 q text) :
    Calls Tryd.prog 24 #[.slice A n1 c1, .slice A2 n2 c2, .slice A3 p c3, .slice A4 q c4] w (BytesAns (askCode n1 0 n2 (maxN p q : Int)) (okN (askCode n1 0 n2 (maxN p q : Int)) (q + 16)) (okL (askCode n1 0 n2 (maxN p q : Int)) (sealL key nonce more text)) w) := by
  have hask := fun w => l3Asked_any A n1 c1 0 A2 n2 c2 (maxN p q : Int) w
  by_cases hok : askCode n1 0 n2 (maxN p q : Int) = 0
  · obtain ⟨rfl, rfl, hk0, hs0⟩ := ask_zero hok
    have Hf : Shut (okN (askCode 32 0 12 (maxN p q : Int)) (q + 16) = (q + 16) ∧ okL (askCode 32 0 12 (maxN p q : Int)) (sealL key nonce more text) = sealL key nonce more text ∧ askCode 32 0 12 (maxN p q : Int) = 0) := ⟨by simp [okN, okL, hok]⟩
    rw [Hf.out.1, Hf.out.2.1, Hf.out.2.2]
    simp only [hok] at hask
    clear hok
    have hcall := fun (w' : World) (h : Below w.heap.size w w') => l3Seal_any A c1 key A2 c2 nonce A3 p c3 more A4 q c4 text w' (h1.below h) hc1 (h2.below h) hc2 (h3.below h) (by unfold maxN at hs0; split at hs0 <;> omega) hc3 (h4.below h) (by unfold maxN at hs0; split at hs0 <;> omega)
    have Lk := Shut.mk ((sealL_len key nonce more text).trans (by rw [h4.len]))
    generalize sealL key nonce more text = K at *
    go_enter Tryd.func24, Tryd.ntmps24
    go_wp2_with fail
    refine (max_len p q _).mono ?_
    rintro e w' ⟨rfl, rfl⟩
    go_wp2_with fail
    refine (hask _).mono ?_
    rintro e w' ⟨rfl, rfl⟩
    clear hask
    go_wp2_with fail
    refine (hcall _ (ab (Below.refl _ _) _)).mono ?_
    clear hcall
    rintro e w1 ⟨⟨A1, q1, rfl, hrow⟩, hb⟩
    have how := hrow.ow' Lk.out
    have t1 := (Two.new w 27 (.int .i64 0) (.slice none 0 0)).below hb (by simp)
    have hs := hb.size
    simp only [World.size_alloc] at hs how
    obtain ⟨x0, x1, x2, x3⟩ := t1.cells
    go_wp2
    refine bodyPost_ret (v := .agg #[.int .i64 0, .slice A1 ((q + 16)) q1]) (by simp [results, Tryd.results24, go_sem, x0, x1]) rfl ?_
    refine ⟨⟨A1, q1, rfl, ((how.far (p := ⟨w.heap.size, 0, none⟩) (by simp) _).far (p := ⟨w.heap.size, 1, none⟩) (by simp) _).mono (by omega)⟩, ?_⟩
    exact ((ac (ab (Below.refl _ w) _) hb).setCell (by simp) _).setCell (by simp) _
  · have Hf : Shut (okN (askCode n1 0 n2 (maxN p q : Int)) (q + 16) = 0 ∧ okL (askCode n1 0 n2 (maxN p q : Int)) (sealL key nonce more text) = []) := ⟨by simp [okN, okL, hok]⟩
    rw [Hf.out.1, Hf.out.2]
    have hne : (askCode n1 0 n2 (maxN p q : Int) != 0) = true := by rw [bne_iff_ne]; exact hok
    clear hok Hf
    generalize askCode n1 0 n2 (maxN p q : Int) = C at *
    go_enter Tryd.func24, Tryd.ntmps24
    go_wp2_with fail
    refine (max_len p q _).mono ?_
    rintro e w' ⟨rfl, rfl⟩
    go_wp2_with fail
    refine (hask _).mono ?_
    rintro e w' ⟨rfl, rfl⟩
    clear hask
    go_wp2
    go_returns
    exact ⟨⟨none, 0, rfl, Ow.nil_ _ _⟩, by go_grown⟩
end Go.Proofs.YtcanmhlhnihijaaDoor
