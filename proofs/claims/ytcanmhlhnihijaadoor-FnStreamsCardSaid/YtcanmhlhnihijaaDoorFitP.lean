/- StreamBlock of the program. -/
import Derived.Test.YtcanmhlhnihijaaDoorBlkP
import Derived.Test.YtcanmhlhnihijaaDoorCipFnC
import Derived.Test.YtcanmhlhnihijaaDoorSpan
namespace Go.Proofs.YtcanmhlhnihijaaDoor
open Go.RowKit

theorem fitsStream_any (A : Option Addr) (n1 c1 : Nat) (k : Int) (A2 : Option Addr) (n2 c2 : Nat) (w : World) :
    Calls Tryd.prog 38 #[.slice A n1 c1, .int .i64 k, .slice A2 n2 c2] w fun e w' => e = .returned (.bool (askOk n1 k n2)) ∧ w' = w := by
  by_cases h1 : n1 = 32
  · by_cases h2 : n2 = 12
    · subst h1 h2
      by_cases h3 : 0 ≤ k
      · by_cases h4 : k ≤ 1000000
        · have e : askOk 32 k 12 = true := by simp [askOk, inB, h3, h4]
          rw [e]
          go_enter Tryd.func38, Tryd.ntmps38
          go_wp2
          go_ret
          exact ⟨rfl, rfl⟩
        · have e : askOk 32 k 12 = false := by simp [askOk, inB, h4]
          rw [e]
          go_enter Tryd.func38, Tryd.ntmps38
          go_wp2
          go_ret
          exact ⟨rfl, rfl⟩
      · have e : askOk 32 k 12 = false := by simp [askOk, inB, h3]
        rw [e]
        go_enter Tryd.func38, Tryd.ntmps38
        go_wp2
        go_ret
        exact ⟨rfl, rfl⟩
    · have e : askOk n1 k n2 = false := by simp [askOk, h2]
      rw [e]
      subst h1
      have hi : ¬ (n2 : Int) = 12 := by omega
      go_enter Tryd.func38, Tryd.ntmps38
      go_wp2
      go_ret
      exact ⟨rfl, rfl⟩
  · have e : askOk n1 k n2 = false := by simp [askOk, h1]
    rw [e]
    have hi : ¬ (n1 : Int) = 32 := by omega
    go_enter Tryd.func38, Tryd.ntmps38
    go_wp2
    go_ret
    exact ⟨rfl, rfl⟩

theorem ask_three {n1 : Nat} {k : Int} {n2 : Nat} (h : askOk n1 k n2 = false) (s : Int) : askCode n1 k n2 s = 3 := by simp [askCode, h]
theorem ask_ok {n1 : Nat} {k : Int} {n2 : Nat} (h : askOk n1 k n2 = true) : n1 = 32 ∧ n2 = 12 ∧ 0 ≤ k ∧ k ≤ 1000000 := by
  simp [askOk, inB] at h
  exact ⟨h.1.1, h.1.2, h.2.1, h.2.2⟩

set_option maxHeartbeats 1000000 in
theorem implStreamBlock_any (A : Option Addr) (n1 c1 : Nat) (key : List Int) (k : Int) (A2 : Option Addr) (n2 c2 : Nat) (nonce : List Int) (w : World) (hT : Quar w) (h1 : Bs w A n1 key) (hc1 : n1 ≤ c1) (h2 : Bs w A2 n2 nonce) (hc2 : n2 ≤ c2) :
    Calls Tryd.prog 13 #[.slice A n1 c1, .int .i64 k, .slice A2 n2 c2] w (SpanAns (askCode n1 k n2 0) (okN (askCode n1 k n2 0) 64) (okL (askCode n1 k n2 0) (keyBlock key k nonce)) w) := by
  have hask := fun w => fitsStream_any A n1 c1 k A2 n2 c2 w
  by_cases hok : askOk n1 k n2 = true
  · obtain ⟨rfl, rfl, hk0, hk1⟩ := ask_ok hok
    have hcd : askCode 32 k 12 0 = 0 := by simp [askCode, hok]
    have Hf : Shut (okN (askCode 32 k 12 0) 64 = 64 ∧ okL (askCode 32 k 12 0) (keyBlock key k nonce) = keyBlock key k nonce ∧ askCode 32 k 12 0 = 0) := ⟨by simp [okN, okL, hcd]⟩
    rw [Hf.out.1, Hf.out.2.1, Hf.out.2.2]
    simp only [hok] at hask
    clear hok hcd
    obtain ⟨b, off, rfl, _⟩ := h1.at_ (by omega)
    obtain ⟨b2, off2, rfl, _⟩ := h2.at_ (by omega)
    have hcall := fun (w' : World) (h : Below w.heap.size w w') => streamBlock_any b off c1 b2 off2 c2 key nonce k w' (hT.keep h) (h1.below h) hc1 (h2.below h) hc2 ⟨hk0, by omega⟩
    have hcv : IntKind.u32.wrap k = k := IntWalk.u32_in _ (by omega)
    have Lk := Shut.mk (keyBlock_len key k nonce)
    generalize keyBlock key k nonce = K at *
    go_enter Tryd.func13, Tryd.ntmps13
    go_wp2_with fail
    refine (hask _).mono ?_
    rintro e w' ⟨rfl, rfl⟩
    clear hask
    go_wp2_with fail
    refine (hcall _ (ab (Below.refl _ _) _)).mono ?_
    clear hcall
    rintro e w1 ⟨⟨A1, q1, rfl, hrow⟩, hb⟩
    have how := hrow.ow' Lk.out
    have hcap := hrow.cap
    have hnil := hrow.nilcap
    have t1 := (Two.new w 27 (.int .i64 0) (.slice none 0 0)).below hb (by simp)
    have hs := hb.size
    simp only [World.size_alloc] at hs how
    obtain ⟨x0, x1, x2, x3⟩ := t1.cells
    go_wp2
    refine bodyPost_ret (v := .agg #[.int .i64 0, .slice A1 64 q1]) (by simp [results, Tryd.results13, go_sem, x0, x1]) rfl ?_
    refine ⟨⟨A1, q1, rfl, ((how.far (p := ⟨w.heap.size, 0, none⟩) (by simp) _).far (p := ⟨w.heap.size, 1, none⟩) (by simp) _).mono (by omega), hcap, hnil⟩, ?_⟩
    exact ((ac (ab (Below.refl _ w) _) hb).setCell (by simp) _).setCell (by simp) _
  · have hf := Bool.eq_false_iff.2 hok
    have hcd := ask_three hf 0
    have Hf : Shut (okN (askCode n1 k n2 0) 64 = 0 ∧ okL (askCode n1 k n2 0) (keyBlock key k nonce) = [] ∧ askCode n1 k n2 0 = 3) := ⟨by simp [okN, okL, hcd]⟩
    rw [Hf.out.1, Hf.out.2.1, Hf.out.2.2]
    simp only [hf] at hask
    clear hok hcd hf
    go_enter Tryd.func13, Tryd.ntmps13
    go_wp2_with fail
    refine (hask _).mono ?_
    rintro e w' ⟨rfl, rfl⟩
    go_wp2
    go_returns
    exact ⟨⟨none, 0, rfl, Ow.nil_ _ _, Nat.le_refl _, fun _ => rfl⟩, by go_grown⟩
end Go.Proofs.YtcanmhlhnihijaaDoor
