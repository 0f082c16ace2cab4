/- StreamXor of the program. -/
import Derived.Test.YtcanmhlhnihijaaDoorStmP
import Derived.Test.YtcanmhlhnihijaaDoorStyP
import Derived.Test.YtcanmhlhnihijaaDoorFitP
namespace Go.Proofs.YtcanmhlhnihijaaDoor
open Go.RowKit

theorem streamed_any (b off c b2 off2 c2 : Nat) (A3 : Option Addr) (m c3 : Nat) (key nonce data : List Int) (n : Int) (w : World) (hT : Quar w) (hk : Bs w (some ⟨b, off, none⟩) 32 key) (hc : 32 ≤ c) (hno : Bs w (some ⟨b2, off2, none⟩) 12 nonce) (hc2 : 12 ≤ c2) (hd : Bs w A3 m data) (hc3 : m ≤ c3) (hcn : A3 = none → c3 = 0) (hm : m ≤ 2000) (h0 : 0 ≤ n ∧ n ≤ 1000000) :
    Calls Tryd.prog 39 #[.slice (some ⟨b, off, none⟩) 32 c, .int .u32 n, .slice (some ⟨b2, off2, none⟩) 12 c2, .slice A3 m c3] w fun e w' =>
      (∃ A c', e = .returned (.slice A m c') ∧ Row w' w.heap.size (.slice A m c') (streamL key n nonce data)) ∧ Below w.heap.size w w' := by
  by_cases hz : c3 = 0
  · subst hz
    obtain rfl : m = 0 := by omega
    exact (callsIn_wide (n := 6)).1 (streamedz_in Fence.wide 6 (fun _ => trivial) (fun _ _ _ _ _ hc => callsIn_wide.2 hc) rfl (by omega) b off c b2 off2 c2 A3 key nonce data n w hT hk hc hno hc2 hd h0)
  · by_cases hm0 : m = 0
    · subst hm0
      rcases A3 with _ | ⟨b3, off3, t3⟩
      · exact absurd (hcn rfl) hz
      · exact (callsIn_wide (n := 6)).1 (streamedy_in Fence.wide 6 (fun _ => trivial) (fun _ _ _ _ _ hc => callsIn_wide.2 hc) rfl (by omega) b off c b2 off2 c2 b3 off3 t3 c3 key nonce data n w hT hk hc hno hc2 hz hd h0)
    · obtain ⟨b3, off3, rfl, _⟩ := hd.at_ (by omega)
      exact (callsIn_wide (n := 6)).1 (streamed_in Fence.wide 6 (fun _ => trivial) (fun _ _ _ _ _ hc => callsIn_wide.2 hc) rfl (by omega) b off c b2 off2 c2 b3 off3 m c3 key nonce data n w hT hk hc hno hc2 hd hc3 (by omega) hm h0)

theorem ask_two {n1 : Nat} {k : Int} {n2 : Nat} {s : Int} (h : askOk n1 k n2 = true) (hs : 1000 < s) : askCode n1 k n2 s = 2 := by simp [askCode, h]; omega

set_option maxHeartbeats 1000000 in
theorem implStreamXor_any (A : Option Addr) (n1 c1 : Nat) (key : List Int) (k : Int) (A2 : Option Addr) (n2 c2 : Nat) (nonce : List Int) (A3 : Option Addr) (n3 c3 : Nat) (data : List Int) (w : World) (hT : Quar w) (h1 : Bs w A n1 key) (hc1 : n1 ≤ c1) (h2 : Bs w A2 n2 nonce) (hc2 : n2 ≤ c2) (h3 : Bs w A3 n3 data) (hc3 : n3 ≤ c3) (hcn : A3 = none → c3 = 0) :
    Calls Tryd.prog 11 #[.slice A n1 c1, .int .i64 k, .slice A2 n2 c2, .slice A3 n3 c3] w (SpanAns (askCode n1 k n2 (n3 : Int)) (okN (askCode n1 k n2 (n3 : Int)) n3) (okL (askCode n1 k n2 (n3 : Int)) (streamL key k nonce data)) w) := by
  have hask := fun w => fitsStream_any A n1 c1 k A2 n2 c2 w
  by_cases hok : askOk n1 k n2 = true
  · by_cases hm : n3 ≤ 1000
    · obtain ⟨rfl, rfl, hk0, hk1⟩ := ask_ok hok
      have hcd : askCode 32 k 12 (n3 : Int) = 0 := by simp [askCode, hok]; omega
      have Hf : Shut (okN (askCode 32 k 12 (n3 : Int)) n3 = n3 ∧ okL (askCode 32 k 12 (n3 : Int)) (streamL key k nonce data) = streamL key k nonce data ∧ askCode 32 k 12 (n3 : Int) = 0) := ⟨by simp [okN, okL, hcd]⟩
      rw [Hf.out.1, Hf.out.2.1, Hf.out.2.2]
      simp only [hok] at hask
      clear hok hcd
      obtain ⟨b, off, rfl, _⟩ := h1.at_ (by omega)
      obtain ⟨b2, off2, rfl, _⟩ := h2.at_ (by omega)
      have hcall := fun (w' : World) (h : Below w.heap.size w w') => streamed_any b off c1 b2 off2 c2 A3 n3 c3 key nonce data k w' (hT.keep h) (h1.below h) hc1 (h2.below h) hc2 (h3.below h) hc3 hcn (by omega) ⟨hk0, by omega⟩
      have hcv : IntKind.u32.wrap k = k := IntWalk.u32_in _ (by omega)
      have Lk := Shut.mk ((streamL_len key k nonce data).trans h3.len)
      have hm2 : ¬ (1000 : Int) < (n3 : Int) := by omega
      generalize streamL key k nonce data = K at *
      go_enter Tryd.func11, Tryd.ntmps11
      go_wp2_with fail
      refine (hask _).mono ?_
      rintro e w' ⟨rfl, rfl⟩
      clear hask
      go_wp2_with fail
      refine (hcall _ (ab (Below.refl _ _) _)).mono ?_
      clear hcall
      rintro e w1 ⟨⟨A1, q1, rfl, hrow⟩, hb⟩
      have how := hrow.ow' Lk.out
      have hcap := hrow.cap
      have hnil := hrow.nilcap
      have t1 := (Two.new w 27 (.int .i64 0) (.slice none 0 0)).below hb (by simp)
      have hs := hb.size
      simp only [World.size_alloc] at hs how
      obtain ⟨x0, x1, x2, x3⟩ := t1.cells
      go_wp2
      refine bodyPost_ret (v := .agg #[.int .i64 0, .slice A1 n3 q1]) (by simp [results, Tryd.results11, go_sem, x0, x1]) rfl ?_
      refine ⟨⟨A1, q1, rfl, ((how.far (p := ⟨w.heap.size, 0, none⟩) (by simp) _).far (p := ⟨w.heap.size, 1, none⟩) (by simp) _).mono (by omega), hcap, hnil⟩, ?_⟩
      exact ((ac (ab (Below.refl _ w) _) hb).setCell (by simp) _).setCell (by simp) _
    · have hcd := ask_two hok (s := (n3 : Int)) (by omega)
      have Hf : Shut (okN (askCode n1 k n2 (n3 : Int)) n3 = 0 ∧ okL (askCode n1 k n2 (n3 : Int)) (streamL key k nonce data) = [] ∧ askCode n1 k n2 (n3 : Int) = 2) := ⟨by simp [okN, okL, hcd]⟩
      rw [Hf.out.1, Hf.out.2.1, Hf.out.2.2]
      simp only [hok] at hask
      clear hok hcd
      have hm2 : (1000 : Int) < (n3 : Int) := by omega
      go_enter Tryd.func11, Tryd.ntmps11
      go_wp2_with fail
      refine (hask _).mono ?_
      rintro e w' ⟨rfl, rfl⟩
      go_wp2
      go_returns
      exact ⟨⟨none, 0, rfl, Ow.nil_ _ _, Nat.le_refl _, fun _ => rfl⟩, by go_grown⟩
  · have hf := Bool.eq_false_iff.2 hok
    have hcd := ask_three hf (n3 : Int)
    have Hf : Shut (okN (askCode n1 k n2 (n3 : Int)) n3 = 0 ∧ okL (askCode n1 k n2 (n3 : Int)) (streamL key k nonce data) = [] ∧ askCode n1 k n2 (n3 : Int) = 3) := ⟨by simp [okN, okL, hcd]⟩
    rw [Hf.out.1, Hf.out.2.1, Hf.out.2.2]
    simp only [hf] at hask
    clear hok hcd hf
    go_enter Tryd.func11, Tryd.ntmps11
    go_wp2_with fail
    refine (hask _).mono ?_
    rintro e w' ⟨rfl, rfl⟩
    go_wp2
    go_returns
    exact ⟨⟨none, 0, rfl, Ow.nil_ _ _, Nat.le_refl _, fun _ => rfl⟩, by go_grown⟩
end Go.Proofs.YtcanmhlhnihijaaDoor
