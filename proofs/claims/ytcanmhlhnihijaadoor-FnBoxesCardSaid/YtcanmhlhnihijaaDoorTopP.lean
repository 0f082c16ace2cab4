/- PolyTag of the program. -/
import Derived.Test.YtcanmhlhnihijaaDoorPolP
import Derived.Test.YtcanmhlhnihijaaDoorCipFnD
import Derived.Test.YtcanmhlhnihijaaDoorSpan
namespace Go.Proofs.YtcanmhlhnihijaaDoor
open Go.RowKit

theorem polyTag_any (b off c : Nat) (key : List Int) (A2 : Option Addr) (m c2 : Nat) (data : List Int) (w : World) (hk : Bs w (some ⟨b, off, none⟩) 32 key) (hc : 32 ≤ c) (hd : Bs w A2 m data) (hm : m ≤ 100000) (hc2 : m ≤ c2) :
    Calls Tryd.prog 49 #[.slice (some ⟨b, off, none⟩) 32 c, .slice A2 m c2] w fun e w' => (∃ g c', e = .returned (.slice (some ⟨g, 0, none⟩) 16 c') ∧ Row w' w.heap.size (.slice (some ⟨g, 0, none⟩) 16 c') (polyTag key data)) ∧ Below w.heap.size w w' :=
  (callsIn_wide (n := 4)).1 (polyTag_in Fence.wide 4 (fun _ => trivial) (fun _ _ _ _ _ hc => callsIn_wide.2 hc) rfl (by omega) b off c key A2 m c2 data w hk hc hd hm hc2)

set_option maxHeartbeats 1000000 in
theorem implPolyTag_any (A : Option Addr) (n1 c1 : Nat) (key : List Int) (A2 : Option Addr) (m c2 : Nat) (data : List Int) (w : World) (h1 : Bs w A n1 key) (hc1 : n1 ≤ c1) (h2 : Bs w A2 m data) (hc2 : m ≤ c2) :
    Calls Tryd.prog 23 #[.slice A n1 c1, .slice A2 m c2] w (SpanAns (polyCode n1 m) (okN (polyCode n1 m) 16) (okL (polyCode n1 m) (polyTag key data)) w) := by
  by_cases hn : n1 = 32
  · subst hn
    by_cases hm : m ≤ 1000
    · have Hf : Shut (okN (polyCode 32 m) 16 = 16 ∧ okL (polyCode 32 m) (polyTag key data) = polyTag key data ∧ polyCode 32 m = 0) := ⟨by simp [okN, okL, polyCode, hm]⟩
      rw [Hf.out.1, Hf.out.2.1, Hf.out.2.2]
      obtain ⟨b, off, rfl, _⟩ := h1.at_ (by omega)
      have hcall := fun (w' : World) (h : Below w.heap.size w w') => polyTag_any b off c1 key A2 m c2 data w' (h1.below h) hc1 (h2.below h) (by omega) hc2
      have Lk := Shut.mk (polyTag_len key data)
      generalize polyTag key data = K at *
      go_enter Tryd.func23, Tryd.ntmps23
      go_wp2_with fail
      refine (hcall _ (ab (Below.refl _ _) _)).mono ?_
      clear hcall
      rintro e w1 ⟨⟨g1, q1, rfl, hrow⟩, hb⟩
      have how := hrow.ow' Lk.out
      have hcap := hrow.cap
      have t1 := (Two.new w 27 (.int .i64 0) (.slice none 0 0)).below hb (by simp)
      have hs := hb.size
      simp only [World.size_alloc] at hs how
      obtain ⟨x0, x1, x2, x3⟩ := t1.cells
      go_wp2
      refine bodyPost_ret (v := .agg #[.int .i64 0, .slice (some ⟨g1, 0, none⟩) 16 q1]) (by simp [results, Tryd.results23, go_sem, x0, x1]) rfl ?_
      refine ⟨⟨_, q1, rfl, ((how.far (p := ⟨w.heap.size, 0, none⟩) (by simp) _).far (p := ⟨w.heap.size, 1, none⟩) (by simp) _).mono (by omega), hcap, fun e => by cases e⟩, ?_⟩
      exact ((ac (ab (Below.refl _ w) _) hb).setCell (by simp) _).setCell (by simp) _
    · have Hf : Shut (okN (polyCode 32 m) 16 = 0 ∧ okL (polyCode 32 m) (polyTag key data) = [] ∧ polyCode 32 m = 2) := ⟨by simp [okN, okL, polyCode, hm]⟩
      rw [Hf.out.1, Hf.out.2.1, Hf.out.2.2]
      have hm2 : (1000 : Int) < (m : Int) := by omega
      go_enter Tryd.func23, Tryd.ntmps23
      go_wp2
      go_returns
      exact ⟨⟨none, 0, rfl, Ow.nil_ _ _, Nat.le_refl _, fun _ => rfl⟩, by go_grown⟩
  · have Hf : Shut (okN (polyCode n1 m) 16 = 0 ∧ okL (polyCode n1 m) (polyTag key data) = [] ∧ polyCode n1 m = 3) := ⟨by simp [okN, okL, polyCode, hn]⟩
    rw [Hf.out.1, Hf.out.2.1, Hf.out.2.2]
    have hi : ¬ (n1 : Int) = 32 := by omega
    go_enter Tryd.func23, Tryd.ntmps23
    go_wp2
    go_returns
    exact ⟨⟨none, 0, rfl, Ow.nil_ _ _, Nat.le_refl _, fun _ => rfl⟩, by go_grown⟩
end Go.Proofs.YtcanmhlhnihijaaDoor
