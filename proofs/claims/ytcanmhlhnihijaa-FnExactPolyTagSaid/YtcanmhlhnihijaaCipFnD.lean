/- The answers of the model's PolyTag and OpenBox. -/
import Derived.Test.YtcanmhlhnihijaaCipFnC
namespace Go.Proofs.Ytcanmhlhnihijaa
open Go.RowKit

def polyCode (n m : Nat) : Int := if n = 32 then (if m ≤ 1000 then 0 else 2) else 3

set_option maxHeartbeats 1000000 in
theorem specPolyTag_any (A : Option Addr) (n1 c1 : Nat) (key : List Int) (A3 : Option Addr) (m c3 : Nat) (data : List Int) (w : World) (h1 : Bs w A n1 key) (hc1 : n1 ≤ c1) (h3 : Bs w A3 m data) (hc3 : m ≤ c3) :
    Calls Try.prog 4 #[.slice A n1 c1, .slice A3 m c3] w (BytesAns (polyCode n1 m) (okN (polyCode n1 m) 16) (okL (polyCode n1 m) (polyTag key data)) w) := by
  by_cases hn : n1 = 32
  · subst hn
    by_cases hm : m ≤ 1000
    · have Hf : Shut (okN (polyCode 32 m) 16 = 16 ∧ okL (polyCode 32 m) (polyTag key data) = polyTag key data ∧ polyCode 32 m = 0) := ⟨by simp [okN, okL, polyCode, hm]⟩
      rw [Hf.out.1, Hf.out.2.1, Hf.out.2.2]
      have hcall := fun (w' : World) (h : Below w.heap.size w w') => l3Poly_any A c1 key A3 m c3 data w' (h1.below h) hc1 (h3.below h) (by omega) hc3
      have Lk := Shut.mk (polyTag_len key data)
      generalize polyTag key data = K at *
      go_enter Try.func4, Try.ntmps4
      go_wp2_with fail
      refine (hcall _ (ab (Below.refl _ _) _)).mono ?_
      clear hcall
      rintro e w1 ⟨⟨A1, q1, rfl, hrow⟩, hb⟩
      have how := hrow.ow' Lk.out
      have t1 := (Two.new w 24 (.int .i64 0) (.slice none 0 0)).below hb (by simp)
      have hs := hb.size
      simp only [World.size_alloc] at hs how
      obtain ⟨x0, x1, x2, x3⟩ := t1.cells
      go_wp2
      refine bodyPost_ret (v := .agg #[.int .i64 0, .slice A1 16 q1]) (by simp [results, Try.results4, go_sem, x0, x1]) rfl ?_
      refine ⟨⟨A1, q1, rfl, ((how.far (p := ⟨w.heap.size, 0, none⟩) (by simp) _).far (p := ⟨w.heap.size, 1, none⟩) (by simp) _).mono (by omega)⟩, ?_⟩
      exact ((ac (ab (Below.refl _ w) _) hb).setCell (by simp) _).setCell (by simp) _
    · have Hf : Shut (okN (polyCode 32 m) 16 = 0 ∧ okL (polyCode 32 m) (polyTag key data) = [] ∧ polyCode 32 m = 2) := ⟨by simp [okN, okL, polyCode, hm]⟩
      rw [Hf.out.1, Hf.out.2.1, Hf.out.2.2]
      have h1000 : 1000 < m := by omega
      clear hm
      go_enter Try.func4, Try.ntmps4
      go_wp2
      go_returns
      exact ⟨⟨none, 0, rfl, Ow.nil_ _ _⟩, by go_grown⟩
  · have Hf : Shut (okN (polyCode n1 m) 16 = 0 ∧ okL (polyCode n1 m) (polyTag key data) = [] ∧ polyCode n1 m = 3) := ⟨by simp [okN, okL, polyCode, hn]⟩
    rw [Hf.out.1, Hf.out.2.1, Hf.out.2.2]
    have hb : ((n1 : Int) != 32) = true := by rw [bne_iff_ne]; omega
    clear hn
    go_enter Try.func4, Try.ntmps4
    go_wp2
    go_returns
    exact ⟨⟨none, 0, rfl, Ow.nil_ _ _⟩, by go_grown⟩

/-- what a box's opening tells: a: what is asked of the arguments; m: how many bytes the box has -/
def openCode (a : Int) (key nonce more box : List Int) : Int :=
  if a = 0 then (if box.length < 16 then 2 else if boxTag key nonce more (box.take (box.length - 16)) = box.drop (box.length - 16) then 0 else 6) else a
def openL (key nonce box : List Int) : List Int := streamL key 1 nonce (box.take (box.length - 16))

end Go.Proofs.Ytcanmhlhnihijaa
