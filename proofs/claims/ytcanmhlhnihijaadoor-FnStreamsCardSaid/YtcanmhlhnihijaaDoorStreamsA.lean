/- The walk of FnStreams at every code, over the program. -/
import Derived.Test.YtcanmhlhnihijaaDoorStreamsW
import Derived.Test.YtcanmhlhnihijaaDoorStxP
namespace Go.Proofs.YtcanmhlhnihijaaDoor
open Go.RowKit

theorem SpanAns.cap {code : Int} {n : Nat} {l : List Int} {w : World} {e : Ending} {w' : World} (h : SpanAns code n l w e w') : CapAns code n l w e w' := h

theorem streams_all (A : Option Addr) (n c : Nat) (l : List Int) (w : World) (hT : Quar w) (h : Bs w A n l) (hm : n ≤ 9223372036854775807) :
    Calls Tryd.prog 3 #[.slice A n c] w fun e w' => e = .returned (.bool true) ∧ Below w.heap.size w w' := by
  by_cases hl0 : n ≤ 1048576
  · exact streams_walk A n c l w h hl0 Quar hT (fun _ _ hb h => h.keep hb)
      (Shut.mk fun A1 n1 c1 r1 k A2 n2 c2 r2 A3 n3 c3 r3 W hP h1 hc1 _ h2 hc2 _ h3 hc3 hn3 _ _ => (implStreamXor_any A1 n1 c1 r1 k A2 n2 c2 r2 A3 n3 c3 r3 W hP h1 hc1 h2 hc2 h3 hc3 hn3).mono fun _ _ h => h.cap)
      (Shut.mk fun A1 n1 c1 r1 k A2 n2 c2 r2 W hP h1 hc1 _ h2 hc2 _ _ => (implStreamBlock_any A1 n1 c1 r1 k A2 n2 c2 r2 W hP h1 hc1 h2 hc2).mono fun _ _ h => h.cap)
  · have Hd : Shut (decide (1048576 < n) = true) := ⟨by simp; omega⟩
    go_enter Tryd.func3, Tryd.ntmps3
    go_wp2_with fail
    refine (lwBig_any _ _ _ _ hm).mono ?_
    rintro e w1 ⟨rfl, rfl⟩
    rw [Hd.out]
    go_wp2
    go_ret
    exact ⟨rfl, Below.refl _ _⟩
end Go.Proofs.YtcanmhlhnihijaaDoor
