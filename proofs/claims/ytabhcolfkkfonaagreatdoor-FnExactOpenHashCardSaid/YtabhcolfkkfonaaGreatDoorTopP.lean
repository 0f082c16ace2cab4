/- PolyTag of the program. -/
import Derived.Test.YtabhcolfkkfonaaGreatDoorPolP
import Derived.Test.YtabhcolfkkfonaaGreatDoorAnsX
import Derived.Test.YtabhcolfkkfonaaGreatDoorSpan
namespace Go.Proofs.YtabhcolfkkfonaaGreatDoor
open Go.RowKit

theorem polyTag_any (b off c : Nat) (key : List Int) (A2 : Option Addr) (m c2 : Nat) (data : List Int) (w : World) (hk : Bs w (some ⟨b, off, none⟩) 32 key) (hc : 32 ≤ c) (hd : Bs w A2 m data) (hm : m ≤ 100000) (hc2 : m ≤ c2) :
    Calls Tryz.prog 197 #[.slice (some ⟨b, off, none⟩) 32 c, .slice A2 m c2] w fun e w' => (∃ g c', e = .returned (.slice (some ⟨g, 0, none⟩) 16 c') ∧ Row w' w.heap.size (.slice (some ⟨g, 0, none⟩) 16 c') (polyTag key data)) ∧ Below w.heap.size w w' :=
  (callsIn_wide (n := 4)).1 (polyTag_in Fence.wide 4 (fun _ => trivial) (fun _ _ _ _ _ hc => callsIn_wide.2 hc) rfl (by omega) b off c key A2 m c2 data w hk hc hd hm hc2)

end Go.Proofs.YtabhcolfkkfonaaGreatDoor
