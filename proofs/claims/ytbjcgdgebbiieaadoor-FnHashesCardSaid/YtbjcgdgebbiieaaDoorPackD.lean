/- PackLow of the model; PackHigh of both. -/
import Derived.Test.YtbjcgdgebbiieaaDoorPackC
import Derived.Test.YtbjcgdgebbiieaaDoorBackC
namespace Go.Proofs.YtbjcgdgebbiieaaDoor
open Go.RowKit

theorem l1High_any (n : Int) (m : Nat) (w : World) (h0 : 0 ≤ n) (hn : n ≤ 9223372036854775807) (hm : m ≤ 1000) :
    Calls Tryd.prog 51 #[.int .i64 n, .int .i64 (m : Int)] w fun e w' => (∃ A c, e = .returned (.slice A m c) ∧ Ow w' w.heap.size A m (lowOf n m).reverse) ∧ Below w.heap.size w w' := by
  go_enter Tryd.func51, Tryd.ntmps51
  go_wp2_with fail
  refine (l1Low_any _ _ _ h0 hn hm).mono ?_
  rintro e w1 ⟨⟨A, c, rfl, how⟩, hb⟩
  go_wp2_with fail
  refine (l1Back_any _ _ _ _ _ how.bs (by omega)).mono ?_
  rintro e w2 ⟨⟨A2, c2, rfl, how2⟩, hb2⟩
  go_wp2
  go_ret
  exact ⟨⟨A2, c2, rfl, how2.mono hb.size⟩, ac hb hb2⟩

def phigh (n size : Int) : List Int := (plow n size).reverse

theorem spreadHigh_any (n : Int) (m : Nat) (w : World) (hm : m ≤ 8) :
    Calls Tryd.prog 43 #[.int .i64 n, .int .i64 (m : Int)] w fun e w' => e = .returned (.slice (some ⟨w.heap.size, 0, none⟩) m m) ∧ Ow w' w.heap.size (some ⟨w.heap.size, 0, none⟩) m (lowOf n m).reverse ∧ Below w.heap.size w w' := by
  go_enter Tryd.func43, Tryd.ntmps43
  go_wp2_with fail
  refine (spreadLow_any _ _ _ hm).mono ?_
  rintro e w1 ⟨rfl, hblk, hb⟩
  have how := hblk.own (lowOf_byte n m) (lowOf_len n m)
  go_wp2_with fail
  refine (Reverse_any _ _ _ _ _ _ how (by omega)).mono ?_
  rintro e w2 ⟨rfl, how2, hon⟩
  go_wp2
  go_ret
  exact ⟨rfl, how2, hb.trans (hon.below (fun hn a ha => by have := how.base hn a ha; omega))⟩

end Go.Proofs.YtbjcgdgebbiieaaDoor
