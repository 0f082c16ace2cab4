/- The bytes of a state, of the program. -/
import Derived.Test.YtabhcolfkkfonaaDoorShaS
import Derived.Test.YtabhcolfkkfonaaDoorHashC
import Derived.Test.YtabhcolfkkfonaaDoorBase
import Derived.Test.YtabhcolfkkfonaaDoorWordP
namespace Go.Proofs.YtabhcolfkkfonaaDoor
open Go.RowKit

theorem spreadHighW_any (n : Int) (m : Nat) (w : World) (hm : m ≤ 4) :
    Calls Tryd.prog 63 #[.int .u32 n, .int .i64 (m : Int)] w fun e w' => e = .returned (.slice (some ⟨w.heap.size, 0, none⟩) m m) ∧ Ow w' w.heap.size (some ⟨w.heap.size, 0, none⟩) m (lowOf n m).reverse ∧ Below w.heap.size w w' := by
  go_enter Tryd.func63, Tryd.ntmps63
  go_wp2_with fail
  refine (spreadLowW_any _ _ _ hm).mono ?_
  rintro e w1 ⟨rfl, hblk, hb⟩
  have how := hblk.own (lowOf_byte n m) (lowOf_len n m)
  go_wp2_with fail
  refine (Reverse_any _ _ _ _ _ _ how (by omega)).mono ?_
  rintro e w2 ⟨rfl, how2, hon⟩
  go_wp2
  go_ret
  exact ⟨rfl, how2, hb.trans (hon.below (fun hn a ha => by have := how.base hn a ha; omega))⟩

set_option maxHeartbeats 1000000 in
theorem bytes_any (H0 H1 H2 H3 H4 H5 H6 H7 : Int) (hwd : Wd [H0, H1, H2, H3, H4, H5, H6, H7]) (w : World) :
    Calls Tryd.prog 52 #[.agg #[.int .u32 H0, .int .u32 H1, .int .u32 H2, .int .u32 H3, .int .u32 H4, .int .u32 H5, .int .u32 H6, .int .u32 H7]] w fun e w' =>
      (∃ A c, e = .returned (.slice A 32 c) ∧ Row w' w.heap.size (.slice A 32 c) (outTo [H0, H1, H2, H3, H4, H5, H6, H7] 8)) ∧ Below w.heap.size w w' := by
  have hmk : ∀ W : World, (Instr.makeSlice 22 (.int .i64 0) (.int .i64 32)).run Tryd.prog W = .ok (.slice (some ⟨W.heap.size, 0, none⟩) 0 32) (W.alloc (.cells (zeroB 32) 5)) := fun _ => by kernel_rfl
  go_enter Tryd.func52, Tryd.ntmps52
  go_wp2
  clear hmk
  have r0 := Row.room (w.alloc (.cells #[.int .u32 H0, .int .u32 H1, .int .u32 H2, .int .u32 H3, .int .u32 H4, .int .u32 H5, .int .u32 H6, .int .u32 H7] 72)) 32 (by omega) _ rfl
  rw [World.size_alloc] at r0
  go_loopw [3, 8] (fun v i wq => ∃ m : Nat, m ≤ 8 ∧ i = .int .i64 (m : Int) ∧ Row wq (w.heap.size + 1) v (outTo [H0, H1, H2, H3, H4, H5, H6, H7] m) ∧ Below w.heap.size w wq ∧ w.heap.size + 1 ≤ wq.heap.size) (fun _ i _ => 8 - (intOf i).toNat)
  case atStart => exact ⟨0, by omega, rfl, r0, ab (ab (Below.refl _ _) _) _, by simp⟩
  case round =>
    clear r0
    obtain ⟨m, hm, rfl, hrow, hbel, hsz⟩ := hrel
    have hol := outTo_len [H0, H1, H2, H3, H4, H5, H6, H7] m
    obtain ⟨A5, c5, rfl, _⟩ := hrow.ow hol
    by_cases hlm : m < 8
    · have hix : (#[Value.int .u32 H0, .int .u32 H1, .int .u32 H2, .int .u32 H3, .int .u32 H4, .int .u32 H5, .int .u32 H6, .int .u32 H7] : Array Value)[m]? = some (.int .u32 ([H0, H1, H2, H3, H4, H5, H6, H7].getD m 0)) := by
        have e : m = 0 ∨ m = 1 ∨ m = 2 ∨ m = 3 ∨ m = 4 ∨ m = 5 ∨ m = 6 ∨ m = 7 := by omega
        rcases e with rfl | rfl | rfl | rfl | rfl | rfl | rfl | rfl <;> rfl
      have hi := idx8 _ m _ hix hlm
      have hsucc := Shut.mk (outTo_succ [H0, H1, H2, H3, H4, H5, H6, H7] m)
      have r0 := hwd.get m
      have HL := Shut.mk hol
      generalize [H0, H1, H2, H3, H4, H5, H6, H7].getD m 0 = HM at *
      obtain ⟨r00, r01⟩ := r0
      have hmi : (m : Int) < 8 := by omega
      clear hix hol
      go_wp2_with fail
      refine (spreadHighW_any HM 4 wr (by omega)).mono ?_
      rintro e w2 ⟨rfl, ow2, b2⟩
      have s2 := b2.size
      have row2 := hrow.keep (w' := w2) (fun g _ h2 => b2.block g h2)
      clear hi
      go_wp2_with (at_builtin; refine wpList_row_join rfl _ _ rfl _ (w.heap.size + 1) (.slice A5 (4 * m) c5) _ _ rfl row2 (by omega) (some ⟨wr.heap.size, 0, none⟩) 4 4 rfl ow2.bs (fun e => by cases e) (by rw [HL.out]; omega) ?_; intro v4 w4 hr4 hb4 hs4)
      refine ⟨⟨m + 1, by omega, by go_num, by rw [hsucc.out]; exact hr4, (ac hbel b2).trans (hb4.mono (by omega)), by omega⟩, by simp [intOf]; omega⟩
    · obtain rfl : m = 8 := by omega
      go_wp2
      go_ret
      exact ⟨⟨A5, c5, rfl, hrow.mono (by omega)⟩, hbel⟩
end Go.Proofs.YtabhcolfkkfonaaDoor
