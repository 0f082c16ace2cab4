/- Words of the program: read of bytes, the lowest one first, and laid in bytes. -/
import Derived.Test.YtabhcolfkkfonaaGreatDoorJoinLow
import Derived.Test.YtabhcolfkkfonaaGreatDoorShaC
import Derived.Test.YtabhcolfkkfonaaGreatDoorBase
namespace Go.Proofs.YtabhcolfkkfonaaGreatDoor
open Go.RowKit Go.Shelf

attribute [local go_sem] Oper.semAt_some

theorem or_byte_w (a x : Int) (ha0 : 0 ≤ a) (ha1 : a < 16777216) (hx0 : 0 ≤ x) (hx1 : x < 256) : bits BinOp.or IntKind.u32 (a * 256) x = a * 256 + x := by
  obtain ⟨a, rfl⟩ := Int.eq_ofNat_of_zero_le ha0
  obtain ⟨x, rfl⟩ := Int.eq_ofNat_of_zero_le hx0
  have e : ((a : Int) * 256) = ((a * 256 : Nat) : Int) := by omega
  have h := Nat.shiftLeft_add_eq_or_of_lt (i := 8) (b := x) (by omega) a
  rw [Nat.shiftLeft_eq] at h
  rw [e, u32_or _ _ (by omega) (by omega) (by omega) (by omega)]
  simp only [Int.toNat_natCast]
  rw [← h]
  rfl
theorem hi_bd3 (l : List Int) (h : By l) (hk : l.length ≤ 3) : 0 ≤ hi l ∧ hi l < 16777216 := by
  have hb := hi_bd l h
  have hp : ∀ m : Nat, m ≤ 3 → (256 : Int) ^ m ≤ 16777216 := by decide
  have := hp l.length hk
  omega

set_option maxRecDepth 100000 in
set_option maxHeartbeats 2000000 in
theorem joinLowW_in (F : Fence) (n : Nat) (h48 : F.fn 240) (h65 : F.fn 246) (h67 : F.fn 250) (hro : F.round = none) (hn : 3 ≤ n) (A : Option Addr) (len c : Nat) (l : List Int) (w : World) (h : Bs w A len l) (hlen : len ≤ 4) :
    CallsIn F n Tryz.prog 240 #[.slice A len c] w fun e W' => e = .returned (.int .u32 (lo l)) ∧ Below w.heap.size w W' := by
  have h1 : 1 ≤ n := by omega
  refine callsIn_of_wp_marks Tryz.func240 rfl h48 ?_ hro
  simp only [Tryz.ntmps240, List.size_toArray, List.length_cons, List.length_nil, Nat.reduceAdd, Nat.reduceSub, Array.replicate_succ, Array.replicate_zero, List.push_toArray, List.append_toArray, List.nil_append, List.cons_append]
  gi_wp2_with (gi_at_call 246; refine (Backward_in F (n - 1) h65 hro _ _ _ _).mono ?_; rintro e w' ⟨rfl, rfl⟩)
  have hs := one_new w (.int .u32 0) 158
  have hb := one_new (w.alloc (.cells #[.int .u32 0] 158)) (.slice A len c) 22
  rw [World.size_alloc] at hb
  have hB0 : Below w.heap.size w ((w.alloc (.cells #[.int .u32 0] 158)).alloc (.cells #[.slice A len c] 22)) := ab (ab (Below.refl _ w) _) _
  refine wpIn_rangeFunc_ownF hro h1 (gf := 250) (lb := #[.pointer (some ⟨w.heap.size + 1, 0, none⟩)]) rfl h67 (enters_of Tryz.func250 (by kernel_rfl) rfl)
    (Backward_stops F (n - 1) h67 hro (by omega) (w.heap.size + 1) w.heap.size len c A l (by omega) _ hb.1 ((h.alloc _).alloc _) (fun b off e hp => by obtain ⟨b', off', e', hlt, _⟩ := h.at_ hp; rw [e] at e'; injection e' with e'; injection e' with e'; omega))
    (fun {A B C} => Kb.trans) (fun W2 l2 o o' hle ho h1 h2 => ⟨belowK_b (w := w) (Nat.le_refl _) W2 l2 o o' (by simp at hle; omega) ho h1 h2, putObj_other W2 l2 o' (w.heap.size + 1) (by simp at hle; omega)⟩) (Below.refl _ _) (fun _ => rfl)
    (fun pre W => (W.cell? ⟨w.heap.size, 0, none⟩ = some (.int .u32 (hi (vals pre))) ∧ W.frozen? ⟨w.heap.size, 0, none⟩ = false) ∧ Below w.heap.size w W)
    (fun _ _ _ => False)
    (OwnFrom.and (Own.from (fun s A B row hs hg hr => ⟨cell_kept hs.1 hg hr, (frozen_kept hs.1 hg hr).trans hs.2⟩) _) (ownFrom_below (Nat.le_refl _) (by simp; omega)))
    (fun _ _ _ _ _ hs _ _ => hs)
    ⟨⟨cell_past _ hs.1, frozen_past _ hs.1 hs.2⟩, hB0⟩
    (fun x => { tmps := #[.slice A len c, undef, .int .u32 0, .pointer (some ⟨w.heap.size, 0, none⟩), undef, .int .u8 x.2.1, .slice A len c, .func (.func 250) #[] #[.pointer (some ⟨w.heap.size + 1, 0, none⟩)], .int .i64 x.1, .int .u8 x.2.1, undef, undef, undef, undef, undef, undef], defers := [] }) ?assign ?body ?done ?stop
  case assign =>
    intro lp x W K hK
    simp only [cameArgs]
    gi_wp2
    exact hK
  case body =>
    rintro lp pre x W ⟨⟨hc, hf⟩, hB⟩ hpre
    obtain ⟨hb0, hb1⟩ := hi_bd3 (vals pre) (vals_byte pre) (by rw [vals, List.length_map]; omega)
    obtain ⟨i, X, hX0, hX1⟩ := x
    have Ho := Lib.hid (or_byte_w _ X hb0 hb1 hX0 hX1)
    gi_wp2
    refine ⟨KeepsOthers.setCell _ _ _, ⟨(Below.refl w.heap.size W).setCell (p := ⟨w.heap.size, 0, none⟩) (Nat.le_refl _) _, Below.heap_setCell W ⟨w.heap.size, 0, none⟩ _ (w.heap.size + 1) (by simp)⟩, ⟨?_, by rw [World.frozen?_setCell]; exact hf⟩, hB.setCell (p := ⟨w.heap.size, 0, none⟩) (Nat.le_refl _) _⟩
    rw [vals_snoc, hi_snoc, Ho.out]
    exact World.cell?_setCell_same W _ _ hc
  case done =>
    rintro D ys W hD hys ⟨⟨hc, _⟩, hB⟩ hK
    gi_wp2
    refine ⟨by simp, .inl ⟨_, _, rfl, run_takeDeferred hK, ?_⟩⟩
    exact ⟨_, results_tmp rfl _ _ _, by simp [lo], hB.trans (belowK_b (w := w) (Nat.le_refl _) W D _ _ (by simp at hD; omega) hK rfl rfl)⟩
  case stop =>
    rintro D c pre W _ _ h _
    exact h.elim

theorem joinLowW_any (A : Option Addr) (n c : Nat) (l : List Int) (w : World) (h : Bs w A n l) (hn : n ≤ 4) :
    Calls Tryz.prog 240 #[.slice A n c] w fun e w' => e = .returned (.int .u32 (lo l)) ∧ Below w.heap.size w w' :=
  (callsIn_wide (n := 3)).1 (joinLowW_in Fence.wide 3 trivial trivial trivial rfl (by omega) A n c l w h hn)

theorem spreadLowW_any (n : Int) (m : Nat) (w : World) (hm : m ≤ 4) :
    Calls Tryz.prog 218 #[.int .u32 n, .int .i64 (m : Int)] w fun e w' => e = .returned (.slice (some ⟨w.heap.size, 0, none⟩) m m) ∧ Blk w' w.heap.size (lowOf n m) ∧ Below w.heap.size w w' := by
  have hmk := run_make_bytes m (by omega)
  go_enter Tryz.func218, Tryz.ntmps218
  go_wp2
  clear hmk
  go_loopw [6, 11] (fun _ i wr => ∃ k : Nat, k ≤ m ∧ i = .int .i64 k ∧ Blk wr w.heap.size (part (lowOf n m) m k) ∧ Below w.heap.size w wr) (fun _ i _ => m - (intOf i).toNat)
  case atStart =>
    refine ⟨0, Nat.zero_le _, rfl, ?_, ab (Below.refl _ _) _⟩
    rw [part_zero]
    have := zero_row w m
    simpa using this
  case round =>
    obtain ⟨k, hk, rfl, hblk, hbel⟩ := hrel
    by_cases hlt : k < m
    · have hpl := part_len (lowOf n m) m k (lowOf_len n m) hk
      have hy := hblk.cell (i := k) (by omega)
      have hz := hblk.frozen k
      have Hs : Hid (n / 2 ^ (8 * k) % 256 = (lowOf n m).getD k 0) := by
        show n / 2 ^ (8 * k) % 256 = (lowOf n m).getD k 0
        rw [lowOf_get n m k hlt, pow8]
      clear hpl
      go_wp2
      refine ⟨⟨k + 1, by omega, by go_num, ?_, hbel.setCell (by simp) _⟩, by simp [intOf]; omega⟩
      rw [← part_set (lowOf n m) m k (lowOf_len n m) hlt, ← Hs.out]
      exact hblk.set_ k _
    · obtain rfl : k = m := by omega
      rw [part_full _ _ (lowOf_len n k)] at hblk
      go_wp2
      go_ret
      exact ⟨rfl, hblk, hbel⟩

/-- a row made with room and nothing in it -/
theorem Row.room (w : World) (k : Nat) (hk : k ≤ 1000000) (t : TypeId) (ht : t = 5) : Row (w.alloc (.cells (zeroB k) t)) w.heap.size (.slice (some ⟨w.heap.size, 0, none⟩) 0 k) [] := by
  subst ht
  exact ⟨By.nil, ⟨by simp, .inr ⟨w.heap.size, k, _, rfl, Nat.le_refl _, heap_alloc_new w _, Nat.zero_le _, by unfold maxLen; omega, by simp [zeroB], by simp⟩⟩⟩

end Go.Proofs.YtabhcolfkkfonaaGreatDoor
