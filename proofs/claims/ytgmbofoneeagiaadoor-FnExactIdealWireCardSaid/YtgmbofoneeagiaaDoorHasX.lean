import Derived.Test.YtgmbofoneeagiaaDoorBase
import Derived.Test.YtgmbofoneeagiaaDoorShaD

/-! PadC -/
/- A padded message, of the model. -/
namespace Go.Proofs.YtgmbofoneeagiaaDoor
open Go.RowKit

/-- how many zeros stand before the last eight bytes -/
def padN (n : Nat) : Nat := (119 - n % 64) % 64
def padW (l : List Int) : List Int := l ++ [128] ++ List.replicate (padN l.length) 0 ++ [0] ++ (lowOf (8 * (l.length : Int)) 7).reverse
theorem padN_hit (n k : Nat) (hk : k ≤ padN n) : (n + 1 + k) % 64 = 56 ↔ k = padN n := by unfold padN at *; omega
theorem padN_lt (n : Nat) : padN n < 64 := by unfold padN; omega
theorem padW_len (l : List Int) : (padW l).length = l.length + 9 + padN l.length := by simp [padW, lowOf_len]; omega
theorem padW_whole (l : List Int) : (padW l).length % 64 = 0 := by rw [padW_len]; unfold padN; omega
theorem padW_byte (l : List Int) (h : By l) : By (padW l) := by
  have hr : By (lowOf (8 * (l.length : Int)) 7).reverse := fun x hx => lowOf_byte _ _ x (List.mem_reverse.1 hx)
  refine By.append (By.append (By.append (By.append h ?_) ?_) ?_) hr
  · intro x hx; simp at hx; omega
  · intro x hx; have := List.eq_of_mem_replicate hx; omega
  · intro x hx; simp at hx; omega
def lenOf : Value → Nat
  | .slice _ n _ => n
  | _ => 0

theorem l2Pad_any (A : Option Addr) (n c : Nat) (l : List Int) (w : World) (h : Bs w A n l) (hc : A = none → c = 0) (hn : n ≤ 1000000000) :
    Calls Tryd.prog 32 #[.slice A n c] w fun e w' => (∃ A' c', e = .returned (.slice A' (padW l).length c') ∧ Row w' w.heap.size (.slice A' (padW l).length c') (padW l)) ∧ Below w.heap.size w w' := by
  have Hn := Lib.hid h.len
  go_enter Tryd.func32, Tryd.ntmps32
  go_wp2_with fail
  refine (copyb_any _ _ _ _ _ h hc (by omega)).mono ?_
  rintro e w1 ⟨⟨A1, c1, rfl, hr1⟩, hb1⟩
  have hs1 := hb1.size
  go_wp2_with (at_builtin; refine wpList_row_append rfl _ _ rfl _ w.heap.size (.slice A1 n c1) l rfl (hr1.alloc _) (by simp; omega) ⟨w1.heap.size, 0, none⟩ 1 128 rfl (cell_one _ _ _) (by omega) (by omega) (by rw [Hn.out]; omega) ?_; intro v2 w2 hr2 hb2 hs2)
  have Hone := Lib.hid (show (l ++ [128]).length = n + 1 by rw [List.length_append, Hn.out]; rfl)
  have hpl := padN_lt n
  have B2 : Below w.heap.size w w2 := (ab hb1 (.cells #[.int .u8 128] 5)).trans hb2
  have hz2 := B2.size
  have e2 : l ++ [128] = l ++ [128] ++ List.replicate 0 0 := by simp
  rw [e2] at hr2
  clear e2 hb1 hr1 hb2 hs1 hs2 h
  go_loopw [3] (fun v wr => ∃ k : Nat, k ≤ padN n ∧ Row wr w.heap.size v (l ++ [128] ++ List.replicate k 0) ∧ lenOf v = n + 1 + k ∧ Below w.heap.size w wr) (fun v _ => n + 1 + padN n - lenOf v)
  case atStart =>
    refine ⟨0, by omega, hr2, ?_, B2⟩
    obtain ⟨A2, c2, rfl, _⟩ := hr2.ow (n := n + 1) (by rw [List.replicate_zero, List.append_nil]; exact Hone.out)
    rfl
  case round =>
    obtain ⟨k, hk, hrow, hlen, hbel⟩ := hrel
    have hsz := hbel.size
    have hkl : (l ++ [128] ++ List.replicate k 0).length = n + 1 + k := by rw [List.length_append, Hone.out, List.length_replicate]
    have hhit := padN_hit n k hk
    obtain ⟨A3, c3, rfl, how⟩ := hrow.ow hkl
    by_cases hlt : k < padN n
    · have hne : ((n : Int) + 1 + (k : Int)) % 64 ≠ 56 := by omega
      go_wp2_with (at_builtin; refine wpList_row_append rfl _ _ rfl _ w.heap.size (.slice A3 (n + 1 + k) c3) _ rfl (hrow.alloc _) (by simp; omega) ⟨wr.heap.size, 0, none⟩ 1 0 rfl (cell_one _ _ _) (by omega) (by omega) (by rw [hkl]; omega) ?_; intro v4 w4 hr4 hb4 hs4)
      rw [List.append_assoc, show List.replicate k (0 : Int) ++ [0] = List.replicate (k + 1) 0 from List.replicate_succ'.symm] at hr4
      obtain ⟨A4, c4, rfl, _⟩ := hr4.ow (n := n + 1 + (k + 1)) (by rw [List.length_append, Hone.out, List.length_replicate])
      go_wp2
      refine ⟨⟨k + 1, by omega, hr4, rfl, (ab hbel _).trans hb4⟩, by simp [lenOf]; omega⟩
    · obtain rfl : k = padN n := by omega
      have he : ((n : Int) + 1 + (padN n : Int)) % 64 = 56 := by omega
      go_wp2_with (at_builtin; refine wpList_row_append rfl _ _ rfl _ w.heap.size (.slice A3 (n + 1 + padN n) c3) _ rfl (hrow.alloc _) (by simp; omega) ⟨wr.heap.size, 0, none⟩ 1 0 rfl (cell_one _ _ _) (by omega) (by omega) (by rw [hkl]; omega) ?_; intro v5 w5 hr5 hb5 hs5)
      refine (l1High_any (8 * (n : Int)) 7 _ (by omega) (by omega) (by omega)).mono ?_
      rintro e w6 ⟨⟨A6, c6, rfl, how6⟩, hb6⟩
      have row6 := hr5.keep (w' := w6) (fun g _ h2 => hb6.block g h2)
      have hl5 : (l ++ [128] ++ List.replicate (padN n) 0 ++ [0]).length = n + 1 + padN n + 1 := by rw [List.length_append, hkl]; rfl
      have hs6 := hb6.size
      have B5 := ((ab hbel (.cells #[.int .u8 0] 5)).trans hb5)
      have hz5 := B5.size
      have B6 := ac B5 hb6
      have Hp : Hid (padW l = l ++ [128] ++ List.replicate (padN n) 0 ++ [0] ++ (lowOf (8 * (n : Int)) 7).reverse) := by
        show padW l = _
        unfold padW; rw [Hn.out]
      go_wp2_with (at_builtin; refine wpList_row_join rfl _ _ rfl _ w.heap.size v5 _ _ rfl row6 (by omega) A6 7 c6 rfl how6.bs (how6.bs.cap_ (by omega)) (by rw [hl5]; omega) ?_; intro v7 w7 hr7 hb7 hs7)
      rw [← Hp.out] at hr7
      obtain ⟨A7, c7, rfl, _⟩ := hr7.ow rfl
      go_ret
      exact ⟨⟨A7, c7, rfl, hr7⟩, B6.trans hb7⟩
end Go.Proofs.YtgmbofoneeagiaaDoor

/-! HashC -/
/- The hash, of the model. -/
namespace Go.Proofs.YtgmbofoneeagiaaDoor
open Go.RowKit

/-- the words after the first k blocks -/
def chainW (b : List Int) : Nat → List Int
  | 0 => firstWords
  | k + 1 => blockW (chainW b k) ((b.drop (64 * k)).take 64)
theorem blockW_len (H l : List Int) : (blockW H l).length = 8 := by simp [blockW]
theorem blockW_wd (H l : List Int) : Wd (blockW H l) := by
  intro x hx
  simp only [blockW, List.mem_map] at hx
  obtain ⟨i, _, rfl⟩ := hx
  exact addW_bd _ _
theorem chainW_len (b : List Int) (k : Nat) : (chainW b k).length = 8 := by
  cases k with
  | zero => rfl
  | succ k => exact blockW_len _ _
theorem chainW_wd (b : List Int) (k : Nat) : Wd (chainW b k) := by
  cases k with
  | zero => unfold chainW Wd; decide
  | succ k => exact blockW_wd _ _
def outTo (H : List Int) (m : Nat) : List Int := (List.range m).flatMap fun i => (lowOf (H.getD i 0) 4).reverse
theorem outTo_succ (H : List Int) (m : Nat) : outTo H (m + 1) = outTo H m ++ (lowOf (H.getD m 0) 4).reverse := by simp [outTo, List.range_succ, List.flatMap_append]
theorem outTo_len (H : List Int) (m : Nat) : (outTo H m).length = 4 * m := by
  induction m with
  | zero => rfl
  | succ m ih => rw [outTo_succ, List.length_append, ih, List.length_reverse, lowOf_len]; omega
def hashW (l : List Int) : List Int := outTo (chainW (padW l) ((padW l).length / 64)) 8
theorem hashW_len (l : List Int) : (hashW l).length = 32 := outTo_len _ _
theorem Row.cap_ {w : World} {B n c : Nat} {A : Option Addr} {l : List Int} (h : Row w B (.slice A n c) l) : n ≤ c := by
  rcases h.own.2 with ⟨e, _⟩ | ⟨g, cap, cur, e, _, _, hle, _⟩
  · injection e with _ e2 e3
    omega
  · injection e with _ e2 e3
    omega
theorem Row.but {w w' : World} {B p S : Nat} {v : Value} {l : List Int} (h : Row w B v l) (hb : But p S w w') (hp : p < B) (hS : w.heap.size ≤ S) : Row w' B v l :=
  h.keep fun g h1 h2 => hb.block g (by omega) (by omega)

theorem l2Hash_any (A : Option Addr) (n c : Nat) (l : List Int) (w : World) (h : Bs w A n l) (hc : A = none → c = 0) (hn : n ≤ 1000000000) :
    Calls Tryd.prog 23 #[.slice A n c] w fun e w' => (∃ A' c', e = .returned (.slice A' 32 c') ∧ Row w' w.heap.size (.slice A' 32 c') (hashW l)) ∧ Below w.heap.size w w' := by
  have Hn := Lib.hid h.len
  go_enter Tryd.func23, Tryd.ntmps23
  go_wp2_with fail
  refine (l2First_any _).mono ?_
  rintro e w1 ⟨rfl, k1, b1⟩
  have s1 := k1.lt
  go_wp2_with fail
  refine (l2Pad_any _ _ _ _ _ (h.below b1) hc hn).mono ?_
  rintro e w2 ⟨⟨A2, c2, rfl, r2⟩, b2⟩
  have s2 := b2.size
  have hcap := r2.cap_
  have hbs := (r2.ow' rfl).bs
  have hpb := padW_len l
  have hpn := padN_lt l.length
  have hnn := Hn.out
  have hwl := padW_whole l
  have k2 := (k1.below b2 s1).kow
  have Hq : Hid (hashW l = outTo (chainW (padW l) ((padW l).length / 64)) 8) := rfl
  obtain ⟨q, hq⟩ : ∃ q, (padW l).length = 64 * q := ⟨(padW l).length / 64, by omega⟩
  rw [hq, Nat.mul_div_cancel_left q (by omega : 0 < 64)] at Hq
  have hq0 : 0 < q := by omega
  have hqm : q ≤ 1000000000 := by omega
  rw [hq] at hbs hcap r2 ⊢
  generalize padW l = P at *
  clear hpb hpn hnn hwl h k1 
  obtain ⟨g2, off2, rfl, hg2, hcell⟩ := hbs.at_ (by omega)
  clear hcell
  go_wp2
  go_loopw [5] (fun i wr => ∃ k : Nat, k ≤ q ∧ i = .int .i64 (64 * (k : Int)) ∧ KOw .u32 wr w.heap.size (chainW P k) ∧ But w.heap.size w2.heap.size w2 wr) (fun i _ => 64 * q - (intOf i).toNat)
  case atStart => exact ⟨0, by omega, rfl, k2, But.refl _ _ _⟩
  case round =>
    obtain ⟨k, hk, rfl, hkw, hbut⟩ := hrel
    have hsz := hbut.size
    have rk := r2.but hbut (by omega) (Nat.le_refl _)
    by_cases hlt : k < q
    · have hp := (rk.ow' hq).bs.part_ (64 * k) 64 (by omega)
      have hch := chainW_len P k
      have hcw := chainW_wd P k
      go_wp2_with fail
      refine (l2Block_any w.heap.size 8 (c2 - 64 * k) _ (chainW P k) _ wr hkw hch hcw hp (by omega)).mono ?_
      rintro e w4 ⟨rfl, k4, b4⟩
      go_wp2
      exact ⟨⟨k + 1, by omega, by go_num, k4, hbut.trans (b4.mono hsz)⟩, by simp [intOf]; omega⟩
    · obtain rfl : k = q := by omega
      have hcw := chainW_wd P k
      have hch := chainW_len P k
      have B0 : Below w.heap.size w w2 := ac b1 b2
      have Br : Below w.heap.size w wr := B0.trans (hbut.below (by omega) (Nat.le_refl _))
      clear hbs r2 rk hcap
      generalize chainW P k = H at *
      have hH8 : H.length = 8 := hch
      clear hch
      obtain ⟨wh, rfl⟩ : ∃ x, x = wr := ⟨_, rfl⟩
      go_wp2
      go_loopw [6, 7] (fun v i wq => ∃ m : Nat, m ≤ 8 ∧ i = .int .i64 (m : Int) ∧ Row wq wh.heap.size v (outTo H m) ∧ Below wh.heap.size wh wq) (fun _ i _ => 8 - (intOf i).toNat)
      case atStart => exact ⟨0, by omega, rfl, Row.empty wh _ (Nat.le_refl _) rfl, ab (Below.refl _ _) _⟩
      case round =>
        obtain ⟨m, hm, rfl, hrow, hbel⟩ := hrel
        have hol := outTo_len H m
        obtain ⟨A5, c5, rfl, _⟩ := hrow.ow hol
        have hs5 := hbel.size
        have Br2 := Br.trans (hbel.mono (by omega))
        by_cases hlm : m < 8
        · have q0 := (hkw.below hbel (by omega)).cell m (by omega)
          have r0 := hcw.get m
          have Hs := Lib.hid (outTo_succ H m)
          generalize H.getD m 0 = X at *
          obtain ⟨r00, r01⟩ := r0
          have Hol := Lib.hid hol
          clear hcw hol
          go_wp2_with fail
          refine (l1High_any X 4 _ r00 (by omega) (by omega)).mono ?_
          rintro e w6 ⟨⟨A6, c6, rfl, how6⟩, hb6⟩
          have row6 := hrow.keep (w' := w6) (fun g _ h2 => hb6.block g h2)
          have hs6 := hb6.size
          go_wp2_with (at_builtin; refine wpList_row_join rfl _ _ rfl _ wh.heap.size (.slice A5 (4 * m) c5) _ _ rfl row6 (by omega) A6 4 c6 rfl how6.bs (how6.bs.cap_ (by omega)) (by rw [Hol.out]; omega) ?_; intro v7 w7 hr7 hb7 hs7)
          rw [← Hs.out] at hr7
          go_wp2
          exact ⟨⟨m + 1, by omega, by go_num, hr7, (ac hbel hb6).trans hb7⟩, by simp [intOf]; omega⟩
        · obtain rfl : m = 8 := by omega
          go_wp2
          go_ret
          rw [Hq.out]
          exact ⟨⟨A5, c5, rfl, hrow.mono (by omega)⟩, Br2⟩
end Go.Proofs.YtgmbofoneeagiaaDoor
