/- The hash, of the model. -/
import Derived.Test.YtabhcolfkkfonaaDoorPadC
import Derived.Test.YtabhcolfkkfonaaDoorShaD
namespace Go.Proofs.YtabhcolfkkfonaaDoor
open Go.RowKit

/-- the words after the first k blocks -/
def chainW (b : List Int) : Nat → List Int
  | 0 => firstWords
  | k + 1 => blockW (chainW b k) ((b.drop (64 * k)).take 64)
theorem blockW_len (H l : List Int) : (blockW H l).length = 8 := by simp [blockW]
theorem blockW_wd (H l : List Int) : Wd (blockW H l) := by
  intro x hx
  simp only [blockW, List.mem_map] at hx
  obtain ⟨i, _, rfl⟩ := hx
  exact addW_bd _ _
theorem chainW_len (b : List Int) (k : Nat) : (chainW b k).length = 8 := by
  cases k with
  | zero => rfl
  | succ k => exact blockW_len _ _
theorem chainW_wd (b : List Int) (k : Nat) : Wd (chainW b k) := by
  cases k with
  | zero => unfold chainW Wd; decide
  | succ k => exact blockW_wd _ _
def outTo (H : List Int) (m : Nat) : List Int := (List.range m).flatMap fun i => (lowOf (H.getD i 0) 4).reverse
theorem outTo_succ (H : List Int) (m : Nat) : outTo H (m + 1) = outTo H m ++ (lowOf (H.getD m 0) 4).reverse := by simp [outTo, List.range_succ, List.flatMap_append]
theorem outTo_len (H : List Int) (m : Nat) : (outTo H m).length = 4 * m := by
  induction m with
  | zero => rfl
  | succ m ih => rw [outTo_succ, List.length_append, ih, List.length_reverse, lowOf_len]; omega
def hashW (l : List Int) : List Int := outTo (chainW (padW l) ((padW l).length / 64)) 8
theorem hashW_len (l : List Int) : (hashW l).length = 32 := outTo_len _ _
theorem Row.cap_ {w : World} {B n c : Nat} {A : Option Addr} {l : List Int} (h : Row w B (.slice A n c) l) : n ≤ c := by
  rcases h.own.2 with ⟨e, _⟩ | ⟨g, cap, cur, e, _, _, hle, _⟩
  · injection e with _ e2 e3
    omega
  · injection e with _ e2 e3
    omega
theorem Row.but {w w' : World} {B p S : Nat} {v : Value} {l : List Int} (h : Row w B v l) (hb : But p S w w') (hp : p < B) (hS : w.heap.size ≤ S) : Row w' B v l :=
  h.keep fun g h1 h2 => hb.block g (by omega) (by omega)

theorem l2Hash_any (A : Option Addr) (n c : Nat) (l : List Int) (w : World) (h : Bs w A n l) (hc : A = none → c = 0) (hn : n ≤ 1000000000) :
    Calls Tryd.prog 41 #[.slice A n c] w fun e w' => (∃ A' c', e = .returned (.slice A' 32 c') ∧ Row w' w.heap.size (.slice A' 32 c') (hashW l)) ∧ Below w.heap.size w w' := by
  have Hn := Lib.hid h.len
  go_enter Tryd.func41, Tryd.ntmps41
  go_wp2_with fail
  refine (l2First_any _).mono ?_
  rintro e w1 ⟨rfl, k1, b1⟩
  have s1 := k1.lt
  go_wp2_with fail
  refine (l2Pad_any _ _ _ _ _ (h.below b1) hc hn).mono ?_
  rintro e w2 ⟨⟨A2, c2, rfl, r2⟩, b2⟩
  have s2 := b2.size
  have hcap := r2.cap_
  have hbs := (r2.ow' rfl).bs
  have hpb := padW_len l
  have hpn := padN_lt l.length
  have hnn := Hn.out
  have hwl := padW_whole l
  have k2 := (k1.below b2 s1).kow
  have Hq : Hid (hashW l = outTo (chainW (padW l) ((padW l).length / 64)) 8) := rfl
  obtain ⟨q, hq⟩ : ∃ q, (padW l).length = 64 * q := ⟨(padW l).length / 64, by omega⟩
  rw [hq, Nat.mul_div_cancel_left q (by omega : 0 < 64)] at Hq
  have hq0 : 0 < q := by omega
  have hqm : q ≤ 1000000000 := by omega
  rw [hq] at hbs hcap r2 ⊢
  generalize padW l = P at *
  clear hpb hpn hnn hwl h k1 
  obtain ⟨g2, off2, rfl, hg2, hcell⟩ := hbs.at_ (by omega)
  clear hcell
  go_wp2
  go_loopw [5] (fun i wr => ∃ k : Nat, k ≤ q ∧ i = .int .i64 (64 * (k : Int)) ∧ KOw .u32 wr w.heap.size (chainW P k) ∧ But w.heap.size w2.heap.size w2 wr) (fun i _ => 64 * q - (intOf i).toNat)
  case atStart => exact ⟨0, by omega, rfl, k2, But.refl _ _ _⟩
  case round =>
    obtain ⟨k, hk, rfl, hkw, hbut⟩ := hrel
    have hsz := hbut.size
    have rk := r2.but hbut (by omega) (Nat.le_refl _)
    by_cases hlt : k < q
    · have hp := (rk.ow' hq).bs.part_ (64 * k) 64 (by omega)
      have hch := chainW_len P k
      have hcw := chainW_wd P k
      go_wp2_with fail
      refine (l2Block_any w.heap.size 8 (c2 - 64 * k) _ (chainW P k) _ wr hkw hch hcw hp (by omega)).mono ?_
      rintro e w4 ⟨rfl, k4, b4⟩
      go_wp2
      exact ⟨⟨k + 1, by omega, by go_num, k4, hbut.trans (b4.mono hsz)⟩, by simp [intOf]; omega⟩
    · obtain rfl : k = q := by omega
      have hcw := chainW_wd P k
      have hch := chainW_len P k
      have B0 : Below w.heap.size w w2 := ac b1 b2
      have Br : Below w.heap.size w wr := B0.trans (hbut.below (by omega) (Nat.le_refl _))
      clear hbs r2 rk hcap
      generalize chainW P k = H at *
      have hH8 : H.length = 8 := hch
      clear hch
      obtain ⟨wh, rfl⟩ : ∃ x, x = wr := ⟨_, rfl⟩
      go_wp2
      go_loopw [6, 7] (fun v i wq => ∃ m : Nat, m ≤ 8 ∧ i = .int .i64 (m : Int) ∧ Row wq wh.heap.size v (outTo H m) ∧ Below wh.heap.size wh wq) (fun _ i _ => 8 - (intOf i).toNat)
      case atStart => exact ⟨0, by omega, rfl, Row.empty wh _ (Nat.le_refl _) rfl, ab (Below.refl _ _) _⟩
      case round =>
        obtain ⟨m, hm, rfl, hrow, hbel⟩ := hrel
        have hol := outTo_len H m
        obtain ⟨A5, c5, rfl, _⟩ := hrow.ow hol
        have hs5 := hbel.size
        have Br2 := Br.trans (hbel.mono (by omega))
        by_cases hlm : m < 8
        · have q0 := (hkw.below hbel (by omega)).cell m (by omega)
          have r0 := hcw.get m
          have Hs := Lib.hid (outTo_succ H m)
          generalize H.getD m 0 = X at *
          obtain ⟨r00, r01⟩ := r0
          have Hol := Lib.hid hol
          clear hcw hol
          go_wp2_with fail
          refine (l1High_any X 4 _ r00 (by omega) (by omega)).mono ?_
          rintro e w6 ⟨⟨A6, c6, rfl, how6⟩, hb6⟩
          have row6 := hrow.keep (w' := w6) (fun g _ h2 => hb6.block g h2)
          have hs6 := hb6.size
          go_wp2_with (at_builtin; refine wpList_row_join rfl _ _ rfl _ wh.heap.size (.slice A5 (4 * m) c5) _ _ rfl row6 (by omega) A6 4 c6 rfl how6.bs (how6.bs.cap_ (by omega)) (by rw [Hol.out]; omega) ?_; intro v7 w7 hr7 hb7 hs7)
          rw [← Hs.out] at hr7
          go_wp2
          exact ⟨⟨m + 1, by omega, by go_num, hr7, (ac hbel hb6).trans hb7⟩, by simp [intOf]; omega⟩
        · obtain rfl : m = 8 := by omega
          go_wp2
          go_ret
          rw [Hq.out]
          exact ⟨⟨A5, c5, rfl, hrow.mono (by omega)⟩, Br2⟩
end Go.Proofs.YtabhcolfkkfonaaDoor
