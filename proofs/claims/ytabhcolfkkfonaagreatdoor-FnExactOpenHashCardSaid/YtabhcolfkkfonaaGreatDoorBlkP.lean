/- A block of the stream, of the program (gen_blk.py). -/
import Derived.Test.YtabhcolfkkfonaaGreatDoorBegP
import Derived.Test.YtabhcolfkkfonaaGreatDoorMdlX
import Derived.Laws.Rows
import Derived.Laws.Tables
namespace Go.Proofs.YtabhcolfkkfonaaGreatDoor
open Go.RowKit

def quarterCells : Array Value := #[.int .i64 0, .int .i64 4, .int .i64 8, .int .i64 12, .int .i64 1, .int .i64 5, .int .i64 9, .int .i64 13, .int .i64 2, .int .i64 6, .int .i64 10, .int .i64 14, .int .i64 3, .int .i64 7, .int .i64 11, .int .i64 15, .int .i64 0, .int .i64 5, .int .i64 10, .int .i64 15, .int .i64 1, .int .i64 6, .int .i64 11, .int .i64 12, .int .i64 2, .int .i64 7, .int .i64 8, .int .i64 13, .int .i64 3, .int .i64 4, .int .i64 9, .int .i64 14]
/-- the places of the quarter rounds lie as the program's text lays them -/
def Quar (w : World) : Prop := ∃ t f, w.heap[4]? = some (.cells quarterCells t f)
theorem Quar.keep {w w' : World} (h : Quar w) (hb : Below w.heap.size w w') : Quar w' := by
  obtain ⟨t, f, h1⟩ := h
  exact ⟨t, f, (hb.block _ (Array.getElem?_eq_some_iff.1 h1).1).trans h1⟩
theorem Quar.at {w w' : World} {B : Nat} (h : Quar w) (hb : Below B w w') (hB : w.heap.size ≤ B) : Quar w' := h.keep (hb.mono hB)

def mixV (V : List Int) (k : Nat) : List Int := if k ≤ 4 then colsV V k else diagV (colsV V 4) (k - 4)
theorem mixV_len (V : List Int) (k : Nat) (h : V.length = 16) : (mixV V k).length = 16 := by
  unfold mixV
  split
  · rw [colsV_len, h]
  · rw [diagV_len, colsV_len, h]

theorem idx16 (cs : Array Value) (t : Nat) (x : Int) (hc : cs[t]? = some (.int .u32 x)) (ht : t < 16) (w : World) :
    (Instr.index 206 (.agg cs) (.int .i64 (t : Int))).run Tryz.prog w = .ok (.int .u32 x) w := by
  obtain ⟨i, hi, hz0, hz1, hz2⟩ := info_parts info_u32
  simp [Instr.index, run_underlying Tryz.underlying206, asIntOf, isAgg, run_underlying Tryz.underlying158, Go.sizeOf, typeInfo, hi, hz1, hc, go_sem]
  intro h; omega

set_option maxRecDepth 100000 in
set_option maxHeartbeats 8000000 in
theorem streamBlock_any (b off c b2 off2 c2 : Nat) (key nonce : List Int) (n : Int) (w : World) (hT : Quar w) (hk : Bs w (some ⟨b, off, none⟩) 32 key) (hc : 32 ≤ c) (hn : Bs w (some ⟨b2, off2, none⟩) 12 nonce) (hc2 : 12 ≤ c2) (h0 : 0 ≤ n ∧ n < 4294967296) :
    Calls Tryz.prog 196 #[.slice (some ⟨b, off, none⟩) 32 c, .int .u32 n, .slice (some ⟨b2, off2, none⟩) 12 c2] w fun e w' =>
      (∃ A c', e = .returned (.slice A 64 c') ∧ Row w' w.heap.size (.slice A 64 c') (keyBlock key n nonce)) ∧ Below w.heap.size w w' := by
  have G := Shut.mk (fun W (hW : Bs W (some ⟨b, off, none⟩) 32 key) (hW2 : Bs W (some ⟨b2, off2, none⟩) 12 nonce) => streamStart_any b off c b2 off2 c2 key nonce n W hW hc hW2 hc2 h0)
  have HF : Shut (keyBlock key n nonce = mixBytes (turnsV (startW key n nonce) 10) (startW key n nonce) 16) := ⟨rfl⟩
  have hl := startW_len key n nonce
  have HB := Shut.mk (keyBlock_len key n nonce)
  generalize keyBlock key n nonce = KB_ at *
  generalize startW key n nonce = ST at *
  obtain ⟨a0, a1, a2, a3, a4, a5, a6, a7, a8, a9, a10, a11, a12, a13, a14, a15, rfl⟩ := list16 ST hl
  go_enter Tryz.func196, Tryz.ntmps196
  go_wp2_with fail
  refine (G.out _ hk hn).mono ?_
  rintro e w1 ⟨rfl, b1⟩
  have T1 := hT.keep b1
  clear G hk hn hc hc2 h0 hl hT
  go_wp2_with (refine wpList_load_row rfl 206 (.tmp 7) rfl w1.heap.size rfl 206 _ (0, 0) _ (heap_alloc_new w1 _) Tryz.underlying206 rfl (by kernel_rfl) ?_)
  have k0 : KB .u32 206 (w1.alloc (.cells #[.int .u32 a0, .int .u32 a1, .int .u32 a2, .int .u32 a3, .int .u32 a4, .int .u32 a5, .int .u32 a6, .int .u32 a7, .int .u32 a8, .int .u32 a9, .int .u32 a10, .int .u32 a11, .int .u32 a12, .int .u32 a13, .int .u32 a14, .int .u32 a15] 206)) w1.heap.size [a0, a1, a2, a3, a4, a5, a6, a7, a8, a9, a10, a11, a12, a13, a14, a15] := KB.new (t := 206) w1 [a0, a1, a2, a3, a4, a5, a6, a7, a8, a9, a10, a11, a12, a13, a14, a15] _ rfl
  have k1 : KB .u32 206 ((w1.alloc (.cells #[.int .u32 a0, .int .u32 a1, .int .u32 a2, .int .u32 a3, .int .u32 a4, .int .u32 a5, .int .u32 a6, .int .u32 a7, .int .u32 a8, .int .u32 a9, .int .u32 a10, .int .u32 a11, .int .u32 a12, .int .u32 a13, .int .u32 a14, .int .u32 a15] 206)).alloc (.cells #[.int .u32 a0, .int .u32 a1, .int .u32 a2, .int .u32 a3, .int .u32 a4, .int .u32 a5, .int .u32 a6, .int .u32 a7, .int .u32 a8, .int .u32 a9, .int .u32 a10, .int .u32 a11, .int .u32 a12, .int .u32 a13, .int .u32 a14, .int .u32 a15] 206)) w1.heap.size [a0, a1, a2, a3, a4, a5, a6, a7, a8, a9, a10, a11, a12, a13, a14, a15] := k0.alloc _
  have m1 : KB .u32 206 ((w1.alloc (.cells #[.int .u32 a0, .int .u32 a1, .int .u32 a2, .int .u32 a3, .int .u32 a4, .int .u32 a5, .int .u32 a6, .int .u32 a7, .int .u32 a8, .int .u32 a9, .int .u32 a10, .int .u32 a11, .int .u32 a12, .int .u32 a13, .int .u32 a14, .int .u32 a15] 206)).alloc (.cells #[.int .u32 a0, .int .u32 a1, .int .u32 a2, .int .u32 a3, .int .u32 a4, .int .u32 a5, .int .u32 a6, .int .u32 a7, .int .u32 a8, .int .u32 a9, .int .u32 a10, .int .u32 a11, .int .u32 a12, .int .u32 a13, .int .u32 a14, .int .u32 a15] 206)) (w1.heap.size + 1) [a0, a1, a2, a3, a4, a5, a6, a7, a8, a9, a10, a11, a12, a13, a14, a15] := by
    have := KB.new (k := .u32) (t := 206) (w1.alloc (.cells #[.int .u32 a0, .int .u32 a1, .int .u32 a2, .int .u32 a3, .int .u32 a4, .int .u32 a5, .int .u32 a6, .int .u32 a7, .int .u32 a8, .int .u32 a9, .int .u32 a10, .int .u32 a11, .int .u32 a12, .int .u32 a13, .int .u32 a14, .int .u32 a15] 206)) [a0, a1, a2, a3, a4, a5, a6, a7, a8, a9, a10, a11, a12, a13, a14, a15] _ rfl
    rwa [World.size_alloc] at this
  have B2 := ab (ab (ac (Below.refl _ w) b1) (.cells #[.int .u32 a0, .int .u32 a1, .int .u32 a2, .int .u32 a3, .int .u32 a4, .int .u32 a5, .int .u32 a6, .int .u32 a7, .int .u32 a8, .int .u32 a9, .int .u32 a10, .int .u32 a11, .int .u32 a12, .int .u32 a13, .int .u32 a14, .int .u32 a15] 206)) (.cells #[.int .u32 a0, .int .u32 a1, .int .u32 a2, .int .u32 a3, .int .u32 a4, .int .u32 a5, .int .u32 a6, .int .u32 a7, .int .u32 a8, .int .u32 a9, .int .u32 a10, .int .u32 a11, .int .u32 a12, .int .u32 a13, .int .u32 a14, .int .u32 a15] 206)
  have T2 : Quar ((w1.alloc (.cells #[.int .u32 a0, .int .u32 a1, .int .u32 a2, .int .u32 a3, .int .u32 a4, .int .u32 a5, .int .u32 a6, .int .u32 a7, .int .u32 a8, .int .u32 a9, .int .u32 a10, .int .u32 a11, .int .u32 a12, .int .u32 a13, .int .u32 a14, .int .u32 a15] 206)).alloc (.cells #[.int .u32 a0, .int .u32 a1, .int .u32 a2, .int .u32 a3, .int .u32 a4, .int .u32 a5, .int .u32 a6, .int .u32 a7, .int .u32 a8, .int .u32 a9, .int .u32 a10, .int .u32 a11, .int .u32 a12, .int .u32 a13, .int .u32 a14, .int .u32 a15] 206)) := T1.keep (ab (ab (Below.refl _ w1) _) _)
  have z2 : w1.heap.size + 2 ≤ ((w1.alloc (.cells #[.int .u32 a0, .int .u32 a1, .int .u32 a2, .int .u32 a3, .int .u32 a4, .int .u32 a5, .int .u32 a6, .int .u32 a7, .int .u32 a8, .int .u32 a9, .int .u32 a10, .int .u32 a11, .int .u32 a12, .int .u32 a13, .int .u32 a14, .int .u32 a15] 206)).alloc (.cells #[.int .u32 a0, .int .u32 a1, .int .u32 a2, .int .u32 a3, .int .u32 a4, .int .u32 a5, .int .u32 a6, .int .u32 a7, .int .u32 a8, .int .u32 a9, .int .u32 a10, .int .u32 a11, .int .u32 a12, .int .u32 a13, .int .u32 a14, .int .u32 a15] 206)).heap.size := by simp
  have hzw : w.heap.size ≤ w1.heap.size := b1.size
  have hgp : 4 < w1.heap.size := by
    obtain ⟨_, _, h1⟩ := T1
    exact (Array.getElem?_eq_some_iff.1 h1).1
  generalize (w1.alloc (.cells #[.int .u32 a0, .int .u32 a1, .int .u32 a2, .int .u32 a3, .int .u32 a4, .int .u32 a5, .int .u32 a6, .int .u32 a7, .int .u32 a8, .int .u32 a9, .int .u32 a10, .int .u32 a11, .int .u32 a12, .int .u32 a13, .int .u32 a14, .int .u32 a15] 206)).alloc (.cells #[.int .u32 a0, .int .u32 a1, .int .u32 a2, .int .u32 a3, .int .u32 a4, .int .u32 a5, .int .u32 a6, .int .u32 a7, .int .u32 a8, .int .u32 a9, .int .u32 a10, .int .u32 a11, .int .u32 a12, .int .u32 a13, .int .u32 a14, .int .u32 a15] 206) = w2 at *
  generalize w1.heap.size = p at *
  have HS : Shut (([a0, a1, a2, a3, a4, a5, a6, a7, a8, a9, a10, a11, a12, a13, a14, a15] : List Int).length = 16) := ⟨rfl⟩
  have HR := Shut.mk (fun t => (turnsV_len [a0, a1, a2, a3, a4, a5, a6, a7, a8, a9, a10, a11, a12, a13, a14, a15] t).trans HS.out)
  have m2 : KOw .u32 w2 (p + 1) (turnsV [a0, a1, a2, a3, a4, a5, a6, a7, a8, a9, a10, a11, a12, a13, a14, a15] 0) := m1.kow
  have k2 := k1.kow
  clear k0 k1 m1 T1 b1
  obtain ⟨S0, hS0⟩ : ∃ S : List Int, [a0, a1, a2, a3, a4, a5, a6, a7, a8, a9, a10, a11, a12, a13, a14, a15] = S := ⟨_, rfl⟩
  rw [hS0] at HF HS HR m2 k2
  have HSE := Shut.mk hS0
  clear hS0
  go_loopw [19] (fun i wr => ∃ t : Nat, t ≤ 10 ∧ i = .int .i64 (t : Int) ∧ KOw .u32 wr (p + 1) (turnsV S0 t) ∧ KOw .u32 wr p S0 ∧ Quar wr ∧ p + 2 ≤ wr.heap.size ∧ Below w.heap.size w wr) (fun i _ => 10 - (intOf i).toNat)
  case atStart => exact ⟨0, by omega, rfl, m2, k2, T2, z2, B2⟩
  case round =>
    clear m2 k2 T2 z2 B2
    obtain ⟨t, ht, rfl, m2, k2, T2, z2, B2⟩ := hrel
    by_cases hlt : t < 10
    · obtain ⟨wh, rfl⟩ : ∃ x, x = wr := ⟨_, rfl⟩
      have hVl := HR.out t
      have Hn : Shut (turnsV S0 (t + 1) = mixV (turnsV S0 t) 8) := ⟨rfl⟩
      have m3 : KOw .u32 wh (p + 1) (mixV (turnsV S0 t) 0) := m2
      have hd : decide ((t : Int) < 10) = true := by simp; omega
      generalize turnsV S0 t = V at *
      have HML := Shut.mk (fun k => mixV_len V k hVl)
      obtain ⟨tq, fq, hq⟩ := T2
      have Hq := Shut.mk hq
      have T3 : Quar wh := ⟨tq, fq, hq⟩
      clear hVl m2 hq
      go_wp2_with (refine wpList_load_row rfl 209 (.global 4) rfl 4 rfl tq quarterCells fq _ Hq.out Tryz.underlying209 rfl (by kernel_rfl) ?_)
      go_loopw [22] (fun j wq => ∃ k : Nat, k ≤ 8 ∧ j = .int .i64 (k : Int) ∧ KOw .u32 wq (p + 1) (mixV V k) ∧ KOw .u32 wq p S0 ∧ Quar wq ∧ p + 2 ≤ wq.heap.size ∧ Below w.heap.size w wq) (fun i _ => 8 - (intOf i).toNat)
      case atStart => exact ⟨0, by omega, rfl, m3, k2, T3, z2, B2⟩
      case round =>
        clear m3 k2 T3 z2 B2
        obtain ⟨k, hk8, rfl, m2, k2, T2, z2, B2⟩ := hrel
        by_cases hlk : k < 8
        · have e8 : k = 0 ∨ k = 1 ∨ k = 2 ∨ k = 3 ∨ k = 4 ∨ k = 5 ∨ k = 6 ∨ k = 7 := by omega
          rcases e8 with rfl | rfl | rfl | rfl | rfl | rfl | rfl | rfl
          · have hi : ∀ W : World, (Instr.index 209 (.agg quarterCells) (.int .i64 0)).run Tryz.prog W = .ok (.agg #[.int .i64 0, .int .i64 4, .int .i64 8, .int .i64 12]) W := fun _ => by kernel_rfl
            have hml := HML.out 0
            have HX : Shut (mixV V 1 = qr (mixV V 0) 0 4 8 12) := ⟨rfl⟩
            generalize mixV V 0 = L at *
            have m3 := m2.below (ab (Below.refl _ wr) (.cells #[.int .i64 0, .int .i64 4, .int .i64 8, .int .i64 12] 208)) m2.lt
            have k3 := k2.below (ab (Below.refl _ wr) (.cells #[.int .i64 0, .int .i64 4, .int .i64 8, .int .i64 12] 208)) k2.lt
            have B3 := ab B2 (.cells #[.int .i64 0, .int .i64 4, .int .i64 8, .int .i64 12] 208)
            have T3 : Quar (wr.alloc (.cells #[.int .i64 0, .int .i64 4, .int .i64 8, .int .i64 12] 208)) := T2.keep (ab (Below.refl _ wr) _)
            have z3 : p + 2 ≤ (wr.alloc (.cells #[.int .i64 0, .int .i64 4, .int .i64 8, .int .i64 12] 208)).heap.size := by simp; omega
            clear T2 m2 k2 B2
            go_wp2_with fail
            refine (quarter_any (p + 1) L 0 4 8 12 _ m3 hml (by omega) (by omega) (by omega) (by omega) (by omega) (by omega) (by omega) (by omega) (by omega) (by omega)).mono ?_
            rintro e w4 ⟨rfl, m4, b4⟩
            have k4 := k3.keep (b4.block _ (by omega) (by omega)) b4.size
            have B4 := B3.trans (b4.below (by omega) (by omega))
            have z4 := Nat.le_trans z3 b4.size
            have T4 : Quar w4 := by
              obtain ⟨t1, f1, h1⟩ := T3
              exact ⟨t1, f1, (b4.block _ (Array.getElem?_eq_some_iff.1 h1).1 (by first | (simp; done) | (simp; omega))).trans h1⟩
            rw [← HX.out] at m4
            clear m3 k3 B3 T3 b4 hml
            go_wp2
            exact ⟨⟨1, by omega, by go_num, m4, k4, T4, z4, B4⟩, by simp [intOf]⟩
          · have hi : ∀ W : World, (Instr.index 209 (.agg quarterCells) (.int .i64 1)).run Tryz.prog W = .ok (.agg #[.int .i64 1, .int .i64 5, .int .i64 9, .int .i64 13]) W := fun _ => by kernel_rfl
            have hml := HML.out 1
            have HX : Shut (mixV V 2 = qr (mixV V 1) 1 5 9 13) := ⟨rfl⟩
            generalize mixV V 1 = L at *
            have m3 := m2.below (ab (Below.refl _ wr) (.cells #[.int .i64 1, .int .i64 5, .int .i64 9, .int .i64 13] 208)) m2.lt
            have k3 := k2.below (ab (Below.refl _ wr) (.cells #[.int .i64 1, .int .i64 5, .int .i64 9, .int .i64 13] 208)) k2.lt
            have B3 := ab B2 (.cells #[.int .i64 1, .int .i64 5, .int .i64 9, .int .i64 13] 208)
            have T3 : Quar (wr.alloc (.cells #[.int .i64 1, .int .i64 5, .int .i64 9, .int .i64 13] 208)) := T2.keep (ab (Below.refl _ wr) _)
            have z3 : p + 2 ≤ (wr.alloc (.cells #[.int .i64 1, .int .i64 5, .int .i64 9, .int .i64 13] 208)).heap.size := by simp; omega
            clear T2 m2 k2 B2
            go_wp2_with fail
            refine (quarter_any (p + 1) L 1 5 9 13 _ m3 hml (by omega) (by omega) (by omega) (by omega) (by omega) (by omega) (by omega) (by omega) (by omega) (by omega)).mono ?_
            rintro e w4 ⟨rfl, m4, b4⟩
            have k4 := k3.keep (b4.block _ (by omega) (by omega)) b4.size
            have B4 := B3.trans (b4.below (by omega) (by omega))
            have z4 := Nat.le_trans z3 b4.size
            have T4 : Quar w4 := by
              obtain ⟨t1, f1, h1⟩ := T3
              exact ⟨t1, f1, (b4.block _ (Array.getElem?_eq_some_iff.1 h1).1 (by first | (simp; done) | (simp; omega))).trans h1⟩
            rw [← HX.out] at m4
            clear m3 k3 B3 T3 b4 hml
            go_wp2
            exact ⟨⟨2, by omega, by go_num, m4, k4, T4, z4, B4⟩, by simp [intOf]⟩
          · have hi : ∀ W : World, (Instr.index 209 (.agg quarterCells) (.int .i64 2)).run Tryz.prog W = .ok (.agg #[.int .i64 2, .int .i64 6, .int .i64 10, .int .i64 14]) W := fun _ => by kernel_rfl
            have hml := HML.out 2
            have HX : Shut (mixV V 3 = qr (mixV V 2) 2 6 10 14) := ⟨rfl⟩
            generalize mixV V 2 = L at *
            have m3 := m2.below (ab (Below.refl _ wr) (.cells #[.int .i64 2, .int .i64 6, .int .i64 10, .int .i64 14] 208)) m2.lt
            have k3 := k2.below (ab (Below.refl _ wr) (.cells #[.int .i64 2, .int .i64 6, .int .i64 10, .int .i64 14] 208)) k2.lt
            have B3 := ab B2 (.cells #[.int .i64 2, .int .i64 6, .int .i64 10, .int .i64 14] 208)
            have T3 : Quar (wr.alloc (.cells #[.int .i64 2, .int .i64 6, .int .i64 10, .int .i64 14] 208)) := T2.keep (ab (Below.refl _ wr) _)
            have z3 : p + 2 ≤ (wr.alloc (.cells #[.int .i64 2, .int .i64 6, .int .i64 10, .int .i64 14] 208)).heap.size := by simp; omega
            clear T2 m2 k2 B2
            go_wp2_with fail
            refine (quarter_any (p + 1) L 2 6 10 14 _ m3 hml (by omega) (by omega) (by omega) (by omega) (by omega) (by omega) (by omega) (by omega) (by omega) (by omega)).mono ?_
            rintro e w4 ⟨rfl, m4, b4⟩
            have k4 := k3.keep (b4.block _ (by omega) (by omega)) b4.size
            have B4 := B3.trans (b4.below (by omega) (by omega))
            have z4 := Nat.le_trans z3 b4.size
            have T4 : Quar w4 := by
              obtain ⟨t1, f1, h1⟩ := T3
              exact ⟨t1, f1, (b4.block _ (Array.getElem?_eq_some_iff.1 h1).1 (by first | (simp; done) | (simp; omega))).trans h1⟩
            rw [← HX.out] at m4
            clear m3 k3 B3 T3 b4 hml
            go_wp2
            exact ⟨⟨3, by omega, by go_num, m4, k4, T4, z4, B4⟩, by simp [intOf]⟩
          · have hi : ∀ W : World, (Instr.index 209 (.agg quarterCells) (.int .i64 3)).run Tryz.prog W = .ok (.agg #[.int .i64 3, .int .i64 7, .int .i64 11, .int .i64 15]) W := fun _ => by kernel_rfl
            have hml := HML.out 3
            have HX : Shut (mixV V 4 = qr (mixV V 3) 3 7 11 15) := ⟨rfl⟩
            generalize mixV V 3 = L at *
            have m3 := m2.below (ab (Below.refl _ wr) (.cells #[.int .i64 3, .int .i64 7, .int .i64 11, .int .i64 15] 208)) m2.lt
            have k3 := k2.below (ab (Below.refl _ wr) (.cells #[.int .i64 3, .int .i64 7, .int .i64 11, .int .i64 15] 208)) k2.lt
            have B3 := ab B2 (.cells #[.int .i64 3, .int .i64 7, .int .i64 11, .int .i64 15] 208)
            have T3 : Quar (wr.alloc (.cells #[.int .i64 3, .int .i64 7, .int .i64 11, .int .i64 15] 208)) := T2.keep (ab (Below.refl _ wr) _)
            have z3 : p + 2 ≤ (wr.alloc (.cells #[.int .i64 3, .int .i64 7, .int .i64 11, .int .i64 15] 208)).heap.size := by simp; omega
            clear T2 m2 k2 B2
            go_wp2_with fail
            refine (quarter_any (p + 1) L 3 7 11 15 _ m3 hml (by omega) (by omega) (by omega) (by omega) (by omega) (by omega) (by omega) (by omega) (by omega) (by omega)).mono ?_
            rintro e w4 ⟨rfl, m4, b4⟩
            have k4 := k3.keep (b4.block _ (by omega) (by omega)) b4.size
            have B4 := B3.trans (b4.below (by omega) (by omega))
            have z4 := Nat.le_trans z3 b4.size
            have T4 : Quar w4 := by
              obtain ⟨t1, f1, h1⟩ := T3
              exact ⟨t1, f1, (b4.block _ (Array.getElem?_eq_some_iff.1 h1).1 (by first | (simp; done) | (simp; omega))).trans h1⟩
            rw [← HX.out] at m4
            clear m3 k3 B3 T3 b4 hml
            go_wp2
            exact ⟨⟨4, by omega, by go_num, m4, k4, T4, z4, B4⟩, by simp [intOf]⟩
          · have hi : ∀ W : World, (Instr.index 209 (.agg quarterCells) (.int .i64 4)).run Tryz.prog W = .ok (.agg #[.int .i64 0, .int .i64 5, .int .i64 10, .int .i64 15]) W := fun _ => by kernel_rfl
            have hml := HML.out 4
            have HX : Shut (mixV V 5 = qr (mixV V 4) 0 5 10 15) := ⟨rfl⟩
            generalize mixV V 4 = L at *
            have m3 := m2.below (ab (Below.refl _ wr) (.cells #[.int .i64 0, .int .i64 5, .int .i64 10, .int .i64 15] 208)) m2.lt
            have k3 := k2.below (ab (Below.refl _ wr) (.cells #[.int .i64 0, .int .i64 5, .int .i64 10, .int .i64 15] 208)) k2.lt
            have B3 := ab B2 (.cells #[.int .i64 0, .int .i64 5, .int .i64 10, .int .i64 15] 208)
            have T3 : Quar (wr.alloc (.cells #[.int .i64 0, .int .i64 5, .int .i64 10, .int .i64 15] 208)) := T2.keep (ab (Below.refl _ wr) _)
            have z3 : p + 2 ≤ (wr.alloc (.cells #[.int .i64 0, .int .i64 5, .int .i64 10, .int .i64 15] 208)).heap.size := by simp; omega
            clear T2 m2 k2 B2
            go_wp2_with fail
            refine (quarter_any (p + 1) L 0 5 10 15 _ m3 hml (by omega) (by omega) (by omega) (by omega) (by omega) (by omega) (by omega) (by omega) (by omega) (by omega)).mono ?_
            rintro e w4 ⟨rfl, m4, b4⟩
            have k4 := k3.keep (b4.block _ (by omega) (by omega)) b4.size
            have B4 := B3.trans (b4.below (by omega) (by omega))
            have z4 := Nat.le_trans z3 b4.size
            have T4 : Quar w4 := by
              obtain ⟨t1, f1, h1⟩ := T3
              exact ⟨t1, f1, (b4.block _ (Array.getElem?_eq_some_iff.1 h1).1 (by first | (simp; done) | (simp; omega))).trans h1⟩
            rw [← HX.out] at m4
            clear m3 k3 B3 T3 b4 hml
            go_wp2
            exact ⟨⟨5, by omega, by go_num, m4, k4, T4, z4, B4⟩, by simp [intOf]⟩
          · have hi : ∀ W : World, (Instr.index 209 (.agg quarterCells) (.int .i64 5)).run Tryz.prog W = .ok (.agg #[.int .i64 1, .int .i64 6, .int .i64 11, .int .i64 12]) W := fun _ => by kernel_rfl
            have hml := HML.out 5
            have HX : Shut (mixV V 6 = qr (mixV V 5) 1 6 11 12) := ⟨rfl⟩
            generalize mixV V 5 = L at *
            have m3 := m2.below (ab (Below.refl _ wr) (.cells #[.int .i64 1, .int .i64 6, .int .i64 11, .int .i64 12] 208)) m2.lt
            have k3 := k2.below (ab (Below.refl _ wr) (.cells #[.int .i64 1, .int .i64 6, .int .i64 11, .int .i64 12] 208)) k2.lt
            have B3 := ab B2 (.cells #[.int .i64 1, .int .i64 6, .int .i64 11, .int .i64 12] 208)
            have T3 : Quar (wr.alloc (.cells #[.int .i64 1, .int .i64 6, .int .i64 11, .int .i64 12] 208)) := T2.keep (ab (Below.refl _ wr) _)
            have z3 : p + 2 ≤ (wr.alloc (.cells #[.int .i64 1, .int .i64 6, .int .i64 11, .int .i64 12] 208)).heap.size := by simp; omega
            clear T2 m2 k2 B2
            go_wp2_with fail
            refine (quarter_any (p + 1) L 1 6 11 12 _ m3 hml (by omega) (by omega) (by omega) (by omega) (by omega) (by omega) (by omega) (by omega) (by omega) (by omega)).mono ?_
            rintro e w4 ⟨rfl, m4, b4⟩
            have k4 := k3.keep (b4.block _ (by omega) (by omega)) b4.size
            have B4 := B3.trans (b4.below (by omega) (by omega))
            have z4 := Nat.le_trans z3 b4.size
            have T4 : Quar w4 := by
              obtain ⟨t1, f1, h1⟩ := T3
              exact ⟨t1, f1, (b4.block _ (Array.getElem?_eq_some_iff.1 h1).1 (by first | (simp; done) | (simp; omega))).trans h1⟩
            rw [← HX.out] at m4
            clear m3 k3 B3 T3 b4 hml
            go_wp2
            exact ⟨⟨6, by omega, by go_num, m4, k4, T4, z4, B4⟩, by simp [intOf]⟩
          · have hi : ∀ W : World, (Instr.index 209 (.agg quarterCells) (.int .i64 6)).run Tryz.prog W = .ok (.agg #[.int .i64 2, .int .i64 7, .int .i64 8, .int .i64 13]) W := fun _ => by kernel_rfl
            have hml := HML.out 6
            have HX : Shut (mixV V 7 = qr (mixV V 6) 2 7 8 13) := ⟨rfl⟩
            generalize mixV V 6 = L at *
            have m3 := m2.below (ab (Below.refl _ wr) (.cells #[.int .i64 2, .int .i64 7, .int .i64 8, .int .i64 13] 208)) m2.lt
            have k3 := k2.below (ab (Below.refl _ wr) (.cells #[.int .i64 2, .int .i64 7, .int .i64 8, .int .i64 13] 208)) k2.lt
            have B3 := ab B2 (.cells #[.int .i64 2, .int .i64 7, .int .i64 8, .int .i64 13] 208)
            have T3 : Quar (wr.alloc (.cells #[.int .i64 2, .int .i64 7, .int .i64 8, .int .i64 13] 208)) := T2.keep (ab (Below.refl _ wr) _)
            have z3 : p + 2 ≤ (wr.alloc (.cells #[.int .i64 2, .int .i64 7, .int .i64 8, .int .i64 13] 208)).heap.size := by simp; omega
            clear T2 m2 k2 B2
            go_wp2_with fail
            refine (quarter_any (p + 1) L 2 7 8 13 _ m3 hml (by omega) (by omega) (by omega) (by omega) (by omega) (by omega) (by omega) (by omega) (by omega) (by omega)).mono ?_
            rintro e w4 ⟨rfl, m4, b4⟩
            have k4 := k3.keep (b4.block _ (by omega) (by omega)) b4.size
            have B4 := B3.trans (b4.below (by omega) (by omega))
            have z4 := Nat.le_trans z3 b4.size
            have T4 : Quar w4 := by
              obtain ⟨t1, f1, h1⟩ := T3
              exact ⟨t1, f1, (b4.block _ (Array.getElem?_eq_some_iff.1 h1).1 (by first | (simp; done) | (simp; omega))).trans h1⟩
            rw [← HX.out] at m4
            clear m3 k3 B3 T3 b4 hml
            go_wp2
            exact ⟨⟨7, by omega, by go_num, m4, k4, T4, z4, B4⟩, by simp [intOf]⟩
          · have hi : ∀ W : World, (Instr.index 209 (.agg quarterCells) (.int .i64 7)).run Tryz.prog W = .ok (.agg #[.int .i64 3, .int .i64 4, .int .i64 9, .int .i64 14]) W := fun _ => by kernel_rfl
            have hml := HML.out 7
            have HX : Shut (mixV V 8 = qr (mixV V 7) 3 4 9 14) := ⟨rfl⟩
            generalize mixV V 7 = L at *
            have m3 := m2.below (ab (Below.refl _ wr) (.cells #[.int .i64 3, .int .i64 4, .int .i64 9, .int .i64 14] 208)) m2.lt
            have k3 := k2.below (ab (Below.refl _ wr) (.cells #[.int .i64 3, .int .i64 4, .int .i64 9, .int .i64 14] 208)) k2.lt
            have B3 := ab B2 (.cells #[.int .i64 3, .int .i64 4, .int .i64 9, .int .i64 14] 208)
            have T3 : Quar (wr.alloc (.cells #[.int .i64 3, .int .i64 4, .int .i64 9, .int .i64 14] 208)) := T2.keep (ab (Below.refl _ wr) _)
            have z3 : p + 2 ≤ (wr.alloc (.cells #[.int .i64 3, .int .i64 4, .int .i64 9, .int .i64 14] 208)).heap.size := by simp; omega
            clear T2 m2 k2 B2
            go_wp2_with fail
            refine (quarter_any (p + 1) L 3 4 9 14 _ m3 hml (by omega) (by omega) (by omega) (by omega) (by omega) (by omega) (by omega) (by omega) (by omega) (by omega)).mono ?_
            rintro e w4 ⟨rfl, m4, b4⟩
            have k4 := k3.keep (b4.block _ (by omega) (by omega)) b4.size
            have B4 := B3.trans (b4.below (by omega) (by omega))
            have z4 := Nat.le_trans z3 b4.size
            have T4 : Quar w4 := by
              obtain ⟨t1, f1, h1⟩ := T3
              exact ⟨t1, f1, (b4.block _ (Array.getElem?_eq_some_iff.1 h1).1 (by first | (simp; done) | (simp; omega))).trans h1⟩
            rw [← HX.out] at m4
            clear m3 k3 B3 T3 b4 hml
            go_wp2
            exact ⟨⟨8, by omega, by go_num, m4, k4, T4, z4, B4⟩, by simp [intOf]⟩
        · obtain rfl : k = 8 := by omega
          rw [← Hn.out] at m2
          go_wp2
          exact ⟨⟨t + 1, by omega, by go_num, m2, k2, T2, z2, B2⟩, by simp [intOf]; omega⟩
    · obtain rfl : t = 10 := by omega
      have hrl := HR.out 10
      clear HR HSE T2
      generalize turnsV S0 10 = RT at *
      obtain ⟨x0, x1, x2, x3, x4, x5, x6, x7, x8, x9, x10, x11, x12, x13, x14, x15, rfl⟩ := list16 RT hrl
      have F := (m2.below (ab (Below.refl _ wr) (.cells (zeroB 64) 5)) m2.lt).full16
      obtain ⟨c0, c1, c2, c3, c4, c5, c6, c7, c8, c9, c10, c11, c12, c13, c14, c15, f0, f1, f2, f3, f4, f5, f6, f7, f8, f9, f10, f11, f12, f13, f14, f15⟩ := F
      have hmk : ∀ W : World, (Instr.makeSlice 22 (.int .i64 0) (.int .i64 64)).run Tryz.prog W = .ok (.slice (some ⟨W.heap.size, 0, none⟩) 0 64) (W.alloc (.cells (zeroB 64) 5)) := fun _ => by kernel_rfl
      have r0 := Row.room wr 64 (by omega) _ rfl
      have k3 := k2.below (ab (Below.refl _ wr) (.cells (zeroB 64) 5)) k2.lt
      have B3 := ab B2 (.cells (zeroB 64) 5)
      obtain ⟨P, hP⟩ : ∃ P, P = wr.heap.size := ⟨_, rfl⟩
      have hPp : p + 2 ≤ P := by omega
      have hPw : w.heap.size ≤ P := by omega
      rw [← hP] at r0
      have z3 : P + 1 ≤ (wr.alloc (.cells (zeroB 64) 5)).heap.size := by simp; omega
      have HP := Shut.mk hP
      clear m2 k2 B2 z2 hP
      obtain ⟨wh, rfl⟩ : ∃ x, x = wr := ⟨_, rfl⟩
      go_wp2
      rw [← HP.out]
      clear hmk c0 c1 c2 c3 c4 c5 c6 c7 c8 c9 c10 c11 c12 c13 c14 c15 f0 f1 f2 f3 f4 f5 f6 f7 f8 f9 f10 f11 f12 f13 f14 f15
      have hS16 := HS.out
      simp only [Int.cast_ofNat_Int]
      go_loopw [11, 31] (fun v i wq => ∃ m : Nat, m ≤ 16 ∧ i = .int .i64 (m : Int) ∧ Row wq P v (mixBytes [x0, x1, x2, x3, x4, x5, x6, x7, x8, x9, x10, x11, x12, x13, x14, x15] S0 m) ∧ KOw .u32 wq p S0 ∧ P + 1 ≤ wq.heap.size ∧ Below w.heap.size w wq) (fun _ i _ => 16 - (intOf i).toNat)
      case atStart => exact ⟨0, by omega, rfl, r0, k3, z3, B3⟩
      case round =>
        clear r0 k3 z3 B3
        obtain ⟨m, hm, rfl, hrow, k2, z2, B2⟩ := hrel
        have hol := mixBytes_len [x0, x1, x2, x3, x4, x5, x6, x7, x8, x9, x10, x11, x12, x13, x14, x15] S0 m
        obtain ⟨A5, c5, rfl, _⟩ := hrow.ow hol
        by_cases hlm : m < 16
        · have hix : (#[.int .u32 x0, .int .u32 x1, .int .u32 x2, .int .u32 x3, .int .u32 x4, .int .u32 x5, .int .u32 x6, .int .u32 x7, .int .u32 x8, .int .u32 x9, .int .u32 x10, .int .u32 x11, .int .u32 x12, .int .u32 x13, .int .u32 x14, .int .u32 x15] : Array Value)[m]? = some (.int .u32 (([x0, x1, x2, x3, x4, x5, x6, x7, x8, x9, x10, x11, x12, x13, x14, x15] : List Int).getD m 0)) := by
            have e : m = 0 ∨ m = 1 ∨ m = 2 ∨ m = 3 ∨ m = 4 ∨ m = 5 ∨ m = 6 ∨ m = 7 ∨ m = 8 ∨ m = 9 ∨ m = 10 ∨ m = 11 ∨ m = 12 ∨ m = 13 ∨ m = 14 ∨ m = 15 := by omega
            rcases e with rfl | rfl | rfl | rfl | rfl | rfl | rfl | rfl | rfl | rfl | rfl | rfl | rfl | rfl | rfl | rfl <;> rfl
          have hi := idx16 _ m _ hix hlm
          have hsucc : Shut (mixBytes [x0, x1, x2, x3, x4, x5, x6, x7, x8, x9, x10, x11, x12, x13, x14, x15] S0 (m + 1) = mixBytes [x0, x1, x2, x3, x4, x5, x6, x7, x8, x9, x10, x11, x12, x13, x14, x15] S0 m ++ lowOf ((([x0, x1, x2, x3, x4, x5, x6, x7, x8, x9, x10, x11, x12, x13, x14, x15] : List Int).getD m 0 + S0.getD m 0) % 4294967296) 4) := ⟨rfl⟩
          have q0 := k2.cell m (by rw [hS16]; exact hlm)
          generalize ([x0, x1, x2, x3, x4, x5, x6, x7, x8, x9, x10, x11, x12, x13, x14, x15] : List Int).getD m 0 = X at *
          generalize S0.getD m 0 = Y at *
          have HL := Shut.mk hol
          have hmi : (m : Int) < 16 := by omega
          clear hix hol
          go_wp2_with fail
          refine (spreadLowW_any ((X + Y) % 4294967296) 4 wr (by omega)).mono ?_
          rintro e w4 ⟨rfl, hblk, b4⟩
          have s4 := b4.size
          have row2 := hrow.keep (w' := w4) (fun g _ h2 => b4.block g h2)
          have k4 := k2.below b4 k2.lt
          have hbs := hblk.bsn (lowOf_byte _ _) (lowOf_len ((X + Y) % 4294967296) 4)
          clear hi q0
          go_wp2_with (at_builtin; refine wpList_row_join rfl _ _ rfl _ P (.slice A5 (4 * m) c5) _ _ rfl row2 (by omega) (some ⟨wr.heap.size, 0, none⟩) 4 4 rfl hbs (fun e => by cases e) (by rw [HL.out]; omega) ?_; intro v5 w5 hr5 hb5 hs5)
          refine ⟨⟨m + 1, by omega, by go_num, by rw [hsucc.out]; exact hr5, k4.below hb5 (by omega), by omega, (ac B2 b4).trans (hb5.mono hPw)⟩, by simp [intOf]; omega⟩
        · obtain rfl : m = 16 := by omega
          go_wp2
          go_ret
          rw [HF.out]
          exact ⟨⟨A5, c5, rfl, hrow.mono hPw⟩, B2⟩
end Go.Proofs.YtabhcolfkkfonaaGreatDoor
