import Derived.Test.YtgmbofoneeagiaaDoorShaD
import Derived.Laws.Rows
import Derived.Laws.Tables
import Derived.Test.YtgmbofoneeagiaaDoorBase
import Derived.Deep.CutRange
import Derived.Laws.CopyOwn

/-! ShaP -/
/- SHA-256, of the program: words. -/
namespace Go.Proofs.YtgmbofoneeagiaaDoor
open Go.RowKit

/-- x turned right by each of these, all xored -/
def rightAll (x : Int) (rs : List Int) : Int := rs.foldl (fun m r => xorW m (rightW x r)) 0
theorem rightAll_snoc (x r : Int) (rs : List Int) : rightAll x (rs ++ [r]) = xorW (rightAll x rs) (rightW x r) := by simp [rightAll]
theorem xorW_zero (a : Int) (h0 : 0 ≤ a) (h1 : a < 4294967296) : xorW 0 a = a := by
  unfold xorW
  rw [u32_xor 0 a (by omega) (by omega) h0 h1]
  simp; omega
theorem rightAll_bd (x : Int) (h0 : 0 ≤ x) (h1 : x < 4294967296) (rs : List Int) (hr : ∀ r ∈ rs, 1 ≤ r ∧ r ≤ 31) : 0 ≤ rightAll x rs ∧ rightAll x rs < 4294967296 := by
  have key : ∀ (rs : List Int) (m : Int), (∀ r ∈ rs, 1 ≤ r ∧ r ≤ 31) → 0 ≤ m → m < 4294967296 → 0 ≤ rs.foldl (fun m r => xorW m (rightW x r)) m ∧ rs.foldl (fun m r => xorW m (rightW x r)) m < 4294967296 := by
    intro rs
    induction rs with
    | nil => intro m _ a b; exact ⟨a, b⟩
    | cons r rs ih =>
      intro m h a b
      have hr := h r (by simp)
      have h2 := rightW_bd x r h0 h1 hr.1 hr.2
      have h3 := xorW_bd m _ a b h2.1 h2.2
      exact ih _ (fun y hy => h y (by simp [hy])) h3.1 h3.2
  exact key rs 0 hr (by omega) (by omega)
theorem right2 (x a b : Int) (h0 : 0 ≤ x) (h1 : x < 4294967296) (ha : 1 ≤ a) (ha1 : a ≤ 31) : rightAll x [a, b] = xorW (rightW x a) (rightW x b) := by
  have h2 := rightW_bd x a h0 h1 ha ha1
  simp only [rightAll, List.foldl_cons, List.foldl_nil]
  rw [xorW_zero _ h2.1 h2.2]
theorem right3 (x a b c : Int) (h0 : 0 ≤ x) (h1 : x < 4294967296) (ha : 1 ≤ a) (ha1 : a ≤ 31) : rightAll x [a, b, c] = xorW (xorW (rightW x a) (rightW x b)) (rightW x c) := by
  have h2 := rightW_bd x a h0 h1 ha ha1
  simp only [rightAll, List.foldl_cons, List.foldl_nil]
  rw [xorW_zero _ h2.1 h2.2]

theorem take_get (rs : List Int) (k : Nat) (h : k < rs.length) : rs.take (k + 1) = rs.take k ++ [rs.getD k 0] := by
  rw [List.take_succ_eq_append_getElem h]
  simp [List.getD, List.getElem?_eq_getElem h]

theorem turnedRight_any (x : Int) (h0 : 0 ≤ x) (h1 : x < 4294967296) (g n c : Nat) (rs : List Int) (w : World) (h : KOw .i64 w g rs) (hn : rs.length = n) (hn2 : n ≤ 1000) (hr : ∀ r ∈ rs, 1 ≤ r ∧ r ≤ 31) :
    Calls Tryd.prog 48 #[.int .u32 x, .slice (some ⟨g, 0, none⟩) n c] w fun e w' => e = .returned (.int .u32 (rightAll x rs)) ∧ ∃ k, w' = w.drewN k := by
  have Hn := Lib.hid hn
  clear hn
  go_enter Tryd.func48, Tryd.ntmps48
  go_wp2
  go_loopw [5, 10] (fun m i wr => ∃ k : Nat, k ≤ n ∧ i = .int .i64 k ∧ m = .int .u32 (rightAll x (rs.take k)) ∧ ∃ q, wr = w.drewN q) (fun _ i _ => n - (intOf i).toNat)
  case atStart => exact ⟨0, Nat.zero_le _, rfl, rfl, 0, rfl⟩
  case round =>
    obtain ⟨k, hk, rfl, rfl, q, rfl⟩ := hrel
    by_cases hlt : k < n
    · have hc := (h.drewN q).cell k (by rw [Hn.out]; exact hlt)
      have Hs := Lib.hid (take_get rs k (by rw [Hn.out]; exact hlt))
      have hb : 1 ≤ rs.getD k 0 ∧ rs.getD k 0 ≤ 31 := by
        have e : rs.getD k 0 = rs[k]'(by rw [Hn.out]; exact hlt) := by simp [List.getD, List.getElem?_eq_getElem (show k < rs.length by rw [Hn.out]; exact hlt)]
        rw [e]; exact hr _ (List.getElem_mem _)
      have hm := rightAll_bd x h0 h1 (rs.take k) (fun r hh => hr r (List.mem_of_mem_take hh))
      generalize hR : rs.getD k 0 = R at *
      have HR := Lib.hid hR
      obtain ⟨hb0, hb1⟩ := hb
      obtain ⟨hm0, hm1⟩ := hm
      clear hR
      have Hx : Hid (xorW (rightAll x (rs.take k)) (turn x (32 - R)) = rightAll x (rs.take (k + 1))) := by
        show xorW _ _ = _
        rw [Hs.out, rightAll_snoc]; rfl
      generalize rightAll x (rs.take k) = M at *
      go_wp2_with fail
      refine (turnLeft_any _ _ (by omega) (by omega) _).mono ?_
      rintro e w' ⟨rfl, q2, rfl⟩
      go_wp2
      refine ⟨⟨k + 1, by omega, by go_num, by rw [← Hx.out]; rfl, q + q2, rfl⟩, by simp [intOf]; omega⟩
    · obtain rfl : k = n := by omega
      go_wp2
      go_ret
      exact ⟨by rw [List.take_of_length_le (by rw [Hn.out]; exact Nat.le_refl _)]; rfl, q, rfl⟩

theorem hi_small (l : List Int) (h : By l) (k : Nat) (hk : k ≤ 3) : 0 ≤ hi (l.take k) ∧ hi (l.take k) < 16777216 := by
  have h1 := hi_bd (l.take k) (fun x hx => h x (List.mem_of_mem_take hx))
  have h2 : ∀ m : Nat, m < 4 → (256 : Int) ^ m ≤ 16777216 := by decide
  have h3 := h2 (l.take k).length (by have := List.length_take_le k l; omega)
  omega
theorem or_byte_u32 (a x : Int) (ha0 : 0 ≤ a) (ha1 : a < 16777216) (hx0 : 0 ≤ x) (hx1 : x < 256) : bits BinOp.or IntKind.u32 (a * 256) x = a * 256 + x := by
  obtain ⟨a, rfl⟩ := Int.eq_ofNat_of_zero_le ha0
  obtain ⟨x, rfl⟩ := Int.eq_ofNat_of_zero_le hx0
  have e : ((a : Int) * 256) = ((a * 256 : Nat) : Int) := by omega
  have h := Nat.shiftLeft_add_eq_or_of_lt (i := 8) (b := x) (by omega) a
  rw [Nat.shiftLeft_eq] at h
  rw [e, u32_or _ _ (by omega) (by omega) (by omega) (by omega)]
  simp only [Int.toNat_natCast]
  rw [← h]
  rfl

theorem joinHighW_any (A : Option Addr) (n c : Nat) (l : List Int) (w : World) (h : Bs w A n l) (hn : n ≤ 4) :
    Calls Tryd.prog 47 #[.slice A n c] w fun e w' => e = .returned (.int .u32 (hi l)) ∧ w = w' := by
  have Hl := Lib.hid h.len
  go_enter Tryd.func47, Tryd.ntmps47
  go_wp2
  go_loop [3, 8] (fun t i => ∃ k : Nat, k ≤ n ∧ i = .int .i64 k ∧ t = .int .u32 (hi (l.take k))) (fun _ i => n - (intOf i).toNat)
  case atStart => exact ⟨0, Nat.zero_le _, rfl, rfl⟩
  case round =>
    obtain ⟨k, hk, rfl, rfl⟩ := hrel
    by_cases hlt : k < n
    · obtain ⟨b, off, X, rfl, hbs, hX0, hX1, HX, hx⟩ := h.get hlt
      have Hs := Lib.hid (take_hi l k (by rw [Hl.out]; exact hlt))
      obtain ⟨hb0, hb1⟩ := hi_small l h.byte k (by omega)
      have Ho := Lib.hid (or_byte_u32 _ X hb0 hb1 hX0 hX1)
      go_wp2
      exact ⟨⟨k + 1, by omega, by go_num, by rw [Ho.out, Hs.out, HX.out]⟩, by simp [intOf]; omega⟩
    · obtain rfl : k = n := by omega
      go_wp2
      go_ret
      exact ⟨by rw [List.take_of_length_le (by rw [Hl.out]; exact Nat.le_refl _)]; rfl, rfl⟩
end Go.Proofs.YtgmbofoneeagiaaDoor

/-! ShaQ -/
/- SHA-256, of the program: a round. -/
namespace Go.Proofs.YtgmbofoneeagiaaDoor
open Go.RowKit

theorem kow_new (w : World) (k : IntKind) (t : TypeId) (l : List Int) (cs : Array Value) (hcs : cs = (l.map (Value.int k)).toArray) : KOw k (w.alloc (.cells cs t)) w.heap.size l := (KB.new w l cs hcs).kow

/-- eight cells of a block, set one by one -/
theorem set8 {w : World} {g : Nat} {l : List Int} (hl : l.length = 8) (h : KOw .u32 w g l) (a0 a1 a2 a3 a4 a5 a6 a7 : Int) :
    KOw .u32 ((((((((w.setCell ⟨g, 0, none⟩ (.int .u32 a0)).setCell ⟨g, 1, none⟩ (.int .u32 a1)).setCell ⟨g, 2, none⟩ (.int .u32 a2)).setCell ⟨g, 3, none⟩ (.int .u32 a3)).setCell ⟨g, 4, none⟩ (.int .u32 a4)).setCell ⟨g, 5, none⟩ (.int .u32 a5)).setCell ⟨g, 6, none⟩ (.int .u32 a6)).setCell ⟨g, 7, none⟩ (.int .u32 a7)) g [a0, a1, a2, a3, a4, a5, a6, a7] := by
  match l, hl with
  | [x0, x1, x2, x3, x4, x5, x6, x7], _ =>
    have h0 := h.set_ 0 (by simp) a0
    have h1 := h0.set_ 1 (by simp) a1
    have h2 := h1.set_ 2 (by simp) a2
    have h3 := h2.set_ 3 (by simp) a3
    have h4 := h3.set_ 4 (by simp) a4
    have h5 := h4.set_ 5 (by simp) a5
    have h6 := h5.set_ 6 (by simp) a6
    have h7 := h6.set_ 7 (by simp) a7
    simp only [List.set_cons_succ, List.set_cons_zero] at h7
    exact h7
theorem below8 {w : World} {B g : Nat} {W : World} (h : Below B W w) (hB : B ≤ g) (v0 v1 v2 v3 v4 v5 v6 v7 : Value) :
    Below B W ((((((((w.setCell ⟨g, 0, none⟩ v0).setCell ⟨g, 1, none⟩ v1).setCell ⟨g, 2, none⟩ v2).setCell ⟨g, 3, none⟩ v3).setCell ⟨g, 4, none⟩ v4).setCell ⟨g, 5, none⟩ v5).setCell ⟨g, 6, none⟩ v6).setCell ⟨g, 7, none⟩ v7) := by
  have h0 := h.setCell (p := ⟨g, 0, none⟩) hB v0
  have h1 := h0.setCell (p := ⟨g, 1, none⟩) hB v1
  have h2 := h1.setCell (p := ⟨g, 2, none⟩) hB v2
  have h3 := h2.setCell (p := ⟨g, 3, none⟩) hB v3
  have h4 := h3.setCell (p := ⟨g, 4, none⟩) hB v4
  have h5 := h4.setCell (p := ⟨g, 5, none⟩) hB v5
  have h6 := h5.setCell (p := ⟨g, 6, none⟩) hB v6
  exact h6.setCell (p := ⟨g, 7, none⟩) hB v7

set_option maxHeartbeats 1000000 in
theorem round_any (V0 V1 V2 V3 V4 V5 V6 V7 kx : Int) (hV : Wd [V0, V1, V2, V3, V4, V5, V6, V7]) (w : World) :
    Calls Tryd.prog 43 #[.agg #[.int .u32 V0, .int .u32 V1, .int .u32 V2, .int .u32 V3, .int .u32 V4, .int .u32 V5, .int .u32 V6, .int .u32 V7], .int .u32 kx] w fun e w' =>
      e = .returned (.agg (((stepV [V0, V1, V2, V3, V4, V5, V6, V7] 0 kx).map (Value.int .u32)).toArray)) ∧ Below w.heap.size w w' := by
  have d0 := hV.get 0
  have d1 := hV.get 1
  have d2 := hV.get 2
  have d3 := hV.get 3
  have d4 := hV.get 4
  have d5 := hV.get 5
  have d6 := hV.get 6
  have d7 := hV.get 7
  simp only [List.getD_cons_zero, List.getD_cons_succ] at d0 d1 d2 d3 d4 d5 d6 d7
  obtain ⟨d00, d01⟩ := d0
  obtain ⟨d10, d11⟩ := d1
  obtain ⟨d20, d21⟩ := d2
  obtain ⟨d30, d31⟩ := d3
  obtain ⟨d40, d41⟩ := d4
  obtain ⟨d50, d51⟩ := d5
  obtain ⟨d60, d61⟩ := d6
  obtain ⟨d70, d71⟩ := d7
  have r4 := right3 V4 6 11 25 d40 d41 (by omega) (by omega)
  have r0 := right3 V0 2 13 22 d00 d01 (by omega) (by omega)
  have R4 := Lib.hid r4
  have R0 := Lib.hid r0
  clear r4 r0 hV
  go_enter Tryd.func43, Tryd.ntmps43
  go_wp2
  go_quiet (fail)
  generalize hW : World.drewN _ nq = W1
  have z1 : W1.heap.size = w.heap.size + 2 := by rw [← hW]; simp
  have b1 : Below w.heap.size w W1 := by rw [← hW]; exact ad (ab (ab (Below.refl _ _) _) _) _
  have k1 : KOw .u32 W1 (w.heap.size + 1) [0, 0, 0, 0, 0, 0, 0, 0] := by
    rw [← hW]
    have := (kow_new (w.alloc (.cells #[.int .u32 V0, .int .u32 V1, .int .u32 V2, .int .u32 V3, .int .u32 V4, .int .u32 V5, .int .u32 V6, .int .u32 V7] 46)) .u32 46 [0, 0, 0, 0, 0, 0, 0, 0] _ rfl).drewN nq
    rw [World.size_alloc] at this
    exact this
  have Z1 := Lib.hid z1
  clear hW z1
  go_wp2_with fail
  refine (turnedRight_any V4 d40 d41 W1.heap.size 3 3 [6, 11, 25] (W1.alloc (.cells #[.int .i64 6, .int .i64 11, .int .i64 25] 2)) (kow_new W1 .i64 _ [6, 11, 25] _ rfl) rfl (by omega) (by decide)).mono ?_
  rintro e w' ⟨rfl, q2, rfl⟩
  have b2 : Below w.heap.size w ((W1.alloc (.cells #[.int .i64 6, .int .i64 11, .int .i64 25] 2)).drewN q2) := ad (ab b1 _) q2
  have k2 := (k1.alloc (.cells #[.int .i64 6, .int .i64 11, .int .i64 25] 2)).drewN q2
  have z2 : w.heap.size + 2 ≤ ((W1.alloc (.cells #[.int .i64 6, .int .i64 11, .int .i64 25] 2)).drewN q2).heap.size := by
    show _ ≤ (W1.alloc _).heap.size
    rw [World.size_alloc, Z1.out]; omega
  generalize (W1.alloc (.cells #[.int .i64 6, .int .i64 11, .int .i64 25] 2)).drewN q2 = W2 at *
  rw [R4.out]
  go_wp2_with fail
  refine (turnedRight_any V0 d00 d01 W2.heap.size 3 3 [2, 13, 22] (W2.alloc (.cells #[.int .i64 2, .int .i64 13, .int .i64 22] 2)) (kow_new W2 .i64 _ [2, 13, 22] _ rfl) rfl (by omega) (by decide)).mono ?_
  rintro e w' ⟨rfl, q3, rfl⟩
  have b3 : Below w.heap.size w ((W2.alloc (.cells #[.int .i64 2, .int .i64 13, .int .i64 22] 2)).drewN q3) := ad (ab b2 _) q3
  have k3 := (k2.alloc (.cells #[.int .i64 2, .int .i64 13, .int .i64 22] 2)).drewN q3
  generalize (W2.alloc (.cells #[.int .i64 2, .int .i64 13, .int .i64 22] 2)).drewN q3 = W3 at *
  rw [R0.out]
  have c0 := k3.cell 0 (by decide)
  have c1 := k3.cell 1 (by decide)
  have c2 := k3.cell 2 (by decide)
  have c3 := k3.cell 3 (by decide)
  have c4 := k3.cell 4 (by decide)
  have c5 := k3.cell 5 (by decide)
  have c6 := k3.cell 6 (by decide)
  have c7 := k3.cell 7 (by decide)
  have f0 := k3.frozen 0
  have f1 := k3.frozen 1
  have f2 := k3.frozen 2
  have f3 := k3.frozen 3
  have f4 := k3.frozen 4
  have f5 := k3.frozen 5
  have f6 := k3.frozen 6
  have f7 := k3.frozen 7
  simp only [List.getD_cons_zero, List.getD_cons_succ] at c0 c1 c2 c3 c4 c5 c6 c7
  have K3 := Lib.hid k3
  have B3 := Lib.hid b3
  clear k1 k2 k3 b1 b2 b3 z2
  go_wp2
  clear c0 c1 c2 c3 c4 c5 c6 c7 f0 f1 f2 f3 f4 f5 f6 f7
  have Hs : Hid ([(V7 + xorW (xorW (rightW V4 6) (rightW V4 11)) (rightW V4 25) + bits BinOp.xor IntKind.u32 (bits BinOp.and IntKind.u32 V4 V5) (bits BinOp.and IntKind.u32 (bits BinOp.xor IntKind.u32 IntKind.u32.max V4) V6) + kx + (xorW (xorW (rightW V0 2) (rightW V0 13)) (rightW V0 22) + bits BinOp.xor IntKind.u32 (bits BinOp.xor IntKind.u32 (bits BinOp.and IntKind.u32 V0 V1) (bits BinOp.and IntKind.u32 V0 V2)) (bits BinOp.and IntKind.u32 V1 V2))) % 4294967296, V0, V1, V2,
      (V3 + (V7 + xorW (xorW (rightW V4 6) (rightW V4 11)) (rightW V4 25) + bits BinOp.xor IntKind.u32 (bits BinOp.and IntKind.u32 V4 V5) (bits BinOp.and IntKind.u32 (bits BinOp.xor IntKind.u32 IntKind.u32.max V4) V6) + kx)) % 4294967296, V4, V5, V6] = stepV [V0, V1, V2, V3, V4, V5, V6, V7] 0 kx) := by
    show _ = [addW (addW (addW (addW (addW V7 (bigE V4)) (chW V4 V5 V6)) 0) kx) (addW (bigA V0) (majW V0 V1 V2)), V0, V1, V2, addW V3 (addW (addW (addW (addW V7 (bigE V4)) (chW V4 V5 V6)) 0) kx), V4, V5, V6]
    show [(V7 + bigE V4 + chW V4 V5 V6 + kx + (bigA V0 + majW V0 V1 V2)) % 4294967296, V0, V1, V2, (V3 + (V7 + bigE V4 + chW V4 V5 V6 + kx)) % 4294967296, V4, V5, V6] = _
    generalize bigE V4 = x1
    generalize chW V4 V5 V6 = x2
    generalize bigA V0 = x3
    generalize majW V0 V1 V2 = x4
    unfold addW
    congr 1
    · omega
    · congr 4
      omega
  rw [← Hs.out]
  generalize (V7 + xorW (xorW (rightW V4 6) (rightW V4 11)) (rightW V4 25) + bits BinOp.xor IntKind.u32 (bits BinOp.and IntKind.u32 V4 V5) (bits BinOp.and IntKind.u32 (bits BinOp.xor IntKind.u32 IntKind.u32.max V4) V6) + kx + (xorW (xorW (rightW V0 2) (rightW V0 13)) (rightW V0 22) + bits BinOp.xor IntKind.u32 (bits BinOp.xor IntKind.u32 (bits BinOp.and IntKind.u32 V0 V1) (bits BinOp.and IntKind.u32 V0 V2)) (bits BinOp.and IntKind.u32 V1 V2))) % 4294967296 = Y0
  generalize (V3 + (V7 + xorW (xorW (rightW V4 6) (rightW V4 11)) (rightW V4 25) + bits BinOp.xor IntKind.u32 (bits BinOp.and IntKind.u32 V4 V5) (bits BinOp.and IntKind.u32 (bits BinOp.xor IntKind.u32 IntKind.u32.max V4) V6) + kx)) % 4294967296 = Y4
  have k4 := set8 rfl K3.out Y0 V0 V1 V2 Y4 V4 V5 V6
  have b4 := below8 B3.out (show w.heap.size ≤ w.heap.size + 1 by omega) (.int .u32 Y0) (.int .u32 V0) (.int .u32 V1) (.int .u32 V2) (.int .u32 Y4) (.int .u32 V4) (.int .u32 V5) (.int .u32 V6)
  generalize World.setCell _ ⟨w.heap.size + 1, 7, none⟩ _ = W4 at *
  have c0 := k4.cell 0 (by simp)
  have c1 := k4.cell 1 (by simp)
  have c2 := k4.cell 2 (by simp)
  have c3 := k4.cell 3 (by simp)
  have c4 := k4.cell 4 (by simp)
  have c5 := k4.cell 5 (by simp)
  have c6 := k4.cell 6 (by simp)
  have c7 := k4.cell 7 (by simp)
  simp only [List.getD_cons_zero, List.getD_cons_succ] at c0 c1 c2 c3 c4 c5 c6 c7
  exact bodyPost_ret (v := .agg #[.int .u32 Y0, .int .u32 V0, .int .u32 V1, .int .u32 V2, .int .u32 Y4, .int .u32 V4, .int .u32 V5, .int .u32 V6]) (by simp [results, Tryd.results43, go_sem, c0, c1, c2, c3, c4, c5, c6, c7]) rfl ⟨rfl, b4⟩
end Go.Proofs.YtgmbofoneeagiaaDoor

/-! ShaR -/
/- SHA-256, of the program: the words of a block, and a block. -/
namespace Go.Proofs.YtgmbofoneeagiaaDoor
open Go.RowKit

/-- the word behind t words, out of four of them (behind a name: the walk must not look into it) -/
structure NextW (l : List Int) (t : Nat) (a b c d : Int) : Prop where
  out : sched l (t + 1) = sched l t ++ [addW (addW (addW a (sig0 b)) c) (sig1 d)]
theorem nextW (l : List Int) (j : Nat) : NextW l (j + 16) ((sched l (j + 16)).getD j 0) ((sched l (j + 16)).getD (j + 1) 0) ((sched l (j + 16)).getD (j + 9) 0) ((sched l (j + 16)).getD (j + 14) 0) := by
  constructor
  rw [sched_succ, wordAt, sched_len, if_neg (by omega), show j + 16 - 16 = j by omega, show j + 16 - 15 = j + 1 by omega, show j + 16 - 7 = j + 9 by omega, show j + 16 - 2 = j + 14 by omega]

structure NextV (l : List Int) (t : Nat) (a b c d : Int) : Prop where
  out : sched l (t + 1) = sched l t ++ [addW (addW (addW a b) c) d]
theorem nextV {l : List Int} {t : Nat} {a b c d : Int} (h : NextW l t a b c d) : NextV l t a (sig0 b) c (sig1 d) := ⟨h.out⟩
set_option maxRecDepth 100000 in
set_option maxHeartbeats 4000000 in
theorem wordsOfBlock_any (A : Option Addr) (c : Nat) (l : List Int) (w : World) (h : Bs w A 64 l) (hc : 64 ≤ c) :
    Calls Tryd.prog 42 #[.slice A 64 c] w fun e w' => e = .returned (.agg (((sched l 64).map (Value.int .u32)).toArray)) ∧ Below w.heap.size w w' := by
  obtain ⟨b, off, rfl, hbs, hcell⟩ := h.at_ (by omega)
  clear hcell
  go_enter Tryd.func42, Tryd.ntmps42
  go_wp2
  generalize hW : World.alloc (World.alloc w _) _ = W1
  have k1 : KB .u32 55 W1 w.heap.size (List.replicate 64 0) := by
    rw [← hW]
    exact (KB.new w (List.replicate 64 0) _ rfl).alloc _
  have k2 : KB .u32 55 W1 (w.heap.size + 1) (padded (sched l 0) 64) := by
    rw [← hW, sched_zero, padded_nil]
    have := KB.new (k := .u32) (t := 55) (w.alloc (.cells (zeroWords 64) 55)) (List.replicate 64 0) (zeroWords 64) (zeroWords_eq 64)
    rw [World.size_alloc] at this
    exact this
  have b1 : Below w.heap.size w W1 := by rw [← hW]; exact ab (ab (Below.refl _ _) _) _
  clear hW
  have z1 := k2.lt
  go_loopw [7] (fun i wr => ∃ t : Nat, t ≤ 64 ∧ i = .int .i64 (t : Int) ∧ KB .u32 55 wr w.heap.size (List.replicate 64 0) ∧ KB .u32 55 wr (w.heap.size + 1) (padded (sched l t) 64) ∧ Below w.heap.size w wr) (fun i _ => 64 - (intOf i).toNat)
  case atStart => exact ⟨0, by omega, rfl, k1, k2, b1⟩
  case round =>
    clear k1 k2 b1 z1
    obtain ⟨t, ht, rfl, k1, k2, hbel⟩ := hrel
    have hz := k2.lt
    by_cases hlt : t < 16
    · have hp := (h.below hbel).part_ (4 * t) 4 (by omega)
      have hsl := sched_len l t
      have Hw : Hid (sched l (t + 1) = sched l t ++ [hi ((l.drop (4 * t)).take 4)]) := by
        show sched l (t + 1) = _
        rw [sched_succ, wordAt, hsl, if_pos hlt]
      have Hp : Hid (∀ x, (padded (sched l t) 64).set t x = padded (sched l t ++ [x]) 64) := by
        intro x
        have := padded_set (sched l t) 64 x (by rw [hsl]; omega)
        rwa [hsl] at this
      have hpl := padded_len (sched l t) 64 (by rw [hsl]; omega)
      have hy := k2.cell (i := t) (by omega)
      have hz := k2.frozen t
      obtain ⟨X, hX⟩ : ∃ X, X = hi ((l.drop (4 * t)).take 4) := ⟨_, rfl⟩
      have hXb := hi_bd _ hp.byte
      rw [hp.len, ← hX] at hXb
      have HX := Lib.hid hX
      clear hXb hX hsl hpl
      go_wp2_with fail
      refine (joinHighW_any _ _ _ _ _ hp (by omega)).mono ?_
      rintro e w2 ⟨rfl, rfl⟩
      rw [← HX.out]
      go_wp2
      refine ⟨⟨t + 1, by omega, by go_num, k1.far (by simp) _, ?_, hbel.setCell (by simp) _⟩, by simp [intOf]; omega⟩
      rw [Hw.out, ← HX.out, ← Hp.out]
      exact k2.set_ t X
    · by_cases hlt2 : t < 64
      · obtain ⟨j, rfl⟩ : ∃ j, t = j + 16 := ⟨t - 16, by omega⟩
        have hsl := sched_len l (j + 16)
        have hpl := padded_len (sched l (j + 16)) 64 (by rw [hsl]; omega)
        have hwd := fun i => sched_word l h.byte (j + 16) i
        have hg := fun i (hi : i < j + 16) => padded_get (sched l (j + 16)) 64 i (by rw [hsl]; exact hi)
        have hc := fun i (hi : i < 64) => k2.cell (i := i) (by omega)
        have hf := k2.frozen (j + 16)
        have hcA := hc j (by omega)
        have hcB := hc (j + 1) (by omega)
        have hcC := hc (j + 9) (by omega)
        have hcD := hc (j + 14) (by omega)
        have hcE := hc (j + 16) (by omega)
        rw [hg _ (by omega)] at hcA hcB hcC hcD
        have hwA := hwd j
        have hwB := hwd (j + 1)
        have hwC := hwd (j + 9)
        have hwD := hwd (j + 14)
        have Hw := nextW l j
        have Hp : Hid (∀ x, (padded (sched l (j + 16)) 64).set (j + 16) x = padded (sched l (j + 16) ++ [x]) 64) := by
          intro x
          have := padded_set (sched l (j + 16)) 64 x (by rw [hsl]; omega)
          rwa [hsl] at this
        generalize eA : (sched l (j + 16)).getD j 0 = XA at *
        generalize eB : (sched l (j + 16)).getD (j + 1) 0 = XB at *
        generalize eC : (sched l (j + 16)).getD (j + 9) 0 = XC at *
        generalize eD : (sched l (j + 16)).getD (j + 14) 0 = XD at *
        have EA := Shut.mk eA
        have EB := Shut.mk eB
        have EC := Shut.mk eC
        have ED := Shut.mk eD
        have hpl := Shut.mk hpl
        clear eA eB eC eD
        obtain ⟨hA0, hA1⟩ := hwA
        obtain ⟨hB0, hB1⟩ := hwB
        obtain ⟨hC0, hC1⟩ := hwC
        obtain ⟨hD0, hD1⟩ := hwD
        have i1 : (j : Int) < 48 := by omega
        clear hsl hwd hg hc
        go_wp2
        have o15 : IntKind.i64.wrap ((j : Int) + 16 - 15) = (j : Int) + 1 := by rw [IntWalk.i64_in _ (by omega)]; omega
        have o2 : IntKind.i64.wrap ((j : Int) + 16 - 2) = (j : Int) + 14 := by rw [IntWalk.i64_in _ (by omega)]; omega
        have i15 : (j : Int) + 1 < 64 := by omega
        have i2 : (j : Int) + 14 < 64 := by omega
        have p15 : 0 ≤ (j : Int) + 1 := by omega
        have p2 : 0 ≤ (j : Int) + 14 := by omega
        have n15 : ((j : Int) + 1).toNat = j + 1 := by omega
        have n2 : ((j : Int) + 14).toNat = j + 14 := by omega
        have G7 : Hid (∀ (W : World) (g : Nat), KOw .i64 W g [7, 18] → Calls Tryd.prog 48 #[.int .u32 XB, .slice (some ⟨g, 0, none⟩) 2 2] W fun e w' => e = .returned (.int .u32 (xorW (rightW XB 7) (rightW XB 18))) ∧ ∃ k, w' = W.drewN k) := by
          intro W g hg
          have := turnedRight_any XB hB0 hB1 g 2 2 [7, 18] W hg rfl (by omega) (by decide)
          rwa [right2 XB 7 18 hB0 hB1 (by omega) (by omega)] at this
        have G8 : Hid (∀ (W : World) (g : Nat), KOw .i64 W g [17, 19] → Calls Tryd.prog 48 #[.int .u32 XD, .slice (some ⟨g, 0, none⟩) 2 2] W fun e w' => e = .returned (.int .u32 (xorW (rightW XD 17) (rightW XD 19))) ∧ ∃ k, w' = W.drewN k) := by
          intro W g hg
          have := turnedRight_any XD hD0 hD1 g 2 2 [17, 19] W hg rfl (by omega) (by decide)
          rwa [right2 XD 17 19 hD0 hD1 (by omega) (by omega)] at this
        go_cut [5, 7] from 7 to 61 (fun s i wx => s = .int .u32 (sig0 XB) ∧ i = .int .i64 ((j + 16 : Nat) : Int) ∧ ∃ q, wx = ((wr.alloc (.cells #[.int .i64 7, .int .i64 18] 2)).drewN q))
        case first =>
          clear hcA hcC hcD hcE hf Hp Hw G8
          go_region_with (go_at_call 48; refine (G7.out ((wr.alloc (.cells #[.int .i64 7, .int .i64 18] 2)).drew) wr.heap.size (kow_new wr .i64 2 [7, 18] _ rfl).drew).mono ?_; rintro e w' ⟨rfl, q, rfl⟩)
          all_goals
            go_wp2_with fail
            go_meet
            exact ⟨rfl, by simp, 1 + q, rfl⟩
        case rest =>
          obtain ⟨rfl, rfl, q, rfl⟩ := hcut
          have mk1 := (k1.alloc (.cells #[.int .i64 7, .int .i64 18] 2)).drewN q
          have mk2 := (k2.alloc (.cells #[.int .i64 7, .int .i64 18] 2)).drewN q
          have mb := ad (ab hbel (.cells #[.int .i64 7, .int .i64 18] 2)) q
          have hcs := fun i (hi : i < 64) => mk2.cell (i := i) (by rw [hpl.out]; exact hi)
          have hf2 := mk2.frozen (j + 16)
          have hg := fun i (hi : i < j + 16) => padded_get (sched l (j + 16)) 64 i (by rw [sched_len]; exact hi)
          have qA := hcs j (by omega)
          have qB := hcs (j + 1) (by omega)
          have qC := hcs (j + 9) (by omega)
          have qD := hcs (j + 14) (by omega)
          have qE := hcs (j + 16) (by omega)
          rw [hg _ (by omega)] at qA qB qC qD
          rw [EA.out] at qA
          rw [EB.out] at qB
          rw [EC.out] at qC
          rw [ED.out] at qD
          have mz := mk2.lt
          clear hcA hcB hcC hcD hcE hf hcs hg k1 k2 hbel hz
          generalize (wr.alloc (.cells #[.int .i64 7, .int .i64 18] 2)).drewN q = W2 at *
          go_upto_region 8 with fail
          go_cut [6, 7] from 7 to 61 (fun s i wx => s = .int .u32 (sig1 XD) ∧ i = .int .i64 ((j + 16 : Nat) : Int) ∧ ∃ q, wx = ((W2.alloc (.cells #[.int .i64 17, .int .i64 19] 2)).drewN q))
          case first =>
            clear qA qB qC qE hf2 Hp Hw
            go_region_with (go_at_call 48; refine (G8.out ((W2.alloc (.cells #[.int .i64 17, .int .i64 19] 2)).drew) W2.heap.size (kow_new W2 .i64 2 [17, 19] _ rfl).drew).mono ?_; rintro e w' ⟨rfl, q, rfl⟩)
            all_goals
              go_wp2_with fail
              go_meet
              exact ⟨rfl, by simp, 1 + q, rfl⟩
          case rest =>
            obtain ⟨rfl, rfl, q, rfl⟩ := hcut
            have nk1 := (mk1.alloc (.cells #[.int .i64 17, .int .i64 19] 2)).drewN q
            have nk2 := (mk2.alloc (.cells #[.int .i64 17, .int .i64 19] 2)).drewN q
            have nb := ad (ab mb (.cells #[.int .i64 17, .int .i64 19] 2)) q
            have hcs := fun i (hi : i < 64) => nk2.cell (i := i) (by rw [hpl.out]; exact hi)
            have hf := nk2.frozen (j + 16)
            have hg := fun i (hi : i < j + 16) => padded_get (sched l (j + 16)) 64 i (by rw [sched_len]; exact hi)
            have hcA := hcs j (by omega)
            have hcC := hcs (j + 9) (by omega)
            have hcE := hcs (j + 16) (by omega)
            rw [hg _ (by omega)] at hcA hcC
            rw [EA.out] at hcA
            rw [EC.out] at hcC
            clear qA qB qC qD qE hf2 hcs hg mk1 mk2 mb mz G7 G8
            generalize (W2.alloc (.cells #[.int .i64 17, .int .i64 19] 2)).drewN q = W3 at *
            have hS0 := sig0_bd XB hB0 hB1
            have hS1 := sig1_bd XD hD0 hD1
            have Hv := nextV Hw
            clear Hw
            generalize sig0 XB = S0 at *
            generalize sig1 XD = S1 at *
            obtain ⟨hS00, hS01⟩ := hS0
            obtain ⟨hS10, hS11⟩ := hS1
            go_upto_region 9 with fail
            go_region
            all_goals
              go_wp2
              refine ⟨⟨j + 16 + 1, by omega, by go_num, nk1.drew.far (by simp) _, ?_, (nb.drew).setCell (by simp) _⟩, by simp [intOf]; omega⟩
              have hsum : addW (addW (addW XA S0) XC) S1 = (XA + XC + S0 + S1) % 4294967296 := by unfold addW; omega
              rw [Hv.out, hsum, ← Hp.out]
              exact nk2.drew.set_ (j + 16) _
      · obtain rfl : t = 64 := by omega
        clear hz
        rw [padded_full _ _ (sched_len l 64)] at k2
        have hS := Shut.mk (sched_len l 64)
        obtain ⟨cs, hcs⟩ : ∃ cs, cs = ((sched l 64).map (Value.int .u32)).toArray := ⟨_, rfl⟩
        have hsz : cs.size = 64 := by rw [hcs]; simp [sched_len]
        have hone : cs.all (·.oneCell') = true := by
          rw [hcs, Array.all_eq_true_iff_forall_mem]
          intro v hv
          simp only [List.mem_toArray, List.mem_map] at hv
          obtain ⟨y, _, rfl⟩ := hv
          rfl
        have q2 : wr.heap[w.heap.size + 1]? = some (.cells cs 55 (0, 0)) := by rw [hcs]; exact k2
        have q1 : wr.heap[w.heap.size]? = some (.cells (zeroWords 64) 55 (0, 0)) := k1
        have HC := Shut.mk hcs
        have HZ := Shut.mk hsz
        have HO := Shut.mk hone
        have Q1 := Shut.mk q1
        have Q2 := Shut.mk q2
        clear k1 k2 hcs hsz hone q1 q2
        go_wp2_with (first | (refine wpList_load_row rfl 55 (.tmp 3) rfl (w.heap.size + 1) rfl 55 cs (0, 0) _ Q2.out Tryd.underlying55 rfl (by rw [HZ.out]; kernel_rfl) ?_) | (refine wpList_store_row rfl 55 (.tmp 2) (.tmp 62) rfl w.heap.size cs rfl rfl 55 (zeroWords 64) Q1.out (by rw [HZ.out]; kernel_rfl) (by rw [HZ.out]; rfl) HO.out ?_))
        refine bodyPost_ret (v := .agg cs) (results_cell_row (fn := Tryd.f42) Tryd.results42 _ _ w.heap.size 55 cs (0, 0) _ rfl (setRow_heap wr w.heap.size (zeroWords 64) cs 55 (0, 0) Q1.out) Tryd.underlying55 rfl (by rw [HZ.out]; kernel_rfl)) rfl ⟨by rw [HC.out], ?_⟩
        exact below_setRow hbel (Nat.le_refl _) _
end Go.Proofs.YtgmbofoneeagiaaDoor

/-! ShaS -/
/- SHA-256, of the program: a block. -/
namespace Go.Proofs.YtgmbofoneeagiaaDoor
open Go.RowKit

/-- the program's two tables lie as they are laid -/
structure Tabs (w : World) : Prop where
  first : ∃ t f, w.heap[0]? = some (.cells ((firstWords.map (Value.int .u32)).toArray) t f)
  round : ∃ t f, w.heap[1]? = some (.cells ((roundWords.map (Value.int .u32)).toArray) t f)
theorem Tabs.keep {w w' : World} (h : Tabs w) (hb : Below w.heap.size w w') : Tabs w' := by
  obtain ⟨⟨t, f, h1⟩, t', f', h2⟩ := h
  exact ⟨⟨t, f, (hb.block _ (Array.getElem?_eq_some_iff.1 h1).1).trans h1⟩, t', f', (hb.block _ (Array.getElem?_eq_some_iff.1 h2).1).trans h2⟩
theorem Tabs.roundAt {w : World} (h : Tabs w) (t : Nat) (ht : t < 64) : w.cell? ⟨1, t, none⟩ = some (.int .u32 (roundWords.getD t 0)) := by
  obtain ⟨ty, f, h2⟩ := h.round
  rw [cell_of_row w _ t _ ty f h2]
  have hl : roundWords.length = 64 := rfl
  simp [List.getD, List.getElem?_eq_getElem (show t < roundWords.length by omega)]

theorem step_zero (V : List Int) (k x : Int) : stepV V 0 ((k + x) % 4294967296) = stepV V k x := by
  have h : tOne V 0 ((k + x) % 4294967296) = tOne V k x := by unfold tOne addW; omega
  unfold stepV
  rw [h]

/-- a round, with its answer's eight words by name -/
theorem round8 {V0 V1 V2 V3 V4 V5 V6 V7 U0 U1 U2 U3 U4 U5 U6 U7 k x : Int} (hV : Wd [V0, V1, V2, V3, V4, V5, V6, V7]) (hU : stepV [V0, V1, V2, V3, V4, V5, V6, V7] k x = [U0, U1, U2, U3, U4, U5, U6, U7]) (w : World) :
    Calls Tryd.prog 43 #[.agg #[.int .u32 V0, .int .u32 V1, .int .u32 V2, .int .u32 V3, .int .u32 V4, .int .u32 V5, .int .u32 V6, .int .u32 V7], .int .u32 ((k + x) % 4294967296)] w fun e w' =>
      e = .returned (.agg #[.int .u32 U0, .int .u32 U1, .int .u32 U2, .int .u32 U3, .int .u32 U4, .int .u32 U5, .int .u32 U6, .int .u32 U7]) ∧ Below w.heap.size w w' := by
  have h := round_any V0 V1 V2 V3 V4 V5 V6 V7 ((k + x) % 4294967296) hV w
  rw [step_zero, hU] at h
  exact h

theorem list8x (L : List Int) (h : L.length = 8) : ∃ U0 U1 U2 U3 U4 U5 U6 U7, L = [U0, U1, U2, U3, U4, U5, U6, U7] := ⟨_, _, _, _, _, _, _, _, list8 L h⟩

theorem stored_row (W : World) (cs old : Array Value) (T : TypeId) :
    Below W.heap.size W ((W.alloc (.cells old T)).setRow W.heap.size cs) ∧ ((W.alloc (.cells old T)).setRow W.heap.size cs).heap[W.heap.size]? = some (.cells cs T (0, 0)) ∧ ((W.alloc (.cells old T)).setRow W.heap.size cs).heap.size = W.heap.size + 1 :=
  ⟨below_setRow (ab (Below.refl _ _) _) (Nat.le_refl _) _, setRow_heap _ _ _ _ _ _ (heap_alloc_new W _), by rw [size_setRow, World.size_alloc]⟩

theorem blockW_len8 (H l : List Int) : (blockW H l).length = 8 := by simp [blockW]

theorem idx64 (cs : Array Value) (t : Nat) (x : Int) (hc : cs[t]? = some (.int .u32 x)) (ht : t < 64) (w : World) :
    (Instr.index 55 (.agg cs) (.int .i64 (t : Int))).run Tryd.prog w = .ok (.int .u32 x) w := by
  obtain ⟨i, hi, hz0, hz1, hz2⟩ := info_parts info_u32
  simp [Instr.index, run_underlying Tryd.underlying55, asIntOf, isAgg, run_underlying Tryd.underlying44, Go.sizeOf, typeInfo, hi, hz1, hc, go_sem]
  intro h; omega
theorem idx8 (cs : Array Value) (t : Nat) (x : Int) (hc : cs[t]? = some (.int .u32 x)) (ht : t < 8) (w : World) :
    (Instr.index 46 (.agg cs) (.int .i64 (t : Int))).run Tryd.prog w = .ok (.int .u32 x) w := by
  obtain ⟨i, hi, hz0, hz1, hz2⟩ := info_parts info_u32
  simp [Instr.index, run_underlying Tryd.underlying46, asIntOf, isAgg, run_underlying Tryd.underlying44, Go.sizeOf, typeInfo, hi, hz1, hc, go_sem]
  intro h; omega

theorem KOw.full8 {w : World} {g : Nat} {a0 a1 a2 a3 a4 a5 a6 a7 : Int} (h : KOw .u32 w g [a0, a1, a2, a3, a4, a5, a6, a7]) :
    w.cell? ⟨g, 0, none⟩ = some (.int .u32 a0) ∧ w.cell? ⟨g, 1, none⟩ = some (.int .u32 a1) ∧ w.cell? ⟨g, 2, none⟩ = some (.int .u32 a2) ∧ w.cell? ⟨g, 3, none⟩ = some (.int .u32 a3) ∧ w.cell? ⟨g, 4, none⟩ = some (.int .u32 a4) ∧ w.cell? ⟨g, 5, none⟩ = some (.int .u32 a5) ∧ w.cell? ⟨g, 6, none⟩ = some (.int .u32 a6) ∧ w.cell? ⟨g, 7, none⟩ = some (.int .u32 a7) ∧
    w.frozen? ⟨g, 0, none⟩ = false ∧ w.frozen? ⟨g, 1, none⟩ = false ∧ w.frozen? ⟨g, 2, none⟩ = false ∧ w.frozen? ⟨g, 3, none⟩ = false ∧ w.frozen? ⟨g, 4, none⟩ = false ∧ w.frozen? ⟨g, 5, none⟩ = false ∧ w.frozen? ⟨g, 6, none⟩ = false ∧ w.frozen? ⟨g, 7, none⟩ = false :=
  ⟨h.cell 0 (by simp), h.cell 1 (by simp), h.cell 2 (by simp), h.cell 3 (by simp), h.cell 4 (by simp), h.cell 5 (by simp), h.cell 6 (by simp), h.cell 7 (by simp), h.frozen 0, h.frozen 1, h.frozen 2, h.frozen 3, h.frozen 4, h.frozen 5, h.frozen 6, h.frozen 7⟩

set_option maxRecDepth 100000 in
set_option maxHeartbeats 4000000 in
theorem block_any (H0 H1 H2 H3 H4 H5 H6 H7 : Int) (A : Option Addr) (bc : Nat) (l : List Int) (w : World) (hT : Tabs w) (hwd : Wd [H0, H1, H2, H3, H4, H5, H6, H7]) (h : Bs w A 64 l) (hbc : 64 ≤ bc) :
    Calls Tryd.prog 36 #[.agg #[.int .u32 H0, .int .u32 H1, .int .u32 H2, .int .u32 H3, .int .u32 H4, .int .u32 H5, .int .u32 H6, .int .u32 H7], .slice A 64 bc] w fun e w' =>
      e = .returned (.agg (((blockW [H0, H1, H2, H3, H4, H5, H6, H7] l).map (Value.int .u32)).toArray)) ∧ Below w.heap.size w w' := by
  go_enter Tryd.func36, Tryd.ntmps36
  go_wp2_with fail
  generalize hW : World.alloc (World.alloc w _) _ = W1
  have k1 : KOw .u32 W1 w.heap.size [H0, H1, H2, H3, H4, H5, H6, H7] := by
    rw [← hW]
    exact (kow_new w .u32 _ [H0, H1, H2, H3, H4, H5, H6, H7] _ rfl).alloc _
  have k2 : KOw .u32 W1 (w.heap.size + 1) [0, 0, 0, 0, 0, 0, 0, 0] := by
    rw [← hW]
    have := kow_new (w.alloc (.cells #[.int .u32 H0, .int .u32 H1, .int .u32 H2, .int .u32 H3, .int .u32 H4, .int .u32 H5, .int .u32 H6, .int .u32 H7] 46)) .u32 46 [0, 0, 0, 0, 0, 0, 0, 0] _ rfl
    rw [World.size_alloc] at this
    exact this
  have b1 : Below w.heap.size w W1 := by rw [← hW]; exact ab (ab (Below.refl _ _) _) _
  have z1 : W1.heap.size = w.heap.size + 2 := by rw [← hW]; simp
  clear hW
  refine (wordsOfBlock_any A bc l W1 (h.below b1) hbc).mono ?_
  rintro e W2 ⟨rfl, b2⟩
  have z2 := b2.size
  have m1 := k1.below b2 k1.lt
  have m2 := k2.below b2 k2.lt
  have B2 := ac b1 b2
  clear k1 k2 b1 b2
  obtain ⟨cs, hcs⟩ : ∃ cs, cs = ((sched l 64).map (Value.int .u32)).toArray := ⟨_, rfl⟩
  have hsz : cs.size = 64 := by rw [hcs]; simp [sched_len]
  have hone : cs.all (·.oneCell') = true := by
    rw [hcs, Array.all_eq_true_iff_forall_mem]
    intro v hv
    simp only [List.mem_toArray, List.mem_map] at hv
    obtain ⟨y, _, rfl⟩ := hv
    rfl
  rw [← hcs]
  have HZ := Shut.mk hsz
  have HO := Shut.mk hone
  have HC := Shut.mk hcs
  clear hcs hsz hone
  have Z1 := Shut.mk z1
  clear z1
  have c0 := m1.cell 0 (by simp)
  have c1 := m1.cell 1 (by simp)
  have c2 := m1.cell 2 (by simp)
  have c3 := m1.cell 3 (by simp)
  have c4 := m1.cell 4 (by simp)
  have c5 := m1.cell 5 (by simp)
  have c6 := m1.cell 6 (by simp)
  have c7 := m1.cell 7 (by simp)
  simp only [List.getD_cons_zero, List.getD_cons_succ] at c0 c1 c2 c3 c4 c5 c6 c7
  have z3 : w.heap.size < W2.heap.size := by rw [Z1.out] at z2; omega
  go_wp2_with (first | (refine wpList_store_row rfl 55 (.tmp 5) (.tmp 12) rfl W2.heap.size cs rfl rfl 55 _ (heap_alloc_new W2 _) (by rw [HZ.out]; kernel_rfl) (by rw [HZ.out]; rfl) HO.out ?_; obtain ⟨y1, y2, y3⟩ := stored_row W2 cs _ 55; generalize World.setRow _ _ _ = W3 at y1 y2 y3 ⊢; obtain ⟨f0, f1, f2⟩ := bcell y1; have Y2 := Shut.mk y2; have Y3 := Shut.mk y3; clear y2 y3) | (refine wpList_load_row rfl 55 (.tmp 5) rfl W2.heap.size rfl 55 cs (0, 0) _ ((Below.heap_alloc W3 _ W2.heap.size (by rw [Y3.out]; omega)).trans Y2.out) Tryd.underlying55 rfl (by rw [HZ.out]; kernel_rfl) ?_))
  have T3 : Tabs W3 := (hT.keep B2).keep y1
  have r1 := ((m1.below y1 (by omega)).alloc (.cells #[.int .u32 H0, .int .u32 H1, .int .u32 H2, .int .u32 H3, .int .u32 H4, .int .u32 H5, .int .u32 H6, .int .u32 H7] 46))
  have r2 := ((m2.below y1 m2.lt).alloc (.cells #[.int .u32 H0, .int .u32 H1, .int .u32 H2, .int .u32 H3, .int .u32 H4, .int .u32 H5, .int .u32 H6, .int .u32 H7] 46))
  have r3 := kow_new W3 .u32 46 [H0, H1, H2, H3, H4, H5, H6, H7] #[.int .u32 H0, .int .u32 H1, .int .u32 H2, .int .u32 H3, .int .u32 H4, .int .u32 H5, .int .u32 H6, .int .u32 H7] rfl
  have bW := ab (Below.refl W3.heap.size W3) (.cells #[.int .u32 H0, .int .u32 H1, .int .u32 H2, .int .u32 H3, .int .u32 H4, .int .u32 H5, .int .u32 H6, .int .u32 H7] 46)
  have B4 := ab (ac B2 y1) (.cells #[.int .u32 H0, .int .u32 H1, .int .u32 H2, .int .u32 H3, .int .u32 H4, .int .u32 H5, .int .u32 H6, .int .u32 H7] 46)
  have z4 : w.heap.size + 1 < W3.heap.size := by rw [Y3.out]; have := m2.lt; omega
  clear f0 f1 f2 y1 m1 m2 hT B2 z3 c0 c1 c2 c3 c4 c5 c6 c7 z2
  generalize W3.alloc _ = W4 at *
  go_loopw [15] (fun i wr => ∃ t : Nat, t ≤ 64 ∧ i = .int .i64 (t : Int) ∧ KOw .u32 wr W3.heap.size (roundsV [H0, H1, H2, H3, H4, H5, H6, H7] l t) ∧ Below W3.heap.size W4 wr) (fun i _ => 64 - (intOf i).toNat)
  case atStart => exact ⟨0, by omega, rfl, r3, Below.refl _ _⟩
  case round =>
    clear r3
    obtain ⟨t, ht, rfl, k3, hbel⟩ := hrel
    have Tr := T3.keep (bW.trans hbel)
    have hz := k3.lt
    have hV8 := roundsV_len [H0, H1, H2, H3, H4, H5, H6, H7] l rfl t
    have hVw := roundsV_wd [H0, H1, H2, H3, H4, H5, H6, H7] l hwd t
    by_cases hlt : t < 64
    · have hU8 := roundsV_len [H0, H1, H2, H3, H4, H5, H6, H7] l rfl (t + 1)
      have hc0 := Tr.roundAt t hlt
      have hs : roundsV [H0, H1, H2, H3, H4, H5, H6, H7] l (t + 1) = stepV (roundsV [H0, H1, H2, H3, H4, H5, H6, H7] l t) (roundWords.getD t 0) ((sched l 64).getD t 0) := rfl
      have hix : cs[t]? = some (.int .u32 ((sched l 64).getD t 0)) := by
        rw [HC.out]
        have := sched_len l 64
        simp [List.getD, List.getElem?_eq_getElem (show t < (sched l 64).length by omega)]
      have hi := idx64 cs t _ hix hlt
      have hsw := sched_word l h.byte 64 t
      have hrw := roundWords_wd t
      have HR := Shut.mk hs
      clear hs hix Tr
      generalize (sched l 64).getD t 0 = WT at *
      generalize roundWords.getD t 0 = KT at *
      obtain ⟨U0, U1, U2, U3, U4, U5, U6, U7, hU⟩ := list8x _ hU8
      obtain ⟨V0, V1, V2, V3, V4, V5, V6, V7, hV⟩ := list8x _ hV8
      rw [hU, hV] at HR
      rw [hV] at hVw k3
      have G := fun (W : World) (hk : KOw .u32 W W3.heap.size [V0, V1, V2, V3, V4, V5, V6, V7]) => (round8 hVw HR.out.symm W).mono (fun e w' (h : _ ∧ _) => (⟨h.1, h.2, (hk.below h.2 hk.lt).full8⟩ : _ ∧ _ ∧ _))
      have G' := Shut.mk G
      have HU := Shut.mk hU
      have c0 := k3.cell 0 (by simp)
      have c1 := k3.cell 1 (by simp)
      have c2 := k3.cell 2 (by simp)
      have c3 := k3.cell 3 (by simp)
      have c4 := k3.cell 4 (by simp)
      have c5 := k3.cell 5 (by simp)
      have c6 := k3.cell 6 (by simp)
      have c7 := k3.cell 7 (by simp)
      simp only [List.getD_cons_zero, List.getD_cons_succ] at c0 c1 c2 c3 c4 c5 c6 c7
      clear hU hV hU8 hV8 hVw G HR
      obtain ⟨hs0, hs1⟩ := hsw
      obtain ⟨hr0, hr1⟩ := hrw
      have hti : (t : Int) < 64 := by omega
      go_wp2
      clear hi
      go_region_with (go_at_call 43; refine (G'.out _ k3.drew).mono ?_; rintro e w' ⟨rfl, hb, x0, x1, x2, x3, x4, x5, x6, x7, y0, y1, y2, y3, y4, y5, y6, y7⟩)
      all_goals
        clear x0 x1 x2 x3 x4 x5 x6 x7 y0 y1 y2 y3 y4 y5 y6 y7 c0 c1 c2 c3 c4 c5 c6 c7 hc0
        go_wp2
        refine ⟨⟨t + 1, by omega, by go_num, ?_, below8 ((hbel.drew).trans (hb.mono (Nat.le_of_lt hz))) (Nat.le_refl _) _ _ _ _ _ _ _ _⟩, by simp [intOf]; omega⟩
        rw [HU.out]
        exact set8 rfl ((k3.drew).below hb k3.lt) U0 U1 U2 U3 U4 U5 U6 U7
    · obtain rfl : t = 64 := by omega
      have q1 := r1.below hbel (by omega)
      have q2 := r2.below hbel z4
      have Bq := B4.trans (hbel.mono (by omega))
      have Hm : Shut (∀ m, m < 8 → (mixTo [H0, H1, H2, H3, H4, H5, H6, H7] (roundsV [H0, H1, H2, H3, H4, H5, H6, H7] l 64) m).set m (addW ([H0, H1, H2, H3, H4, H5, H6, H7].getD m 0) ((roundsV [H0, H1, H2, H3, H4, H5, H6, H7] l 64).getD m 0)) = mixTo [H0, H1, H2, H3, H4, H5, H6, H7] (roundsV [H0, H1, H2, H3, H4, H5, H6, H7] l 64) (m + 1)) := ⟨fun m hm => mixTo_set _ _ m hm⟩
      have Hall := Shut.mk (mixTo_all [H0, H1, H2, H3, H4, H5, H6, H7] l)
      generalize roundsV [H0, H1, H2, H3, H4, H5, H6, H7] l 64 = VV at *
      obtain ⟨V0, V1, V2, V3, V4, V5, V6, V7, rfl⟩ := list8x _ hV8
      have c0 := k3.cell 0 (by simp)
      have c1 := k3.cell 1 (by simp)
      have c2 := k3.cell 2 (by simp)
      have c3 := k3.cell 3 (by simp)
      have c4 := k3.cell 4 (by simp)
      have c5 := k3.cell 5 (by simp)
      have c6 := k3.cell 6 (by simp)
      have c7 := k3.cell 7 (by simp)
      simp only [List.getD_cons_zero, List.getD_cons_succ] at c0 c1 c2 c3 c4 c5 c6 c7
      clear k3 hbel r1 r2 T3 bW B4 Tr hz hV8
      obtain ⟨w5, rfl⟩ : ∃ x, x = wr := ⟨_, rfl⟩
      go_wp2
      clear c0 c1 c2 c3 c4 c5 c6 c7
      go_loopw [28] (fun i wq => ∃ m : Nat, m ≤ 8 ∧ i = .int .i64 (m : Int) ∧ KOw .u32 wq w.heap.size (mixTo [H0, H1, H2, H3, H4, H5, H6, H7] [V0, V1, V2, V3, V4, V5, V6, V7] m) ∧ KOw .u32 wq (w.heap.size + 1) [0, 0, 0, 0, 0, 0, 0, 0] ∧ Below w.heap.size w wq) (fun i _ => 8 - (intOf i).toNat)
      case atStart => exact ⟨0, by omega, rfl, by rw [mixTo_zero _ _ rfl]; exact q1, q2, Bq⟩
      case round =>
        clear q1 q2 Bq
        obtain ⟨m, hm, rfl, q1, q2, Bq⟩ := hrel
        by_cases hlm : m < 8
        · have hml := mixTo_len [H0, H1, H2, H3, H4, H5, H6, H7] [V0, V1, V2, V3, V4, V5, V6, V7] m
          have p0 := q1.cell m (by omega)
          rw [mixTo_get _ _ _ hlm] at p0
          have pf := q1.frozen m
          have r0 := hwd.get m
          have r1 := hVw.get m
          have hix : (#[Value.int .u32 V0, .int .u32 V1, .int .u32 V2, .int .u32 V3, .int .u32 V4, .int .u32 V5, .int .u32 V6, .int .u32 V7] : Array Value)[m]? = some (.int .u32 ([V0, V1, V2, V3, V4, V5, V6, V7].getD m 0)) := by
            have e : m = 0 ∨ m = 1 ∨ m = 2 ∨ m = 3 ∨ m = 4 ∨ m = 5 ∨ m = 6 ∨ m = 7 := by omega
            rcases e with rfl | rfl | rfl | rfl | rfl | rfl | rfl | rfl <;> rfl
          have hi := idx8 _ m _ hix hlm
          have Hset := Shut.mk (Hm.out m hlm)
          generalize [H0, H1, H2, H3, H4, H5, H6, H7].getD m 0 = HM at *
          generalize [V0, V1, V2, V3, V4, V5, V6, V7].getD m 0 = VM at *
          obtain ⟨r00, r01⟩ := r0
          obtain ⟨r10, r11⟩ := r1
          have hmi : (m : Int) < 8 := by omega
          clear hml hix
          go_wp2
          refine ⟨⟨m + 1, by omega, by go_num, ?_, q2.far (by simp) _, Bq.setCell (Nat.le_refl _) _⟩, by simp [intOf]; omega⟩
          rw [← Hset.out]
          exact q1.set_ m (by rw [mixTo_len]; exact hlm) _
        · obtain rfl : m = 8 := by omega
          rw [Hall.out] at q1
          have hB8 := blockW_len8 [H0, H1, H2, H3, H4, H5, H6, H7] l
          obtain ⟨X0, X1, X2, X3, X4, X5, X6, X7, hX⟩ := list8x _ hB8
          have HX := Shut.mk hX
          rw [hX] at q1
          obtain ⟨e0, e1, e2, e3, e4, e5, e6, e7, g0, g1, g2, g3, g4, g5, g6, g7⟩ := q1.full8
          obtain ⟨f0, f1, f2, f3, f4, f5, f6, f7, h0, h1, h2, h3, h4, h5, h6, h7⟩ := q2.full8
          clear hX hB8 Hm Hall hwd hVw
          go_wp2
          have q4 := set8 rfl q2 X0 X1 X2 X3 X4 X5 X6 X7
          have b4 := below8 Bq (show w.heap.size ≤ w.heap.size + 1 by omega) (.int .u32 X0) (.int .u32 X1) (.int .u32 X2) (.int .u32 X3) (.int .u32 X4) (.int .u32 X5) (.int .u32 X6) (.int .u32 X7)
          clear e0 e1 e2 e3 e4 e5 e6 e7 g0 g1 g2 g3 g4 g5 g6 g7 f0 f1 f2 f3 f4 f5 f6 f7 h0 h1 h2 h3 h4 h5 h6 h7
          generalize World.setCell _ ⟨w.heap.size + 1, 7, none⟩ _ = W9 at *
          obtain ⟨c0, c1, c2, c3, c4, c5, c6, c7, _⟩ := q4.full8
          refine bodyPost_ret (v := .agg #[.int .u32 X0, .int .u32 X1, .int .u32 X2, .int .u32 X3, .int .u32 X4, .int .u32 X5, .int .u32 X6, .int .u32 X7]) (by simp [results, Tryd.results36, go_sem, c0, c1, c2, c3, c4, c5, c6, c7]) rfl ⟨?_, b4⟩
          rw [HX.out]
          rfl
end Go.Proofs.YtgmbofoneeagiaaDoor
