/- SHA-256, of the program: words. -/
import Derived.Test.YtabhcolfkkfonaaDoorShaD
import Derived.Laws.Rows
import Derived.Laws.Tables
namespace Go.Proofs.YtabhcolfkkfonaaDoor
open Go.RowKit

/-- x turned right by each of these, all xored -/
def rightAll (x : Int) (rs : List Int) : Int := rs.foldl (fun m r => xorW m (rightW x r)) 0
theorem rightAll_snoc (x r : Int) (rs : List Int) : rightAll x (rs ++ [r]) = xorW (rightAll x rs) (rightW x r) := by simp [rightAll]
theorem xorW_zero (a : Int) (h0 : 0 ≤ a) (h1 : a < 4294967296) : xorW 0 a = a := by
  unfold xorW
  rw [u32_xor 0 a (by omega) (by omega) h0 h1]
  simp; omega
theorem rightAll_bd (x : Int) (h0 : 0 ≤ x) (h1 : x < 4294967296) (rs : List Int) (hr : ∀ r ∈ rs, 1 ≤ r ∧ r ≤ 31) : 0 ≤ rightAll x rs ∧ rightAll x rs < 4294967296 := by
  have key : ∀ (rs : List Int) (m : Int), (∀ r ∈ rs, 1 ≤ r ∧ r ≤ 31) → 0 ≤ m → m < 4294967296 → 0 ≤ rs.foldl (fun m r => xorW m (rightW x r)) m ∧ rs.foldl (fun m r => xorW m (rightW x r)) m < 4294967296 := by
    intro rs
    induction rs with
    | nil => intro m _ a b; exact ⟨a, b⟩
    | cons r rs ih =>
      intro m h a b
      have hr := h r (by simp)
      have h2 := rightW_bd x r h0 h1 hr.1 hr.2
      have h3 := xorW_bd m _ a b h2.1 h2.2
      exact ih _ (fun y hy => h y (by simp [hy])) h3.1 h3.2
  exact key rs 0 hr (by omega) (by omega)
theorem right2 (x a b : Int) (h0 : 0 ≤ x) (h1 : x < 4294967296) (ha : 1 ≤ a) (ha1 : a ≤ 31) : rightAll x [a, b] = xorW (rightW x a) (rightW x b) := by
  have h2 := rightW_bd x a h0 h1 ha ha1
  simp only [rightAll, List.foldl_cons, List.foldl_nil]
  rw [xorW_zero _ h2.1 h2.2]
theorem right3 (x a b c : Int) (h0 : 0 ≤ x) (h1 : x < 4294967296) (ha : 1 ≤ a) (ha1 : a ≤ 31) : rightAll x [a, b, c] = xorW (xorW (rightW x a) (rightW x b)) (rightW x c) := by
  have h2 := rightW_bd x a h0 h1 ha ha1
  simp only [rightAll, List.foldl_cons, List.foldl_nil]
  rw [xorW_zero _ h2.1 h2.2]

theorem take_get (rs : List Int) (k : Nat) (h : k < rs.length) : rs.take (k + 1) = rs.take k ++ [rs.getD k 0] := by
  rw [List.take_succ_eq_append_getElem h]
  simp [List.getD, List.getElem?_eq_getElem h]

theorem turnedRight_any (x : Int) (h0 : 0 ≤ x) (h1 : x < 4294967296) (g n c : Nat) (rs : List Int) (w : World) (h : KOw .i64 w g rs) (hn : rs.length = n) (hn2 : n ≤ 1000) (hr : ∀ r ∈ rs, 1 ≤ r ∧ r ≤ 31) :
    Calls Tryd.prog 69 #[.int .u32 x, .slice (some ⟨g, 0, none⟩) n c] w fun e w' => e = .returned (.int .u32 (rightAll x rs)) ∧ ∃ k, w' = w.drewN k := by
  have Hn := Lib.hid hn
  clear hn
  go_enter Tryd.func69, Tryd.ntmps69
  go_wp2
  go_loopw [5, 10] (fun m i wr => ∃ k : Nat, k ≤ n ∧ i = .int .i64 k ∧ m = .int .u32 (rightAll x (rs.take k)) ∧ ∃ q, wr = w.drewN q) (fun _ i _ => n - (intOf i).toNat)
  case atStart => exact ⟨0, Nat.zero_le _, rfl, rfl, 0, rfl⟩
  case round =>
    obtain ⟨k, hk, rfl, rfl, q, rfl⟩ := hrel
    by_cases hlt : k < n
    · have hc := (h.drewN q).cell k (by rw [Hn.out]; exact hlt)
      have Hs := Lib.hid (take_get rs k (by rw [Hn.out]; exact hlt))
      have hb : 1 ≤ rs.getD k 0 ∧ rs.getD k 0 ≤ 31 := by
        have e : rs.getD k 0 = rs[k]'(by rw [Hn.out]; exact hlt) := by simp [List.getD, List.getElem?_eq_getElem (show k < rs.length by rw [Hn.out]; exact hlt)]
        rw [e]; exact hr _ (List.getElem_mem _)
      have hm := rightAll_bd x h0 h1 (rs.take k) (fun r hh => hr r (List.mem_of_mem_take hh))
      generalize hR : rs.getD k 0 = R at *
      have HR := Lib.hid hR
      obtain ⟨hb0, hb1⟩ := hb
      obtain ⟨hm0, hm1⟩ := hm
      clear hR
      have Hx : Hid (xorW (rightAll x (rs.take k)) (turn x (32 - R)) = rightAll x (rs.take (k + 1))) := by
        show xorW _ _ = _
        rw [Hs.out, rightAll_snoc]; rfl
      generalize rightAll x (rs.take k) = M at *
      go_wp2_with fail
      refine (turnLeft_any _ _ (by omega) (by omega) _).mono ?_
      rintro e w' ⟨rfl, q2, rfl⟩
      go_wp2
      refine ⟨⟨k + 1, by omega, by go_num, by rw [← Hx.out]; rfl, q + q2, rfl⟩, by simp [intOf]; omega⟩
    · obtain rfl : k = n := by omega
      go_wp2
      go_ret
      exact ⟨by rw [List.take_of_length_le (by rw [Hn.out]; exact Nat.le_refl _)]; rfl, q, rfl⟩

theorem hi_small (l : List Int) (h : By l) (k : Nat) (hk : k ≤ 3) : 0 ≤ hi (l.take k) ∧ hi (l.take k) < 16777216 := by
  have h1 := hi_bd (l.take k) (fun x hx => h x (List.mem_of_mem_take hx))
  have h2 : ∀ m : Nat, m < 4 → (256 : Int) ^ m ≤ 16777216 := by decide
  have h3 := h2 (l.take k).length (by have := List.length_take_le k l; omega)
  omega
theorem or_byte_u32 (a x : Int) (ha0 : 0 ≤ a) (ha1 : a < 16777216) (hx0 : 0 ≤ x) (hx1 : x < 256) : bits BinOp.or IntKind.u32 (a * 256) x = a * 256 + x := by
  obtain ⟨a, rfl⟩ := Int.eq_ofNat_of_zero_le ha0
  obtain ⟨x, rfl⟩ := Int.eq_ofNat_of_zero_le hx0
  have e : ((a : Int) * 256) = ((a * 256 : Nat) : Int) := by omega
  have h := Nat.shiftLeft_add_eq_or_of_lt (i := 8) (b := x) (by omega) a
  rw [Nat.shiftLeft_eq] at h
  rw [e, u32_or _ _ (by omega) (by omega) (by omega) (by omega)]
  simp only [Int.toNat_natCast]
  rw [← h]
  rfl

theorem joinHighW_any (A : Option Addr) (n c : Nat) (l : List Int) (w : World) (h : Bs w A n l) (hn : n ≤ 4) :
    Calls Tryd.prog 68 #[.slice A n c] w fun e w' => e = .returned (.int .u32 (hi l)) ∧ w = w' := by
  have Hl := Lib.hid h.len
  go_enter Tryd.func68, Tryd.ntmps68
  go_wp2
  go_loop [3, 8] (fun t i => ∃ k : Nat, k ≤ n ∧ i = .int .i64 k ∧ t = .int .u32 (hi (l.take k))) (fun _ i => n - (intOf i).toNat)
  case atStart => exact ⟨0, Nat.zero_le _, rfl, rfl⟩
  case round =>
    obtain ⟨k, hk, rfl, rfl⟩ := hrel
    by_cases hlt : k < n
    · obtain ⟨b, off, X, rfl, hbs, hX0, hX1, HX, hx⟩ := h.get hlt
      have Hs := Lib.hid (take_hi l k (by rw [Hl.out]; exact hlt))
      obtain ⟨hb0, hb1⟩ := hi_small l h.byte k (by omega)
      have Ho := Lib.hid (or_byte_u32 _ X hb0 hb1 hX0 hX1)
      go_wp2
      exact ⟨⟨k + 1, by omega, by go_num, by rw [Ho.out, Hs.out, HX.out]⟩, by simp [intOf]; omega⟩
    · obtain rfl : k = n := by omega
      go_wp2
      go_ret
      exact ⟨by rw [List.take_of_length_le (by rw [Hl.out]; exact Nat.le_refl _)]; rfl, rfl⟩
end Go.Proofs.YtabhcolfkkfonaaDoor
