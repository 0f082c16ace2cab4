/- The sixteen lowest bytes of five limbs, of the program (gen_tag.py). -/
import Derived.Test.YtpoiecdifhkegaaDoorFiveP
import Derived.Test.YtpoiecdifhkegaaDoorWordP
import Derived.Test.YtpoiecdifhkegaaDoorCopyP
import Derived.Lib.SliceRun
namespace Go.Proofs.YtpoiecdifhkegaaDoor
open Go.RowKit

set_option maxRecDepth 100000 in
set_option maxHeartbeats 1000000 in
/-- slices.Clone of sixteen bytes -/
theorem clone_any (b off c : Nat) (l : List Int) (w : World) (h : Bs w (some ⟨b, off, none⟩) 16 l) :
    Calls Tryd.prog 76 #[.slice (some ⟨b, off, none⟩) 16 c] w fun e w' => (∃ g c', e = .returned (.slice (some ⟨g, 0, none⟩) 16 c') ∧ Row w' w.heap.size (.slice (some ⟨g, 0, none⟩) 16 c') l) ∧ Below w.heap.size w w' := by
  have q22 : ∀ (w : World) (a : Option Addr) (n c n' c' : Nat), (binOp .eql 22 (.slice a n c) (.slice none n' c')).run Tryd.prog w = .ok (.bool a.isNone) w := fun w a n c n' c' => Lib.run_eql_slice_nil w _ _ a n c n' c' Tryd.underlying22
  have e0 : Row (w.alloc (.cells #[] 5)) w.heap.size (.slice (some ⟨w.heap.size, 0, none⟩) 0 0) [] := Row.room w 0 (by omega) _ rfl
  have h1 := h.below (ab (Below.refl _ w) (.cells #[] 5))
  have Hl := Shut.mk h.len
  go_enter Tryd.func76, Tryd.ntmps76
  go_wp2_with (at_builtin; refine wpList_row_join rfl _ _ rfl _ w.heap.size (.slice (some ⟨w.heap.size, 0, none⟩) 0 0) _ _ rfl e0 (by simp) (some ⟨b, off, none⟩) 16 c rfl h1 (fun e => by cases e) (by simp) ?_; intro v4 w4 hr4 hb4 hs4)
  obtain ⟨A5, c5, rfl, ho⟩ := hr4.ow Hl.out
  obtain ⟨g, rfl, hgB, hgl, hcell, hfz⟩ := ho.at_ (by omega)
  go_ret
  exact ⟨⟨g, c5, rfl, hr4⟩, (ab (Below.refl _ w) _).trans hb4⟩

/-- bytes put over a list's places from at_ on, by or -/
def orTo (L bs : List Int) (at_ : Nat) : Nat → List Int
  | 0 => L
  | k + 1 => (orTo L bs at_ k).set (at_ + k) (bits .or .u8 ((orTo L bs at_ k).getD (at_ + k) 0) (bs.getD k 0))
theorem orTo_len (L bs : List Int) (at_ k : Nat) : (orTo L bs at_ k).length = L.length := by
  induction k with
  | zero => rfl
  | succ k ih => rw [orTo, List.length_set, ih]
def tagTo (l : List Int) : Nat → List Int
  | 0 => List.replicate 17 0
  | k + 1 => orTo (tagTo l k) (lowOf (l.getD k 0 * 2 ^ (26 * k % 8)) 4) (26 * k / 8) 4
theorem tagTo_len (l : List Int) (k : Nat) : (tagTo l k).length = 17 := by
  induction k with
  | zero => rfl
  | succ k ih => rw [tagTo, orTo_len, ih]
theorem or8 (k : Nat) (x y : Nat) (hx : x < 256) (hy : y < 256) (h0 : x < 2 ^ k) (h1 : y % 2 ^ k = 0) : bits .or .u8 (x : Int) (y : Int) = (x : Int) + (y : Int) := by
  rw [u8_or_nat x y hx hy, Nat.or_comm, nat_join k y x h1 h0]
  push_cast
  omega
theorem or8_4 (x y : Int) (hx0 : 0 ≤ x) (hx1 : x < 4) (hy0 : 0 ≤ y) (hy1 : y < 256) (hy : y % 4 = 0) : bits .or .u8 x y = x + y := by
  obtain ⟨x, rfl⟩ := Int.eq_ofNat_of_zero_le hx0
  obtain ⟨y, rfl⟩ := Int.eq_ofNat_of_zero_le hy0
  exact or8 2 x y (by omega) (by omega) (by omega) (by omega)
theorem or8_16 (x y : Int) (hx0 : 0 ≤ x) (hx1 : x < 16) (hy0 : 0 ≤ y) (hy1 : y < 256) (hy : y % 16 = 0) : bits .or .u8 x y = x + y := by
  obtain ⟨x, rfl⟩ := Int.eq_ofNat_of_zero_le hx0
  obtain ⟨y, rfl⟩ := Int.eq_ofNat_of_zero_le hy0
  exact or8 4 x y (by omega) (by omega) (by omega) (by omega)
theorem or8_64 (x y : Int) (hx0 : 0 ≤ x) (hx1 : x < 64) (hy0 : 0 ≤ y) (hy1 : y < 256) (hy : y % 64 = 0) : bits .or .u8 x y = x + y := by
  obtain ⟨x, rfl⟩ := Int.eq_ofNat_of_zero_le hx0
  obtain ⟨y, rfl⟩ := Int.eq_ofNat_of_zero_le hy0
  exact or8 6 x y (by omega) (by omega) (by omega) (by omega)
theorem or8_0 (y : Int) (hy0 : 0 ≤ y) (hy1 : y < 256) : bits .or .u8 0 y = y := by
  obtain ⟨y, rfl⟩ := Int.eq_ofNat_of_zero_le hy0
  have := or8 0 0 y (by omega) (by omega) (by omega) (by omega)
  simpa using this
theorem lowOf_four (n : Int) : lowOf n 4 = [n % 256, n / 256 % 256, n / 65536 % 256, n / 16777216 % 256] := by
  simp [lowOf, List.range, List.range.loop]
theorem tag_bytes (a b c d e : Int) (ha : 0 ≤ a ∧ a < 67108864) (hb : 0 ≤ b ∧ b < 67108864) (hc : 0 ≤ c ∧ c < 67108864) (hd : 0 ≤ d ∧ d < 67108864) :
    (tagTo [a, b, c, d, e] 5).take 16 = lowOf (val5 [a, b, c, d, e]) 16 := by
  have h0 : tagTo [a, b, c, d, e] 5 = orTo (orTo (orTo (orTo (orTo (List.replicate 17 0) (lowOf a 4) 0 4) (lowOf (b * 4) 4) 3 4) (lowOf (c * 16) 4) 6 4) (lowOf (d * 64) 4) 9 4) (lowOf e 4) 13 4 := by
    simp [tagTo]
  rw [h0]
  simp only [lowOf_four]
  simp only [orTo, List.replicate, List.set_cons_zero, List.set_cons_succ, List.getD_cons_zero, List.getD_cons_succ, Nat.reduceAdd, Nat.add_zero, Nat.zero_add]
  simp (disch := omega) only [or8_0]
  rw [or8_4 (a / 16777216 % 256) (b * 4 % 256) (by omega) (by omega) (by omega) (by omega) (by omega), or8_16 (b * 4 / 16777216 % 256) (c * 16 % 256) (by omega) (by omega) (by omega) (by omega) (by omega), or8_64 (c * 16 / 16777216 % 256) (d * 64 % 256) (by omega) (by omega) (by omega) (by omega) (by omega)]
  have l16 : ∀ n : Int, lowOf n 16 = [n % 256, n / 256 % 256, n / 65536 % 256, n / 16777216 % 256, n / 4294967296 % 256, n / 1099511627776 % 256, n / 281474976710656 % 256, n / 72057594037927936 % 256, n / 18446744073709551616 % 256, n / 4722366482869645213696 % 256, n / 1208925819614629174706176 % 256, n / 309485009821345068724781056 % 256, n / 79228162514264337593543950336 % 256, n / 20282409603651670423947251286016 % 256, n / 5192296858534827628530496329220096 % 256, n / 1329227995784915872903807060280344576 % 256] := fun n => by
    simp [lowOf, List.range, List.range.loop]
  rw [l16]
  simp only [List.take_succ_cons, List.take_zero, List.cons.injEq, and_true, val5, List.getD_cons_zero, List.getD_cons_succ]
  refine ⟨?_, ?_, ?_, ?_, ?_, ?_, ?_, ?_, ?_, ?_, ?_, ?_, ?_, ?_, ?_, ?_⟩ <;> omega
theorem KB.bs_take {t : TypeId} {w : World} {g : Nat} {L r : List Int} (h : KB .u8 t w g L) (e : L.take 16 = r) (hr : By r) (hl : 16 ≤ L.length) : Bs w (some ⟨g, 0, none⟩) 16 r := by
  subst e
  refine ⟨by rw [List.length_take]; omega, hr, fun hp => ⟨g, 0, rfl, h.lt, fun i hi => ?_⟩⟩
  rw [Nat.zero_add, h.cell (by omega)]
  simp [List.getD, List.getElem?_take_of_lt hi]
theorem KB.of_eq {k : IntKind} {t : TypeId} {w : World} {b : Nat} {l l' : List Int} (e : l = l') (h : KB k t w b l') : KB k t w b l := e ▸ h

set_option maxRecDepth 100000 in
set_option maxHeartbeats 8000000 in
theorem tag_any (a b c d e : Int) (w : World) (ha : 0 ≤ a ∧ a < 67108864) (hb : 0 ≤ b ∧ b < 67108864) (hc : 0 ≤ c ∧ c < 67108864) (hd : 0 ≤ d ∧ d < 67108864) (he : 0 ≤ e ∧ e < 67108864) :
    Calls Tryd.prog 64 #[.agg #[.int .u64 a, .int .u64 b, .int .u64 c, .int .u64 d, .int .u64 e]] w fun r w' =>
      (∃ g c', r = .returned (.slice (some ⟨g, 0, none⟩) 16 c') ∧ Row w' w.heap.size (.slice (some ⟨g, 0, none⟩) 16 c') (lowOf (val5 [a, b, c, d, e]) 16)) ∧ Below w.heap.size w w' := by
  have HT := Shut.mk (tag_bytes a b c d e ha hb hc hd)
  have HL := Shut.mk (tagTo_len [a, b, c, d, e])
  have HS : Shut (∀ k, tagTo [a, b, c, d, e] (k + 1) = orTo (tagTo [a, b, c, d, e] k) (lowOf ([a, b, c, d, e].getD k 0 * 2 ^ (26 * k % 8)) 4) (26 * k / 8) 4) := ⟨fun _ => rfl⟩
  have k1 : KB .u8 102 ((w.alloc (.cells #[.int .u64 a, .int .u64 b, .int .u64 c, .int .u64 d, .int .u64 e] 83)).alloc (.cells #[.int .u8 0, .int .u8 0, .int .u8 0, .int .u8 0, .int .u8 0, .int .u8 0, .int .u8 0, .int .u8 0, .int .u8 0, .int .u8 0, .int .u8 0, .int .u8 0, .int .u8 0, .int .u8 0, .int .u8 0, .int .u8 0, .int .u8 0] 102)) (w.heap.size + 1) (tagTo [a, b, c, d, e] 0) := by
    have := KB.new (k := .u8) (t := 102) (w.alloc (.cells #[.int .u64 a, .int .u64 b, .int .u64 c, .int .u64 d, .int .u64 e] 83)) (List.replicate 17 0) #[.int .u8 0, .int .u8 0, .int .u8 0, .int .u8 0, .int .u8 0, .int .u8 0, .int .u8 0, .int .u8 0, .int .u8 0, .int .u8 0, .int .u8 0, .int .u8 0, .int .u8 0, .int .u8 0, .int .u8 0, .int .u8 0, .int .u8 0] rfl
    rwa [World.size_alloc] at this
  have B1 := ab (ab (Below.refl _ w) (.cells #[.int .u64 a, .int .u64 b, .int .u64 c, .int .u64 d, .int .u64 e] 83)) (.cells #[.int .u8 0, .int .u8 0, .int .u8 0, .int .u8 0, .int .u8 0, .int .u8 0, .int .u8 0, .int .u8 0, .int .u8 0, .int .u8 0, .int .u8 0, .int .u8 0, .int .u8 0, .int .u8 0, .int .u8 0, .int .u8 0, .int .u8 0] 102)
  go_enter Tryd.func64, Tryd.ntmps64
  go_wp2
  generalize hW : (w.alloc (.cells #[.int .u64 a, .int .u64 b, .int .u64 c, .int .u64 d, .int .u64 e] 83)).alloc (.cells #[.int .u8 0, .int .u8 0, .int .u8 0, .int .u8 0, .int .u8 0, .int .u8 0, .int .u8 0, .int .u8 0, .int .u8 0, .int .u8 0, .int .u8 0, .int .u8 0, .int .u8 0, .int .u8 0, .int .u8 0, .int .u8 0, .int .u8 0] 102) = W1 at *
  clear hW
  go_loopw [11] (fun i wr => ∃ k : Nat, k ≤ 5 ∧ i = .int .i64 (k : Int) ∧ KB .u8 102 wr (w.heap.size + 1) (tagTo [a, b, c, d, e] k) ∧ Below w.heap.size w wr) (fun i _ => 5 - (intOf i).toNat)
  case atStart => exact ⟨0, by omega, rfl, k1, B1⟩
  case round =>
    clear k1 B1
    obtain ⟨k, hk, rfl, hw, hB⟩ := hrel
    obtain ⟨i0, i1, i2, i3, i4⟩ := idx5s a b c d e wr
    by_cases hlk : k < 5
    · have e5 : k = 0 ∨ k = 1 ∨ k = 2 ∨ k = 3 ∨ k = 4 := by omega
      rcases e5 with rfl | rfl | rfl | rfl | rfl
      · have hs : tagTo [a, b, c, d, e] 1 = orTo (tagTo [a, b, c, d, e] 0) (lowOf a 4) 0 4 := by rw [HS.out]; simp
        have Hs := Shut.mk hs
        have hl := HL.out 0
        clear hs
        generalize tagTo [a, b, c, d, e] 0 = L at *
        go_wp2_with fail
        refine (spreadLowW_any a 4 _ (by omega)).mono ?_
        rintro r w2 ⟨rfl, hblk, b2⟩
        have hw2 := hw.below b2 hw.lt
        have B2 := ac hB b2
        have hgl := hw.lt
        have hlo := Shut.mk (lowOf_len a 4)
        generalize lowOf a 4 = Q at *
        have hw3 : KB .u8 102 w2 (w.heap.size + 1) (orTo L Q 0 0) := hw2
        clear hw hw2 b2 hB
        go_wp2
        obtain ⟨m, hm⟩ : ∃ m, m = wr.heap.size := ⟨_, rfl⟩
        have hmne : ¬ m = w.heap.size + 1 := by omega
        rw [← hm] at hblk ⊢
        clear hm hgl
        obtain ⟨wh, rfl⟩ : ∃ x, x = w2 := ⟨_, rfl⟩
        go_loopw [27] (fun j wq => ∃ k : Nat, k ≤ 4 ∧ j = .int .i64 (k : Int) ∧ KB .u8 102 wq (w.heap.size + 1) (orTo L Q 0 k) ∧ Blk wq m Q ∧ Below w.heap.size w wq) (fun i _ => 4 - (intOf i).toNat)
        case atStart => exact ⟨0, by omega, rfl, hw3, hblk, B2⟩
        case round =>
          clear hw3 hblk B2
          obtain ⟨k, hk4, rfl, hw, hblk, hB⟩ := hrel
          have hol := orTo_len L Q 0 k
          rw [hl] at hol
          by_cases hlk4 : k < 4
          · have q0 := hw.cell (i := 0 + k) (by omega)
            have f0 := hw.frozen (0 + k)
            have q1 := hblk.cell (i := k) (by rw [hlo.out]; omega)
            have Hst : Shut (orTo L Q 0 (k + 1) = (orTo L Q 0 k).set (0 + k) (bits .or .u8 ((orTo L Q 0 k).getD (0 + k) 0) (Q.getD k 0))) := ⟨rfl⟩
            have hset := fun x => hw.set_ (0 + k) x
            simp only [Nat.zero_add] at q0 f0 hset Hst
            generalize (orTo L Q 0 k).getD k 0 = X at *
            generalize Q.getD k 0 = Y at *
            have Hol := Shut.mk hol
            have i1 : (k : Int) < 17 := by omega
            have i2 : (k : Int) < 4 := by omega
            clear hol
            go_wp2
            exact ⟨⟨k + 1, by omega, by go_num, KB.of_eq Hst.out (hset _), hblk.keep (Below.heap_setCell _ _ _ _ (by simpa using hmne)), hB.setCell (by simp) _⟩, by simp [intOf]; omega⟩
          · obtain rfl : k = 4 := by omega
            have hw4 := KB.of_eq Hs.out hw
            clear hw hol
            go_wp2
            exact ⟨⟨1, by omega, by go_num, hw4, hB⟩, by simp [intOf]⟩
      · have hs : tagTo [a, b, c, d, e] 2 = orTo (tagTo [a, b, c, d, e] 1) (lowOf (b * 4) 4) 3 4 := by rw [HS.out]; simp
        have Hs := Shut.mk hs
        have hl := HL.out 1
        clear hs
        generalize tagTo [a, b, c, d, e] 1 = L at *
        go_wp2_with fail
        refine (spreadLowW_any (b * 4) 4 _ (by omega)).mono ?_
        rintro r w2 ⟨rfl, hblk, b2⟩
        have hw2 := hw.below b2 hw.lt
        have B2 := ac hB b2
        have hgl := hw.lt
        have hlo := Shut.mk (lowOf_len (b * 4) 4)
        generalize lowOf (b * 4) 4 = Q at *
        have hw3 : KB .u8 102 w2 (w.heap.size + 1) (orTo L Q 3 0) := hw2
        clear hw hw2 b2 hB
        go_wp2
        obtain ⟨m, hm⟩ : ∃ m, m = wr.heap.size := ⟨_, rfl⟩
        have hmne : ¬ m = w.heap.size + 1 := by omega
        rw [← hm] at hblk ⊢
        clear hm hgl
        obtain ⟨wh, rfl⟩ : ∃ x, x = w2 := ⟨_, rfl⟩
        go_loopw [27] (fun j wq => ∃ k : Nat, k ≤ 4 ∧ j = .int .i64 (k : Int) ∧ KB .u8 102 wq (w.heap.size + 1) (orTo L Q 3 k) ∧ Blk wq m Q ∧ Below w.heap.size w wq) (fun i _ => 4 - (intOf i).toNat)
        case atStart => exact ⟨0, by omega, rfl, hw3, hblk, B2⟩
        case round =>
          clear hw3 hblk B2
          obtain ⟨k, hk4, rfl, hw, hblk, hB⟩ := hrel
          have hol := orTo_len L Q 3 k
          rw [hl] at hol
          by_cases hlk4 : k < 4
          · have q0 := hw.cell (i := 3 + k) (by omega)
            have f0 := hw.frozen (3 + k)
            have q1 := hblk.cell (i := k) (by rw [hlo.out]; omega)
            have Hst : Shut (orTo L Q 3 (k + 1) = (orTo L Q 3 k).set (3 + k) (bits .or .u8 ((orTo L Q 3 k).getD (3 + k) 0) (Q.getD k 0))) := ⟨rfl⟩
            have hset := fun x => hw.set_ (3 + k) x
            generalize (orTo L Q 3 k).getD (3 + k) 0 = X at *
            generalize Q.getD k 0 = Y at *
            have Hol := Shut.mk hol
            have i1 : (3 : Int) + (k : Int) < 17 := by omega
            have n1 : ((3 : Int) + (k : Int)).toNat = 3 + k := by omega
            have i2 : (k : Int) < 4 := by omega
            clear hol
            go_wp2
            exact ⟨⟨k + 1, by omega, by go_num, KB.of_eq Hst.out (hset _), hblk.keep (Below.heap_setCell _ _ _ _ (by simpa using hmne)), hB.setCell (by simp) _⟩, by simp [intOf]; omega⟩
          · obtain rfl : k = 4 := by omega
            have hw4 := KB.of_eq Hs.out hw
            clear hw hol
            go_wp2
            exact ⟨⟨2, by omega, by go_num, hw4, hB⟩, by simp [intOf]⟩
      · have hs : tagTo [a, b, c, d, e] 3 = orTo (tagTo [a, b, c, d, e] 2) (lowOf (c * 16) 4) 6 4 := by rw [HS.out]; simp
        have Hs := Shut.mk hs
        have hl := HL.out 2
        clear hs
        generalize tagTo [a, b, c, d, e] 2 = L at *
        go_wp2_with fail
        refine (spreadLowW_any (c * 16) 4 _ (by omega)).mono ?_
        rintro r w2 ⟨rfl, hblk, b2⟩
        have hw2 := hw.below b2 hw.lt
        have B2 := ac hB b2
        have hgl := hw.lt
        have hlo := Shut.mk (lowOf_len (c * 16) 4)
        generalize lowOf (c * 16) 4 = Q at *
        have hw3 : KB .u8 102 w2 (w.heap.size + 1) (orTo L Q 6 0) := hw2
        clear hw hw2 b2 hB
        go_wp2
        obtain ⟨m, hm⟩ : ∃ m, m = wr.heap.size := ⟨_, rfl⟩
        have hmne : ¬ m = w.heap.size + 1 := by omega
        rw [← hm] at hblk ⊢
        clear hm hgl
        obtain ⟨wh, rfl⟩ : ∃ x, x = w2 := ⟨_, rfl⟩
        go_loopw [27] (fun j wq => ∃ k : Nat, k ≤ 4 ∧ j = .int .i64 (k : Int) ∧ KB .u8 102 wq (w.heap.size + 1) (orTo L Q 6 k) ∧ Blk wq m Q ∧ Below w.heap.size w wq) (fun i _ => 4 - (intOf i).toNat)
        case atStart => exact ⟨0, by omega, rfl, hw3, hblk, B2⟩
        case round =>
          clear hw3 hblk B2
          obtain ⟨k, hk4, rfl, hw, hblk, hB⟩ := hrel
          have hol := orTo_len L Q 6 k
          rw [hl] at hol
          by_cases hlk4 : k < 4
          · have q0 := hw.cell (i := 6 + k) (by omega)
            have f0 := hw.frozen (6 + k)
            have q1 := hblk.cell (i := k) (by rw [hlo.out]; omega)
            have Hst : Shut (orTo L Q 6 (k + 1) = (orTo L Q 6 k).set (6 + k) (bits .or .u8 ((orTo L Q 6 k).getD (6 + k) 0) (Q.getD k 0))) := ⟨rfl⟩
            have hset := fun x => hw.set_ (6 + k) x
            generalize (orTo L Q 6 k).getD (6 + k) 0 = X at *
            generalize Q.getD k 0 = Y at *
            have Hol := Shut.mk hol
            have i1 : (6 : Int) + (k : Int) < 17 := by omega
            have n1 : ((6 : Int) + (k : Int)).toNat = 6 + k := by omega
            have i2 : (k : Int) < 4 := by omega
            clear hol
            go_wp2
            exact ⟨⟨k + 1, by omega, by go_num, KB.of_eq Hst.out (hset _), hblk.keep (Below.heap_setCell _ _ _ _ (by simpa using hmne)), hB.setCell (by simp) _⟩, by simp [intOf]; omega⟩
          · obtain rfl : k = 4 := by omega
            have hw4 := KB.of_eq Hs.out hw
            clear hw hol
            go_wp2
            exact ⟨⟨3, by omega, by go_num, hw4, hB⟩, by simp [intOf]⟩
      · have hs : tagTo [a, b, c, d, e] 4 = orTo (tagTo [a, b, c, d, e] 3) (lowOf (d * 64) 4) 9 4 := by rw [HS.out]; simp
        have Hs := Shut.mk hs
        have hl := HL.out 3
        clear hs
        generalize tagTo [a, b, c, d, e] 3 = L at *
        go_wp2_with fail
        refine (spreadLowW_any (d * 64) 4 _ (by omega)).mono ?_
        rintro r w2 ⟨rfl, hblk, b2⟩
        have hw2 := hw.below b2 hw.lt
        have B2 := ac hB b2
        have hgl := hw.lt
        have hlo := Shut.mk (lowOf_len (d * 64) 4)
        generalize lowOf (d * 64) 4 = Q at *
        have hw3 : KB .u8 102 w2 (w.heap.size + 1) (orTo L Q 9 0) := hw2
        clear hw hw2 b2 hB
        go_wp2
        obtain ⟨m, hm⟩ : ∃ m, m = wr.heap.size := ⟨_, rfl⟩
        have hmne : ¬ m = w.heap.size + 1 := by omega
        rw [← hm] at hblk ⊢
        clear hm hgl
        obtain ⟨wh, rfl⟩ : ∃ x, x = w2 := ⟨_, rfl⟩
        go_loopw [27] (fun j wq => ∃ k : Nat, k ≤ 4 ∧ j = .int .i64 (k : Int) ∧ KB .u8 102 wq (w.heap.size + 1) (orTo L Q 9 k) ∧ Blk wq m Q ∧ Below w.heap.size w wq) (fun i _ => 4 - (intOf i).toNat)
        case atStart => exact ⟨0, by omega, rfl, hw3, hblk, B2⟩
        case round =>
          clear hw3 hblk B2
          obtain ⟨k, hk4, rfl, hw, hblk, hB⟩ := hrel
          have hol := orTo_len L Q 9 k
          rw [hl] at hol
          by_cases hlk4 : k < 4
          · have q0 := hw.cell (i := 9 + k) (by omega)
            have f0 := hw.frozen (9 + k)
            have q1 := hblk.cell (i := k) (by rw [hlo.out]; omega)
            have Hst : Shut (orTo L Q 9 (k + 1) = (orTo L Q 9 k).set (9 + k) (bits .or .u8 ((orTo L Q 9 k).getD (9 + k) 0) (Q.getD k 0))) := ⟨rfl⟩
            have hset := fun x => hw.set_ (9 + k) x
            generalize (orTo L Q 9 k).getD (9 + k) 0 = X at *
            generalize Q.getD k 0 = Y at *
            have Hol := Shut.mk hol
            have i1 : (9 : Int) + (k : Int) < 17 := by omega
            have n1 : ((9 : Int) + (k : Int)).toNat = 9 + k := by omega
            have i2 : (k : Int) < 4 := by omega
            clear hol
            go_wp2
            exact ⟨⟨k + 1, by omega, by go_num, KB.of_eq Hst.out (hset _), hblk.keep (Below.heap_setCell _ _ _ _ (by simpa using hmne)), hB.setCell (by simp) _⟩, by simp [intOf]; omega⟩
          · obtain rfl : k = 4 := by omega
            have hw4 := KB.of_eq Hs.out hw
            clear hw hol
            go_wp2
            exact ⟨⟨4, by omega, by go_num, hw4, hB⟩, by simp [intOf]⟩
      · have hs : tagTo [a, b, c, d, e] 5 = orTo (tagTo [a, b, c, d, e] 4) (lowOf e 4) 13 4 := by rw [HS.out]; simp
        have Hs := Shut.mk hs
        have hl := HL.out 4
        clear hs
        generalize tagTo [a, b, c, d, e] 4 = L at *
        go_wp2_with fail
        refine (spreadLowW_any e 4 _ (by omega)).mono ?_
        rintro r w2 ⟨rfl, hblk, b2⟩
        have hw2 := hw.below b2 hw.lt
        have B2 := ac hB b2
        have hgl := hw.lt
        have hlo := Shut.mk (lowOf_len e 4)
        generalize lowOf e 4 = Q at *
        have hw3 : KB .u8 102 w2 (w.heap.size + 1) (orTo L Q 13 0) := hw2
        clear hw hw2 b2 hB
        go_wp2
        obtain ⟨m, hm⟩ : ∃ m, m = wr.heap.size := ⟨_, rfl⟩
        have hmne : ¬ m = w.heap.size + 1 := by omega
        rw [← hm] at hblk ⊢
        clear hm hgl
        obtain ⟨wh, rfl⟩ : ∃ x, x = w2 := ⟨_, rfl⟩
        go_loopw [27] (fun j wq => ∃ k : Nat, k ≤ 4 ∧ j = .int .i64 (k : Int) ∧ KB .u8 102 wq (w.heap.size + 1) (orTo L Q 13 k) ∧ Blk wq m Q ∧ Below w.heap.size w wq) (fun i _ => 4 - (intOf i).toNat)
        case atStart => exact ⟨0, by omega, rfl, hw3, hblk, B2⟩
        case round =>
          clear hw3 hblk B2
          obtain ⟨k, hk4, rfl, hw, hblk, hB⟩ := hrel
          have hol := orTo_len L Q 13 k
          rw [hl] at hol
          by_cases hlk4 : k < 4
          · have q0 := hw.cell (i := 13 + k) (by omega)
            have f0 := hw.frozen (13 + k)
            have q1 := hblk.cell (i := k) (by rw [hlo.out]; omega)
            have Hst : Shut (orTo L Q 13 (k + 1) = (orTo L Q 13 k).set (13 + k) (bits .or .u8 ((orTo L Q 13 k).getD (13 + k) 0) (Q.getD k 0))) := ⟨rfl⟩
            have hset := fun x => hw.set_ (13 + k) x
            generalize (orTo L Q 13 k).getD (13 + k) 0 = X at *
            generalize Q.getD k 0 = Y at *
            have Hol := Shut.mk hol
            have i1 : (13 : Int) + (k : Int) < 17 := by omega
            have n1 : ((13 : Int) + (k : Int)).toNat = 13 + k := by omega
            have i2 : (k : Int) < 4 := by omega
            clear hol
            go_wp2
            exact ⟨⟨k + 1, by omega, by go_num, KB.of_eq Hst.out (hset _), hblk.keep (Below.heap_setCell _ _ _ _ (by simpa using hmne)), hB.setCell (by simp) _⟩, by simp [intOf]; omega⟩
          · obtain rfl : k = 4 := by omega
            have hw4 := KB.of_eq Hs.out hw
            clear hw hol
            go_wp2
            exact ⟨⟨5, by omega, by go_num, hw4, hB⟩, by simp [intOf]⟩
    · obtain rfl : k = 5 := by omega
      have hp := hw.bs_take HT.out (lowOf_byte _ _) (by rw [HL.out]; omega)
      go_wp2_with fail
      refine (clone_any _ _ _ _ _ hp).mono ?_
      rintro e w2 ⟨⟨g, c', rfl, hrow⟩, bb⟩
      go_wp2
      go_ret
      exact ⟨⟨g, c', rfl, hrow.mono hB.size⟩, ac hB bb⟩

end Go.Proofs.YtpoiecdifhkegaaDoor
