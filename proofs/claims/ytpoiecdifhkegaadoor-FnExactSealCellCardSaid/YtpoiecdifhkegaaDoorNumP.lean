/- The number of up to sixteen bytes, in limbs, of the program. -/
import Derived.Test.YtpoiecdifhkegaaDoorFiveP
import Derived.Test.YtpoiecdifhkegaaDoorWordP
import Derived.Test.YtpoiecdifhkegaaDoorCopyP
namespace Go.Proofs.YtpoiecdifhkegaaDoor
open Go.RowKit Go.Shelf

theorem lo_drop (l : List Int) (h : By l) (k : Nat) : lo (l.drop k) = lo l / 256 ^ k := by
  induction k generalizing l with
  | zero => simp
  | succ k ih =>
    cases l with
    | nil => simp [lo, hi]
    | cons a l =>
      have ha := h a (by simp)
      have hl : By l := fun x hx => h x (by simp [hx])
      rw [List.drop_succ_cons, ih l hl, lo_cons, Int.pow_succ, Int.mul_comm ((256 : Int) ^ k), ← Int.ediv_ediv_of_nonneg (by omega)]
      congr 1
      omega
theorem lo_take4 (l : List Int) (h : By l) : lo (l.take 4) = lo l % 4294967296 := by
  have hx : ∀ x ∈ l, 0 ≤ x ∧ x < 256 := h
  rcases l with _ | ⟨a, _ | ⟨b, _ | ⟨c, _ | ⟨d, l⟩⟩⟩⟩
  · simp [lo, hi]
  · have := hx a (by simp)
    simp only [List.take, lo_cons]
    rw [show lo ([] : List Int) = 0 from rfl]; omega
  · have := hx a (by simp); have := hx b (by simp)
    simp only [List.take, lo_cons]
    rw [show lo ([] : List Int) = 0 from rfl]; omega
  · have := hx a (by simp); have := hx b (by simp); have := hx c (by simp)
    simp only [List.take, lo_cons]
    rw [show lo ([] : List Int) = 0 from rfl]; omega
  · have := hx a (by simp); have := hx b (by simp); have := hx c (by simp); have := hx d (by simp)
    simp only [List.take, lo_cons]
    rw [show lo ([] : List Int) = 0 from rfl]
    generalize lo l = x
    omega
/-- the word at a place -/
theorem lo_word (l : List Int) (h : By l) (k : Nat) : lo ((l.drop k).take 4) = lo l / 256 ^ k % 4294967296 := by
  rw [lo_take4 _ (fun x hx => h x (List.mem_of_mem_drop hx)), lo_drop l h]
theorem lo_zeros (l : List Int) (k : Nat) : lo (l ++ List.replicate k 0) = lo l := by
  induction k with
  | zero => simp
  | succ k ih => rw [List.replicate_succ', ← List.append_assoc, lo_snoc, ih]; omega

/-- the five words, cut -/
theorem five_words (N : Int) (h0 : 0 ≤ N) (h1 : N < 1361129467683753853853498429727072845824) :
    [N / 256 ^ 0 % 4294967296 % 67108864, N / 256 ^ 3 % 4294967296 / 4 % 67108864, N / 256 ^ 6 % 4294967296 / 16 % 67108864, N / 256 ^ 9 % 4294967296 / 64 % 67108864, N / 256 ^ 13 % 4294967296 % 67108864] = limbs N := by
  simp only [limbs, List.cons.injEq, and_true]
  omega

def limbsTo (N : Int) : Nat → List Int
  | 0 => [0, 0, 0, 0, 0]
  | 1 => [N / 256 ^ 0 % 4294967296 % 67108864, 0, 0, 0, 0]
  | 2 => [N / 256 ^ 0 % 4294967296 % 67108864, N / 256 ^ 3 % 4294967296 / 4 % 67108864, 0, 0, 0]
  | 3 => [N / 256 ^ 0 % 4294967296 % 67108864, N / 256 ^ 3 % 4294967296 / 4 % 67108864, N / 256 ^ 6 % 4294967296 / 16 % 67108864, 0, 0]
  | 4 => [N / 256 ^ 0 % 4294967296 % 67108864, N / 256 ^ 3 % 4294967296 / 4 % 67108864, N / 256 ^ 6 % 4294967296 / 16 % 67108864, N / 256 ^ 9 % 4294967296 / 64 % 67108864, 0]
  | _ => [N / 256 ^ 0 % 4294967296 % 67108864, N / 256 ^ 3 % 4294967296 / 4 % 67108864, N / 256 ^ 6 % 4294967296 / 16 % 67108864, N / 256 ^ 9 % 4294967296 / 64 % 67108864, N / 256 ^ 13 % 4294967296 % 67108864]

theorem KB.bs {t : TypeId} {w : World} {g : Nat} {l : List Int} (h : KB .u8 t w g l) (hb : By l) {n : Nat} (hn : l.length = n) : Bs w (some ⟨g, 0, none⟩) n l :=
  ⟨hn, hb, fun hp => ⟨g, 0, rfl, h.lt, fun i hi => by rw [Nat.zero_add]; exact h.cell (by omega)⟩⟩

set_option maxRecDepth 100000 in
set_option maxHeartbeats 4000000 in
theorem numberOf_any (A : Option Addr) (n c : Nat) (l : List Int) (m : Int) (w : World) (h : Bs w A n l) (hn : n ≤ 16) (hm : 0 ≤ m ∧ m ≤ 1) :
    Calls Tryd.prog 58 #[.slice A n c, .int .u8 m] w fun r w' =>
      (∃ D0 D1 D2 D3 D4, r = .returned (.agg #[.int .u64 D0, .int .u64 D1, .int .u64 D2, .int .u64 D3, .int .u64 D4]) ∧ [D0, D1, D2, D3, D4] = limbs (lo (l ++ [m]))) ∧ Below w.heap.size w w' := by
  have hl := h.len
  have hN0 := lo_bd (l ++ [m]) (h.byte.append (fun y hy => by simp at hy; omega))
  have hN1 : lo (l ++ [m]) < 1361129467683753853853498429727072845824 := by
    have h1 := lo_bd l h.byte
    have hp : ∀ k : Nat, k ≤ 16 → (256 : Int) ^ k ≤ 340282366920938463463374607431768211456 := by decide
    have h2 := hp l.length (by omega)
    rw [lo_snoc]
    have h3 : m * 256 ^ l.length ≤ 256 ^ l.length := by
      have : 0 ≤ (256 : Int) ^ l.length := Int.pow_nonneg (by omega)
      have e : m = 0 ∨ m = 1 := by omega
      rcases e with rfl | rfl <;> omega
    omega
  have hW : ((laidOver (List.replicate 17 0) 0 l).set n m) = (l ++ [m]) ++ List.replicate (16 - n) 0 := by
    unfold laidOver
    rw [List.take_zero, List.nil_append, Nat.zero_add, List.drop_replicate, hl, List.set_append, if_neg (by omega), hl, Nat.sub_self, show 17 - n = (16 - n) + 1 by omega, List.replicate_succ, List.set_cons_zero, List.append_assoc]
    rfl
  obtain ⟨N, hN⟩ : ∃ N, lo (l ++ [m]) = N := ⟨_, rfl⟩
  have hwl : lo ((l ++ [m]) ++ List.replicate (16 - n) 0) = N := by rw [lo_zeros, hN]
  have hwb : By ((l ++ [m]) ++ List.replicate (16 - n) 0) := (h.byte.append (fun y hy => by simp at hy; omega)).append (fun y hy => by obtain ⟨_, rfl⟩ := List.mem_replicate.1 hy; omega)
  have hwn : ((l ++ [m]) ++ List.replicate (16 - n) 0).length = 17 := by simp [hl]; omega
  rw [hN] at hN0 hN1 ⊢
  have HF := Shut.mk (five_words N hN0.1 hN1)
  have Hl := Shut.mk hl
  generalize (l ++ [m]) ++ List.replicate (16 - n) 0 = WL at *
  have HW := Shut.mk hW
  have Hwb := Shut.mk hwb
  have Hwn := Shut.mk hwn
  have Hwd : Shut (∀ k, lo ((WL.drop k).take 4) = N / 256 ^ k % 4294967296) := ⟨fun k => by rw [lo_word _ hwb, hwl]⟩
  clear hW hwl hwb hwn hN0 hN1 hN hl
  have r0 := kow5 w 0 0 0 0 0 83
  have k1 : KB .u8 102 ((w.alloc (.cells #[.int .u64 0, .int .u64 0, .int .u64 0, .int .u64 0, .int .u64 0] 83)).alloc (.cells #[.int .u8 0, .int .u8 0, .int .u8 0, .int .u8 0, .int .u8 0, .int .u8 0, .int .u8 0, .int .u8 0, .int .u8 0, .int .u8 0, .int .u8 0, .int .u8 0, .int .u8 0, .int .u8 0, .int .u8 0, .int .u8 0, .int .u8 0] 102)) (w.heap.size + 1) (List.replicate 17 0) := by
    have := KB.new (k := .u8) (t := 102) (w.alloc (.cells #[.int .u64 0, .int .u64 0, .int .u64 0, .int .u64 0, .int .u64 0] 83)) (List.replicate 17 0) #[.int .u8 0, .int .u8 0, .int .u8 0, .int .u8 0, .int .u8 0, .int .u8 0, .int .u8 0, .int .u8 0, .int .u8 0, .int .u8 0, .int .u8 0, .int .u8 0, .int .u8 0, .int .u8 0, .int .u8 0, .int .u8 0, .int .u8 0] rfl
    rwa [World.size_alloc] at this
  have B0 := ab (Below.refl w.heap.size w) (.cells #[.int .u64 0, .int .u64 0, .int .u64 0, .int .u64 0, .int .u64 0] 83)
  have B1 : Below (w.heap.size + 1) (w.alloc (.cells #[.int .u64 0, .int .u64 0, .int .u64 0, .int .u64 0, .int .u64 0] 83)) ((w.alloc (.cells #[.int .u64 0, .int .u64 0, .int .u64 0, .int .u64 0, .int .u64 0] 83)).alloc (.cells #[.int .u8 0, .int .u8 0, .int .u8 0, .int .u8 0, .int .u8 0, .int .u8 0, .int .u8 0, .int .u8 0, .int .u8 0, .int .u8 0, .int .u8 0, .int .u8 0, .int .u8 0, .int .u8 0, .int .u8 0, .int .u8 0, .int .u8 0] 102)) := by
    have := ab (Below.refl (w.alloc (.cells #[.int .u64 0, .int .u64 0, .int .u64 0, .int .u64 0, .int .u64 0] 83)).heap.size (w.alloc (.cells #[.int .u64 0, .int .u64 0, .int .u64 0, .int .u64 0, .int .u64 0] 83))) (.cells #[.int .u8 0, .int .u8 0, .int .u8 0, .int .u8 0, .int .u8 0, .int .u8 0, .int .u8 0, .int .u8 0, .int .u8 0, .int .u8 0, .int .u8 0, .int .u8 0, .int .u8 0, .int .u8 0, .int .u8 0, .int .u8 0, .int .u8 0] 102)
    rwa [World.size_alloc] at this
  have h1 := (h.alloc (.cells #[.int .u64 0, .int .u64 0, .int .u64 0, .int .u64 0, .int .u64 0] 83)).alloc (.cells #[.int .u8 0, .int .u8 0, .int .u8 0, .int .u8 0, .int .u8 0, .int .u8 0, .int .u8 0, .int .u8 0, .int .u8 0, .int .u8 0, .int .u8 0, .int .u8 0, .int .u8 0, .int .u8 0, .int .u8 0, .int .u8 0, .int .u8 0] 102)
  have Hlo : Shut (n ≤ 17 ∧ 0 + n ≤ (List.replicate 17 (0 : Int)).length ∧ w.heap.size + 1 ≤ w.heap.size + 1) := ⟨by simp; omega⟩
  have hlen := laidOver_len (List.replicate 17 0) l 0 (by simp [Hl.out]; omega)
  rw [List.length_replicate] at hlen
  have Hlen := Shut.mk hlen
  have Hn17 : (n : Int) < 17 := by omega
  clear hlen
  go_enter Tryd.func58, Tryd.ntmps58
  go_wp2_with (refine wpList_copyt rfl _ _ rfl _ 102 (w.heap.size + 1) 0 17 17 A n c (List.replicate 17 0) l rfl rfl k1 h1 Hlo.out.1 Hlo.out.2.1 (w.heap.size + 1) _ B1 Hlo.out.2.2 ?_; intro w1 k2 b2; have c1 := k2.cell (i := n) (by rw [Hlen.out]; omega); have f1 := k2.frozen n)
  have k3 := k2.set_ n m
  rw [HW.out] at k3
  have r2 := (r0.below b2 (by omega)).far (p := ⟨w.heap.size + 1, n, none⟩) (by simp) (.int .u8 m)
  have b3 := (B0.trans (b2.mono (Nat.le_succ _))).setCell (p := ⟨w.heap.size + 1, n, none⟩) (by simp) (.int .u8 m)
  have z3 := k3.lt
  simp only [World.size_setCell] at z3
  clear c1 f1 k2 b2 r0 k1 B0 B1 h1
  have q3 := kow5 (w1.setCell ⟨w.heap.size + 1, n, none⟩ (.int .u8 m)) 0 0 0 0 0 83
  rw [World.size_setCell] at q3
  have B4 := ab b3 (.cells #[.int .u64 0, .int .u64 0, .int .u64 0, .int .u64 0, .int .u64 0] 83)
  have k4 := k3.alloc (.cells #[.int .u64 0, .int .u64 0, .int .u64 0, .int .u64 0, .int .u64 0] 83)
  have r4 := r2.below (ab (Below.refl _ _) (.cells #[.int .u64 0, .int .u64 0, .int .u64 0, .int .u64 0, .int .u64 0] 83)) r2.lt
  have z4 : w1.heap.size < ((w1.setCell ⟨w.heap.size + 1, n, none⟩ (.int .u8 m)).alloc (.cells #[.int .u64 0, .int .u64 0, .int .u64 0, .int .u64 0, .int .u64 0] 83)).heap.size := by simp
  generalize (w1.setCell ⟨w.heap.size + 1, n, none⟩ (.int .u8 m)).alloc (.cells #[.int .u64 0, .int .u64 0, .int .u64 0, .int .u64 0, .int .u64 0] 83) = W4 at *
  obtain ⟨m3, hm3⟩ : ∃ m, m = w1.heap.size := ⟨_, rfl⟩
  rw [← hm3] at q3 z3 z4 ⊢
  clear hm3 b3 k3 r2
  have q4 : KOw .u64 W4 m3 (limbsTo N 0) := q3
  go_loopw [17] (fun i wr => ∃ k : Nat, k ≤ 5 ∧ i = .int .i64 (k : Int) ∧ KOw .u64 wr m3 (limbsTo N k) ∧ KB .u8 102 wr (w.heap.size + 1) WL ∧ KOw .u64 wr w.heap.size [0, 0, 0, 0, 0] ∧ Below w.heap.size w wr) (fun i _ => 5 - (intOf i).toNat)
  case atStart => exact ⟨0, by omega, rfl, q4, k4, r4, B4⟩
  case round =>
    clear q3 q4 k4 r4 B4
    obtain ⟨k, hk, rfl, hq, hw, hr, hB⟩ := hrel
    by_cases hlk : k < 5
    · have e5 : k = 0 ∨ k = 1 ∨ k = 2 ∨ k = 3 ∨ k = 4 := by omega
      have hbs := hw.bs Hwb.out Hwn.out
      rcases e5 with rfl | rfl | rfl | rfl | rfl
      · have hp := hbs.part_ 0 4 (by omega)
        rw [Nat.zero_add] at hp
        have hX : 0 ≤ N / 256 ^ 0 % 4294967296 ∧ N / 256 ^ 0 % 4294967296 < 4294967296 := by omega
        have hwd := Shut.mk (Hwd.out 0)
        go_wp2_with fail
        refine (joinLowW_any _ _ _ _ _ hp (by omega)).mono ?_
        rintro e w5 ⟨rfl, b5⟩
        rw [hwd.out]
        have hq5 := hq.below b5 hq.lt
        have hw5 := hw.below b5 hw.lt
        have hr5 := hr.below b5 hr.lt
        have B5 := ac hB b5
        have f0 := hq5.frozen 0
        have q0 := hq5.cell 0 (by simp [limbsTo])
        have HS : Shut (limbsTo N 1 = (limbsTo N 0).set 0 (N / 256 ^ 0 % 4294967296 % 67108864)) := ⟨rfl⟩
        generalize N / 256 ^ 0 % 4294967296 = X at *
        obtain ⟨hX0, hX1⟩ := hX
        have ha := and26 X (by omega) (by omega)
        clear hbs hp hwd
        go_wp2
        refine ⟨⟨1, by omega, ?_, KOw.of_eq HS.out (hq5.set_ 0 (by simp [limbsTo]) _), hw5.far (by simp; omega) _, hr5.far (by simp; omega) _, B5.setCell (by simp; omega) _⟩, by simp [intOf]⟩
        rfl
      · have hp := hbs.part_ 3 4 (by omega)
        rw [Nat.zero_add] at hp
        have hX : 0 ≤ N / 256 ^ 3 % 4294967296 ∧ N / 256 ^ 3 % 4294967296 < 4294967296 := by omega
        have hwd := Shut.mk (Hwd.out 3)
        go_wp2_with fail
        refine (joinLowW_any _ _ _ _ _ hp (by omega)).mono ?_
        rintro e w5 ⟨rfl, b5⟩
        rw [hwd.out]
        have hq5 := hq.below b5 hq.lt
        have hw5 := hw.below b5 hw.lt
        have hr5 := hr.below b5 hr.lt
        have B5 := ac hB b5
        have f0 := hq5.frozen 1
        have q0 := hq5.cell 1 (by simp [limbsTo])
        have HS : Shut (limbsTo N 2 = (limbsTo N 1).set 1 (N / 256 ^ 3 % 4294967296 / 4 % 67108864)) := ⟨rfl⟩
        generalize N / 256 ^ 3 % 4294967296 = X at *
        obtain ⟨hX0, hX1⟩ := hX
        have ha := and26 (X / 4) (by omega) (by omega)
        clear hbs hp hwd
        go_wp2
        refine ⟨⟨2, by omega, ?_, KOw.of_eq HS.out (hq5.set_ 1 (by simp [limbsTo]) _), hw5.far (by simp; omega) _, hr5.far (by simp; omega) _, B5.setCell (by simp; omega) _⟩, by simp [intOf]⟩
        rfl
      · have hp := hbs.part_ 6 4 (by omega)
        rw [Nat.zero_add] at hp
        have hX : 0 ≤ N / 256 ^ 6 % 4294967296 ∧ N / 256 ^ 6 % 4294967296 < 4294967296 := by omega
        have hwd := Shut.mk (Hwd.out 6)
        go_wp2_with fail
        refine (joinLowW_any _ _ _ _ _ hp (by omega)).mono ?_
        rintro e w5 ⟨rfl, b5⟩
        rw [hwd.out]
        have hq5 := hq.below b5 hq.lt
        have hw5 := hw.below b5 hw.lt
        have hr5 := hr.below b5 hr.lt
        have B5 := ac hB b5
        have f0 := hq5.frozen 2
        have q0 := hq5.cell 2 (by simp [limbsTo])
        have HS : Shut (limbsTo N 3 = (limbsTo N 2).set 2 (N / 256 ^ 6 % 4294967296 / 16 % 67108864)) := ⟨rfl⟩
        generalize N / 256 ^ 6 % 4294967296 = X at *
        obtain ⟨hX0, hX1⟩ := hX
        have ha := and26 (X / 16) (by omega) (by omega)
        clear hbs hp hwd
        go_wp2
        refine ⟨⟨3, by omega, ?_, KOw.of_eq HS.out (hq5.set_ 2 (by simp [limbsTo]) _), hw5.far (by simp; omega) _, hr5.far (by simp; omega) _, B5.setCell (by simp; omega) _⟩, by simp [intOf]⟩
        rfl
      · have hp := hbs.part_ 9 4 (by omega)
        rw [Nat.zero_add] at hp
        have hX : 0 ≤ N / 256 ^ 9 % 4294967296 ∧ N / 256 ^ 9 % 4294967296 < 4294967296 := by omega
        have hwd := Shut.mk (Hwd.out 9)
        go_wp2_with fail
        refine (joinLowW_any _ _ _ _ _ hp (by omega)).mono ?_
        rintro e w5 ⟨rfl, b5⟩
        rw [hwd.out]
        have hq5 := hq.below b5 hq.lt
        have hw5 := hw.below b5 hw.lt
        have hr5 := hr.below b5 hr.lt
        have B5 := ac hB b5
        have f0 := hq5.frozen 3
        have q0 := hq5.cell 3 (by simp [limbsTo])
        have HS : Shut (limbsTo N 4 = (limbsTo N 3).set 3 (N / 256 ^ 9 % 4294967296 / 64 % 67108864)) := ⟨rfl⟩
        generalize N / 256 ^ 9 % 4294967296 = X at *
        obtain ⟨hX0, hX1⟩ := hX
        have ha := and26 (X / 64) (by omega) (by omega)
        clear hbs hp hwd
        go_wp2
        refine ⟨⟨4, by omega, ?_, KOw.of_eq HS.out (hq5.set_ 3 (by simp [limbsTo]) _), hw5.far (by simp; omega) _, hr5.far (by simp; omega) _, B5.setCell (by simp; omega) _⟩, by simp [intOf]⟩
        rfl
      · have hp := hbs.part_ 13 4 (by omega)
        rw [Nat.zero_add] at hp
        have hX : 0 ≤ N / 256 ^ 13 % 4294967296 ∧ N / 256 ^ 13 % 4294967296 < 4294967296 := by omega
        have hwd := Shut.mk (Hwd.out 13)
        go_wp2_with fail
        refine (joinLowW_any _ _ _ _ _ hp (by omega)).mono ?_
        rintro e w5 ⟨rfl, b5⟩
        rw [hwd.out]
        have hq5 := hq.below b5 hq.lt
        have hw5 := hw.below b5 hw.lt
        have hr5 := hr.below b5 hr.lt
        have B5 := ac hB b5
        have f0 := hq5.frozen 4
        have q0 := hq5.cell 4 (by simp [limbsTo])
        have HS : Shut (limbsTo N 5 = (limbsTo N 4).set 4 (N / 256 ^ 13 % 4294967296 % 67108864)) := ⟨rfl⟩
        generalize N / 256 ^ 13 % 4294967296 = X at *
        obtain ⟨hX0, hX1⟩ := hX
        have ha := and26 X (by omega) (by omega)
        clear hbs hp hwd
        go_wp2
        refine ⟨⟨5, by omega, ?_, KOw.of_eq HS.out (hq5.set_ 4 (by simp [limbsTo]) _), hw5.far (by simp; omega) _, hr5.far (by simp; omega) _, B5.setCell (by simp; omega) _⟩, by simp [intOf]⟩
        rfl
    · obtain rfl : k = 5 := by omega
      have HF2 : Shut (limbsTo N 5 = limbs N) := ⟨HF.out⟩
      dsimp only [limbsTo] at hq HF2
      generalize N / 256 ^ 0 % 4294967296 % 67108864 = D0 at *
      generalize N / 256 ^ 3 % 4294967296 / 4 % 67108864 = D1 at *
      generalize N / 256 ^ 6 % 4294967296 / 16 % 67108864 = D2 at *
      generalize N / 256 ^ 9 % 4294967296 / 64 % 67108864 = D3 at *
      generalize N / 256 ^ 13 % 4294967296 % 67108864 = D4 at *
      obtain ⟨a0, a1, a2, a3, a4, f0, f1, f2, f3, f4⟩ := hq.full5
      obtain ⟨p0, p1, p2, p3, p4, g0, g1, g2, g3, g4⟩ := hr.full5
      clear HF
      go_wp2
      have r10 := set5 rfl hr D0 D1 D2 D3 D4
      have b10 := below5 hB (Nat.le_refl _) (.int .u64 D0) (.int .u64 D1) (.int .u64 D2) (.int .u64 D3) (.int .u64 D4)
      clear a0 a1 a2 a3 a4 f0 f1 f2 f3 f4 p0 p1 p2 p3 p4 g0 g1 g2 g3 g4
      generalize World.setCell _ ⟨w.heap.size, 4, none⟩ _ = W9 at *
      obtain ⟨c0, c1, c2, c3, c4, _⟩ := r10.full5
      exact bodyPost_ret (v := .agg #[.int .u64 D0, .int .u64 D1, .int .u64 D2, .int .u64 D3, .int .u64 D4]) (by simp [results, Tryd.results58, go_sem, c0, c1, c2, c3, c4]) rfl ⟨⟨_, _, _, _, _, rfl, HF2.out⟩, b10⟩
end Go.Proofs.YtpoiecdifhkegaaDoor
