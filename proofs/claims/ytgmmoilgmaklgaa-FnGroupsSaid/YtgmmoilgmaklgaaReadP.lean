/- The number of eight bytes: joinLow at uint64, ReadPublic of both sides. -/
import Derived.Test.YtgmmoilgmaklgaaJoinLow
import Derived.Test.YtgmmoilgmaklgaaPowP
import Derived.Deep.RegionHeld3
namespace Go.Proofs.Ytgmmoilgmaklgaa
open Go.RowKit Go.Shelf

attribute [local go_sem] Oper.semAt_some

theorem or_byteU (a x : Int) (ha0 : 0 ≤ a) (ha1 : a < 72057594037927936) (hx0 : 0 ≤ x) (hx1 : x < 256) : bits BinOp.or IntKind.u64 (a * 256) x = a * 256 + x := by
  obtain ⟨a, rfl⟩ := Int.eq_ofNat_of_zero_le ha0
  obtain ⟨x, rfl⟩ := Int.eq_ofNat_of_zero_le hx0
  have e : ((a : Int) * 256) = ((a * 256 : Nat) : Int) := by omega
  have h := Nat.shiftLeft_add_eq_or_of_lt (i := 8) (b := x) (by omega) a
  rw [Nat.shiftLeft_eq] at h
  rw [e, bits_or_u64_nat _ _ (by omega) (by omega), ← h]
  rfl
theorem hi_bd7 (l : List Int) (h : By l) (hk : l.length ≤ 7) : 0 ≤ hi l ∧ hi l < 72057594037927936 := by
  have h1 := hi_bd l h
  have h2 : ∀ m : Nat, m < 8 → (256 : Int) ^ m ≤ 72057594037927936 := by decide
  have h3 := h2 l.length (by omega)
  omega

set_option maxRecDepth 100000 in
set_option maxHeartbeats 2000000 in
theorem joinLowU_in (F : Fence) (n : Nat) (h48 : F.fn 44) (h65 : F.fn 61) (h67 : F.fn 68) (hro : F.round = none) (hn : 3 ≤ n) (A : Option Addr) (len c : Nat) (l : List Int) (w : World) (h : Bs w A len l) (hlen : len ≤ 8) :
    CallsIn F n Try.prog 44 #[.slice A len c] w fun e W' => e = .returned (.int .u64 (lo l)) ∧ Below w.heap.size w W' := by
  have h1 : 1 ≤ n := by omega
  have hll := h.len
  refine callsIn_of_wp_marks Try.func44 rfl h48 ?_ hro
  simp only [Try.ntmps44, List.size_toArray, List.length_cons, List.length_nil, Nat.reduceAdd, Nat.reduceSub, Array.replicate_succ, Array.replicate_zero, List.push_toArray, List.append_toArray, List.nil_append, List.cons_append]
  gi_wp2_with (gi_at_call 61; refine (Backward_in F (n - 1) h65 hro _ _ _ _).mono ?_; rintro e w' ⟨rfl, rfl⟩)
  have hs := one_new w (.int .u64 0) 54
  have hb := one_new (w.alloc (.cells #[.int .u64 0] 54)) (.slice A len c) 22
  rw [World.size_alloc] at hb
  have hB0 : Below w.heap.size w ((w.alloc (.cells #[.int .u64 0] 54)).alloc (.cells #[.slice A len c] 22)) := ab (ab (Below.refl _ w) _) _
  refine wpIn_rangeFunc_ownF hro h1 (gf := 68) (lb := #[.pointer (some ⟨w.heap.size + 1, 0, none⟩)]) rfl h67 (enters_of Try.func68 (by kernel_rfl) rfl)
    (Backward_stops F (n - 1) h67 hro (by omega) (w.heap.size + 1) w.heap.size len c A l (by omega) _ hb.1 ((h.alloc _).alloc _) (fun b off e hp => by obtain ⟨b', off', e', hlt, _⟩ := h.at_ hp; rw [e] at e'; injection e' with e'; injection e' with e'; omega))
    (fun {A B C} => Kb.trans) (fun W2 l2 o o' hle ho h1 h2 => ⟨belowK_b (w := w) (Nat.le_refl _) W2 l2 o o' (by simp at hle; omega) ho h1 h2, putObj_other W2 l2 o' (w.heap.size + 1) (by simp at hle; omega)⟩) (Below.refl _ _) (fun _ => rfl)
    (fun pre W => (W.cell? ⟨w.heap.size, 0, none⟩ = some (.int .u64 (hi (vals pre))) ∧ W.frozen? ⟨w.heap.size, 0, none⟩ = false) ∧ Below w.heap.size w W)
    (fun _ _ _ => False)
    (OwnFrom.and (Own.from (fun s A B row hs hg hr => ⟨cell_kept hs.1 hg hr, (frozen_kept hs.1 hg hr).trans hs.2⟩) _) (ownFrom_below (Nat.le_refl _) (by simp; omega)))
    (fun _ _ _ _ _ hs _ _ => hs)
    ⟨⟨cell_past _ hs.1, frozen_past _ hs.1 hs.2⟩, hB0⟩
    (fun x => { tmps := #[.slice A len c, undef, .int .u64 0, .pointer (some ⟨w.heap.size, 0, none⟩), undef, .int .u8 x.2.1, .slice A len c, .func (.func 68) #[] #[.pointer (some ⟨w.heap.size + 1, 0, none⟩)], .int .i64 x.1, .int .u8 x.2.1, undef, undef, undef, undef, undef, undef], defers := [] }) ?assign ?body ?done ?stop
  case assign =>
    intro lp x W K hK
    simp only [cameArgs]
    gi_wp2
    exact hK
  case body =>
    rintro lp pre x W ⟨⟨hc, hf⟩, hB⟩ hpre
    obtain ⟨hb0, hb1⟩ := hi_bd7 (vals pre) (vals_byte pre) (by rw [vals, List.length_map]; omega)
    obtain ⟨i, X, hX0, hX1⟩ := x
    have Ho := Lib.hid (or_byteU _ X hb0 hb1 hX0 hX1)
    have hwr : IntKind.u64.wrap (hi (vals pre) * 256) = hi (vals pre) * 256 := by rw [IntKind.wrap_u64]; omega
    gi_wp2
    refine ⟨KeepsOthers.setCell _ _ _, ⟨(Below.refl w.heap.size W).setCell (p := ⟨w.heap.size, 0, none⟩) (Nat.le_refl _) _, Below.heap_setCell W ⟨w.heap.size, 0, none⟩ _ (w.heap.size + 1) (by simp)⟩, ⟨?_, by rw [World.frozen?_setCell]; exact hf⟩, hB.setCell (p := ⟨w.heap.size, 0, none⟩) (Nat.le_refl _) _⟩
    rw [vals_snoc, hi_snoc, Ho.out]
    exact World.cell?_setCell_same W _ _ hc
  case done =>
    rintro D ys W hD hys ⟨⟨hc, _⟩, hB⟩ hK
    gi_wp2
    refine ⟨by simp, .inl ⟨_, _, rfl, run_takeDeferred hK, ?_⟩⟩
    exact ⟨_, results_tmp rfl _ _ _, by simp [lo], hB.trans (belowK_b (w := w) (Nat.le_refl _) W D _ _ (by simp at hD; omega) hK rfl rfl)⟩
  case stop =>
    rintro D c pre W _ _ h _
    exact h.elim

theorem joinLowU_any (A : Option Addr) (n c : Nat) (l : List Int) (w : World) (h : Bs w A n l) (hn : n ≤ 8) :
    Calls Try.prog 44 #[.slice A n c] w fun e w' => e = .returned (.int .u64 (lo l)) ∧ Below w.heap.size w w' :=
  (callsIn_wide (n := 3)).1 (joinLowU_in Fence.wide 3 trivial trivial trivial rfl (by omega) A n c l w h hn)

/-! the two sides of ReadPublic -/
def pubB (l : List Int) : Bool := decide (2 ≤ lo l ∧ lo l ≤ 2305843009213693949)
def readC (n : Nat) (l : List Int) : Int := if n = 8 then (if pubB l then 0 else 5) else 2
def readV (n : Nat) (l : List Int) : Int := if n = 8 ∧ pubB l = true then lo l else 0

theorem fold_hi (a : Int) (r : List Int) : r.foldl hiStep a = a * 256 ^ r.length + hi r := by
  have key : ∀ (r : List Int) (a b : Int), r.foldl hiStep (a + b) = a * 256 ^ r.length + r.foldl hiStep b := by
    intro r
    induction r with
    | nil => intro a b; simp
    | cons y r ih =>
      intro a b
      have e : hiStep (a + b) y = a * 256 + hiStep b y := by unfold hiStep; omega
      rw [List.foldl_cons, List.foldl_cons, e, ih, List.length_cons, Int.pow_succ, Int.mul_assoc, Int.mul_comm 256]
  have := key r a 0
  rwa [Int.add_zero] at this
theorem lo_snoc (l : List Int) (x : Int) : lo (l ++ [x]) = lo l + x * 256 ^ l.length := by
  unfold lo
  rw [List.reverse_append]
  show hi (x :: l.reverse) = _
  have e : hi (x :: l.reverse) = l.reverse.foldl hiStep (hiStep 0 x) := rfl
  rw [e, fold_hi, List.length_reverse]
  unfold hiStep
  rw [Int.zero_mul, Int.zero_add]
  omega
theorem lo_bd8 (l : List Int) (h : By l) (hk : l.length = 8) : 0 ≤ lo l ∧ lo l < 18446744073709551616 := by
  have h1 := hi_bd l.reverse (fun x hx => h x (by simpa using hx))
  rw [List.length_reverse, hk] at h1
  exact h1
theorem lo_eight (l : List Int) (h : l.length = 8) : lo l = lo (l.take 7) + l.getD 7 0 * 72057594037927936 := by
  have e : l = l.take 7 ++ [l.getD 7 0] := by
    have := List.take_succ_eq_append_getElem (l := l) (i := 7) (by omega)
    rw [List.take_of_length_le (by omega)] at this
    simpa [List.getD, List.getElem?_eq_getElem (show 7 < l.length by omega)] using this
  have h7 : (l.take 7).length = 7 := by rw [List.length_take]; omega
  have := lo_snoc (l.take 7) (l.getD 7 0)
  rw [← e, h7] at this
  rw [this]
  rfl
theorem lo7_bd (l : List Int) (h : By l) (hk : l.length ≤ 7) : 0 ≤ lo l ∧ lo l < 72057594037927936 := by
  refine hi_bd7 l.reverse (fun x hx => h x (by simpa using hx)) (by rw [List.length_reverse]; exact hk)

/-- which of three a number of eight bytes is -/
theorem pub_split (l : List Int) : (pubB l = true ∧ ¬ lo l < 2 ∧ ¬ 2305843009213693949 < lo l) ∨ (pubB l = false ∧ lo l < 2) ∨ (pubB l = false ∧ ¬ lo l < 2 ∧ 2305843009213693949 < lo l) := by
  unfold pubB
  by_cases h1 : lo l < 2
  · exact .inr (.inl ⟨by simp; omega, h1⟩)
  · by_cases h2 : 2305843009213693949 < lo l
    · exact .inr (.inr ⟨by simp; omega, h1, h2⟩)
    · exact .inl ⟨by simp; omega, h1, h2⟩

theorem implReadPublic_any (A : Option Addr) (n c : Nat) (l : List Int) (w : World) (h : Bs w A n l) (hn : n ≤ 9223372036854775807) :
    Calls Try.prog 17 #[.slice A n c] w fun e w' => e = .returned (.agg #[.int .i64 (readC n l), .int .i64 (readV n l)]) ∧ Below w.heap.size w w' := by
  by_cases h8 : n = 8
  · subst h8
    obtain ⟨b0, b1⟩ := lo_bd8 l h.byte h.len
    have c1 := fun W (h : Bs W A 8 l) => joinLowU_any A 8 c l W h (Nat.le_refl _)
    have hs := pub_split l
    have Hf : Hid ((pubB l = true → readC 8 l = 0 ∧ readV 8 l = lo l) ∧ (pubB l = false → readC 8 l = 5 ∧ readV 8 l = 0)) :=
      ⟨fun h => by simp [readC, readV, h], fun h => by simp [readC, readV, h]⟩
    generalize readC 8 l = C at *
    generalize readV 8 l = V at *
    obtain ⟨N, hN⟩ : ∃ N, N = lo l := ⟨_, rfl⟩
    rw [← hN] at hs Hf b0 b1 
    simp only [← hN] at c1
    rcases hs with ⟨hp, h1, h2⟩ | ⟨hp, h1⟩ | ⟨hp, h1, h2⟩
    · obtain ⟨rfl, rfl⟩ := Hf.out.1 hp
      clear Hf hp hN
      go_enter Try.func17, Try.ntmps17
      go_wp2_with fail
      refine (c1 _ (h.alloc _)).mono ?_
      rintro e w1 ⟨rfl, hb⟩
      obtain ⟨x0, x1, x2, x3⟩ := ((Two.new w 27 (.int .i64 0) (.int .i64 0)).below hb (by simp)).cells
      go_wp2
      refine bodyPost_ret (v := .agg #[.int .i64 0, .int .i64 V]) (by simp [results, Try.results17, go_sem, x0, x1]) rfl ?_
      exact ⟨rfl, ((ac (ab (Below.refl _ w) _) hb).setCell (by simp) _).setCell (by simp) _⟩
    · obtain ⟨rfl, rfl⟩ := Hf.out.2 hp
      clear Hf hp hN
      go_enter Try.func17, Try.ntmps17
      go_wp2_with fail
      refine (c1 _ (h.alloc _)).mono ?_
      rintro e w1 ⟨rfl, hb⟩
      obtain ⟨x0, x1, x2, x3⟩ := ((Two.new w 27 (.int .i64 0) (.int .i64 0)).below hb (by simp)).cells
      go_wp2
      refine bodyPost_ret (v := .agg #[.int .i64 5, .int .i64 0]) (by simp [results, Try.results17, go_sem, x0, x1]) rfl ?_
      exact ⟨rfl, ((ac (ab (Below.refl _ w) _) hb).setCell (by simp) _).setCell (by simp) _⟩
    · obtain ⟨rfl, rfl⟩ := Hf.out.2 hp
      clear Hf hp hN
      go_enter Try.func17, Try.ntmps17
      go_wp2_with fail
      refine (c1 _ (h.alloc _)).mono ?_
      rintro e w1 ⟨rfl, hb⟩
      obtain ⟨x0, x1, x2, x3⟩ := ((Two.new w 27 (.int .i64 0) (.int .i64 0)).below hb (by simp)).cells
      go_wp2
      refine bodyPost_ret (v := .agg #[.int .i64 5, .int .i64 0]) (by simp [results, Try.results17, go_sem, x0, x1]) rfl ?_
      exact ⟨rfl, ((ac (ab (Below.refl _ w) _) hb).setCell (by simp) _).setCell (by simp) _⟩
  · have Hf : Hid (readC n l = 2 ∧ readV n l = 0) := by show readC n l = 2 ∧ readV n l = 0; simp [readC, readV, h8]
    have hne : ¬ (n : Int) = 8 := by omega
    go_enter Try.func17, Try.ntmps17
    go_wp2
    go_returns
    rw [Hf.out.1, Hf.out.2]
    exact ⟨rfl, by go_grown⟩

def pubV (l : List Int) : Int := if pubB l then lo l else 0

set_option maxHeartbeats 1000000 in
theorem l4Read_any (A : Option Addr) (c : Nat) (l : List Int) (w : World) (h : Bs w A 8 l) (hc8 : 8 ≤ c) :
    Calls Try.prog 51 #[.slice A 8 c] w fun e w' => e = .returned (.int .u64 (pubV l)) ∧ Below w.heap.size w w' := by
  obtain ⟨b0, b1⟩ := lo_bd8 l h.byte h.len
  obtain ⟨b, off, X, rfl, hbs, hX0, hX1, HX, hx⟩ := h.get (show 7 < 8 by omega)
  have hp := h.part_ 0 7 (by omega)
  rw [List.drop_zero, Nat.add_zero] at hp
  obtain ⟨m0, m1⟩ := lo7_bd _ hp.byte (by rw [hp.len]; exact Nat.le_refl _)
  have e8 := lo_eight l h.len
  rw [HX.out] at e8
  have G : Shut (∀ W : World, W.cell? ⟨b, off + 7, none⟩ = some (.int .u8 X) ∧ Below w.heap.size w W → Calls Try.prog 64 #[.slice (some ⟨b, off, none⟩) 7 c] W fun e w' => e = .returned (.int .i64 (lo (l.take 7))) ∧ w'.cell? ⟨b, off + 7, none⟩ = some (.int .u8 X) ∧ Below w.heap.size w w') :=
    ⟨fun W ⟨_, hB⟩ => (specl1ReadLow_any _ 7 c _ W (hp.below hB) (Nat.le_refl _)).mono fun e w' ⟨he, hb⟩ => ⟨he, ((ac hB hb).cell (p := ⟨b, off + 7, none⟩) hbs).trans hx, ac hB hb⟩⟩
  have hd : w.drew.cell? ⟨b, off + 7, none⟩ = some (.int .u8 X) := hx
  have hB := (Below.refl w.heap.size w).drew
  have Hs := pub_split l
  have Hf : Hid ((pubB l = true → pubV l = lo l) ∧ (pubB l = false → pubV l = 0)) := ⟨fun h => by simp [pubV, h], fun h => by simp [pubV, h]⟩
  generalize lo (l.take 7) = M at *
  generalize pubV l = V at *
  obtain ⟨N, hN⟩ : ∃ N, N = lo l := ⟨_, rfl⟩
  rw [← hN] at Hs Hf b0 b1 e8
  have hsum : IntKind.u64.wrap (X * 72057594037927936 + M) = N := by rw [IntKind.wrap_u64]; omega
  have hq1 : (7 : Int) ≤ (c : Int) := by omega
  have Hc := Lib.hid hc8
  clear h hp e8 HX hN hc8
  have w1 : IntKind.u64.wrap X = X := by rw [IntKind.wrap_u64]; omega
  have w2 : IntKind.u64.wrap (X * 72057594037927936) = X * 72057594037927936 := by rw [IntKind.wrap_u64]; omega
  have w3 : IntKind.u64.wrap M = M := by rw [IntKind.wrap_u64]; omega
  rcases Hs with ⟨hp, h1, h2⟩ | ⟨hp, h1⟩ | ⟨hp, h1, h2⟩
  · obtain rfl := Hf.out.1 hp
    clear Hf hp
    go_enter Try.func51, Try.ntmps51
    go_wp2_with fail
    go_region_held3 (fun W => W.cell? ⟨b, off + 7, none⟩ = some (.int .u8 X) ∧ Below w.heap.size w W)
      (first | (exact ⟨by assumption, by assumption⟩) | (exact ⟨hd, hB⟩) | go_keep)
      (first
        | (go_at_call 64; refine (G.out _ ?_).mono ?_; (first | assumption | (simp [*]; done)); rintro e w' ⟨rfl, z0, z1⟩))
    all_goals
      try simp only [w1, w2, w3, hsum]
      go_wp2
      go_ret
      exact ⟨rfl, z1⟩
  · obtain rfl := Hf.out.2 hp
    clear Hf hp
    go_enter Try.func51, Try.ntmps51
    go_wp2_with fail
    go_region_held3 (fun W => W.cell? ⟨b, off + 7, none⟩ = some (.int .u8 X) ∧ Below w.heap.size w W)
      (first | (exact ⟨by assumption, by assumption⟩) | (exact ⟨hd, hB⟩) | go_keep)
      (first
        | (go_at_call 64; refine (G.out _ ?_).mono ?_; (first | assumption | (simp [*]; done)); rintro e w' ⟨rfl, z0, z1⟩))
    all_goals
      try simp only [w1, w2, w3, hsum]
      go_wp2
      go_ret
      exact ⟨rfl, z1⟩
  · obtain rfl := Hf.out.2 hp
    clear Hf hp
    go_enter Try.func51, Try.ntmps51
    go_wp2_with fail
    go_region_held3 (fun W => W.cell? ⟨b, off + 7, none⟩ = some (.int .u8 X) ∧ Below w.heap.size w W)
      (first | (exact ⟨by assumption, by assumption⟩) | (exact ⟨hd, hB⟩) | go_keep)
      (first
        | (go_at_call 64; refine (G.out _ ?_).mono ?_; (first | assumption | (simp [*]; done)); rintro e w' ⟨rfl, z0, z1⟩))
    all_goals
      try simp only [w1, w2, w3, hsum]
      go_wp2
      go_ret
      exact ⟨rfl, z1⟩

/-- the code and the value from what is read -/
theorem read_of (l : List Int) : (pubB l = true → pubV l = lo l ∧ 2 ≤ lo l ∧ readC 8 l = 0 ∧ readV 8 l = lo l) ∧ (pubB l = false → pubV l = 0 ∧ readC 8 l = 5 ∧ readV 8 l = 0) := by
  refine ⟨fun h => ⟨by simp [pubV, h], ?_, by simp [readC, h], by simp [readV, h]⟩, fun h => ⟨by simp [pubV, h], by simp [readC, h], by simp [readV, h]⟩⟩
  have : 2 ≤ lo l ∧ lo l ≤ 2305843009213693949 := by simpa [pubB] using h
  exact this.1

theorem specReadPublic_any (A : Option Addr) (n c : Nat) (l : List Int) (w : World) (h : Bs w A n l) (hc : n ≤ c) (hn : n ≤ 140737488351232) :
    Calls Try.prog 24 #[.slice A n c] w fun e w' => e = .returned (.agg #[.int .i64 (readC n l), .int .i64 (readV n l)]) ∧ Below w.heap.size w w' := by
  by_cases h8 : n = 8
  · subst h8
    have c1 := fun W (h : Bs W A 8 l) => l4Read_any A c l W h hc
    have Hf := Lib.hid (read_of l)
    generalize readC 8 l = C at *
    generalize readV 8 l = V at *
    generalize pubV l = U at *
    cases hp : pubB l
    · obtain ⟨rfl, rfl, rfl⟩ := Hf.out.2 hp
      clear Hf hp
      go_enter Try.func24, Try.ntmps24
      go_wp2_with fail
      refine (c1 _ (h.alloc _)).mono ?_
      rintro e w1 ⟨rfl, hb⟩
      obtain ⟨x0, x1, x2, x3⟩ := ((Two.new w 27 (.int .i64 0) (.int .i64 0)).below hb (by simp)).cells
      go_wp2
      refine bodyPost_ret (v := .agg #[.int .i64 5, .int .i64 0]) (by simp [results, Try.results24, go_sem, x0, x1]) rfl ?_
      exact ⟨rfl, ((ac (ab (Below.refl _ w) _) hb).setCell (by simp) _).setCell (by simp) _⟩
    · obtain ⟨hU, h2, rfl, hV⟩ := Hf.out.1 hp
      obtain rfl : U = V := by rw [hU, hV]
      have h0 : ¬ U = 0 := by omega
      have h2' : 2 ≤ U := by omega
      have hu := (lo_bd8 l h.byte h.len).2
      have hu2 : U ≤ 2305843009213693949 := by
        have : 2 ≤ lo l ∧ lo l ≤ 2305843009213693949 := by simpa [pubB] using hp
        omega
      clear Hf hp hU hV h2 hu
      go_enter Try.func24, Try.ntmps24
      go_wp2_with fail
      refine (c1 _ (h.alloc _)).mono ?_
      rintro e w1 ⟨rfl, hb⟩
      obtain ⟨x0, x1, x2, x3⟩ := ((Two.new w 27 (.int .i64 0) (.int .i64 0)).below hb (by simp)).cells
      go_wp2
      refine bodyPost_ret (v := .agg #[.int .i64 0, .int .i64 U]) (by simp [results, Try.results24, go_sem, x0, x1]) rfl ?_
      exact ⟨rfl, ((ac (ab (Below.refl _ w) _) hb).setCell (by simp) _).setCell (by simp) _⟩
  · have Hf : Hid (readC n l = 2 ∧ readV n l = 0) := by show readC n l = 2 ∧ readV n l = 0; simp [readC, readV, h8]
    have hne : ¬ (n : Int) = 8 := by omega
    go_enter Try.func24, Try.ntmps24
    go_wp2
    go_returns
    rw [Hf.out.1, Hf.out.2]
    exact ⟨rfl, by go_grown⟩

theorem readWalk (a0 : Option Addr) (len0 cap0 : Nat) (z0 : List Int) (w : World) (w0 : IsRow .u8 w a0 len0 cap0 z0) :
    Calls Try.prog 7 #[.slice a0 len0 cap0] w fun e w' => e = .returned (.bool true) ∧ Below w.heap.size w w' := by
  have h0 := w0.bs
  clear w0
  by_cases hl0 : len0 ≤ 1048576
  · go_enter Try.func7, Try.ntmps7
    go_wp2_with fail
    refine (toByteS_any _ _ _ _ _ h0 (by omega)).mono ?_
    rintro e w2 ⟨rfl, k2, b2⟩
    go_wp2_with fail
    refine (specReadPublic_any _ _ _ _ _ (k2.bsn h0.byte h0.len) (Nat.le_refl _) (by omega)).mono ?_
    rintro e w3 ⟨rfl, b3⟩
    have B3 := ab (ac (ac (Below.refl _ w) b2) b3) (.cells #[.int .i64 (readC len0 (z0.take len0)), .int .i64 (readV len0 (z0.take len0))] 27)
    obtain ⟨c3, f3, s3⟩ := bcell b3
    go_wp2_with fail
    refine (toByteS_any _ _ _ _ _ (h0.below B3) (by omega)).mono ?_
    rintro e w4 ⟨rfl, k4, b4⟩
    obtain ⟨c4, f4, s4⟩ := bcell b4
    simp only [World.size_alloc] at c4 f4 s4 k4
    go_wp2_with fail
    refine (implReadPublic_any _ _ _ _ _ (k4.bsn h0.byte h0.len) (by omega)).mono ?_
    rintro e w5 ⟨rfl, b5⟩
    obtain ⟨c5, f5, s5⟩ := bcell b5
    have z4 : w3.heap.size < w4.heap.size := by omega
    have z5 : w3.heap.size < w5.heap.size := by omega
    go_wp2_with fail
    refine (eqInt_any _ _ _ _ _).mono ?_
    rintro e w6 ⟨rfl, b6⟩
    have g6 := (((k4.bsn h0.byte h0.len).below b5).alloc _).below b6
    have B6 := ac (ab (ac (ac B3 b4) b5) _) b6
    go_wp2_with fail
    refine (toByteS_any _ _ _ _ _ (h0.below B6) (by omega)).mono ?_
    rintro e w7 ⟨rfl, k7, b7⟩
    go_wp2_with fail
    refine (eqByteS_any _ _ _ _ _ _ _ _ _ (g6.below b7) (k7.bsn h0.byte h0.len) (by omega) (by omega)).mono ?_
    rintro e w8 ⟨rfl, q8, rfl⟩
    go_wp2
    go_ret
    exact ⟨rfl, ad (ac B6 b7) q8⟩
  · go_enter Try.func7, Try.ntmps7
    go_wp2
    go_ret
    exact ⟨rfl, Below.refl _ _⟩
end Go.Proofs.Ytgmmoilgmaklgaa
