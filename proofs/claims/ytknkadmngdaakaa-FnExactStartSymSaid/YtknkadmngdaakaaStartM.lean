/- Marks in runs whose block bears the run-time's mark behind its end (gen_om.py). -/
import Derived.Test.YtknkadmngdaakaaSymA
namespace Go.Proofs.Ytknkadmngdaakaa
open Go.RowKit

/-- a slice of n bytes at A, of the call's own, in a block from B on: the block holds what the slice reads -/
structure Om (w : World) (B : Nat) (A : Option Addr) (n : Nat) (l : List Int) : Prop where
  len : l.length = n
  byte : By l
  at_ : 0 < n → ∃ b, A = some ⟨b, 0, none⟩ ∧ B ≤ b ∧ b < w.heap.size ∧ (∀ i, i < n → w.cell? ⟨b, i, none⟩ = some (.int .u8 (l.getD i 0))) ∧ ∀ i, i < n → w.frozen? ⟨b, i, none⟩ = false

theorem Om.bs {w : World} {B n : Nat} {A : Option Addr} {l : List Int} (h : Om w B A n l) : Bs w A n l :=
  ⟨h.len, h.byte, fun hn => by
    obtain ⟨b, e, _, hb, hc, _⟩ := h.at_ hn
    exact ⟨b, 0, e, hb, fun i hi => by rw [Nat.zero_add]; exact hc i hi⟩⟩

theorem Om.below {w w' : World} {B C n : Nat} {A : Option Addr} {l : List Int} (h : Om w B A n l) (hb : Below C w w') (hC : w.heap.size ≤ C) : Om w' B A n l :=
  ⟨h.len, h.byte, fun hn => by
    obtain ⟨b, e, hB, hlt, hc, hf⟩ := h.at_ hn
    exact ⟨b, e, hB, Nat.lt_of_lt_of_le hlt hb.size, fun i hi => (hb.cell (p := ⟨b, i, none⟩) (by show b < C; omega)).trans (hc i hi), fun i hi => (hb.frozen (p := ⟨b, i, none⟩) (by show b < C; omega)).trans (hf i hi)⟩⟩
theorem Om.mono {w : World} {B C n : Nat} {A : Option Addr} {l : List Int} (h : Om w B A n l) (hC : C ≤ B) : Om w C A n l :=
  ⟨h.len, h.byte, fun hn => by
    obtain ⟨b, e, hB, rest⟩ := h.at_ hn
    exact ⟨b, e, by omega, rest⟩⟩

theorem Om.base {w : World} {B n : Nat} {A : Option Addr} {l : List Int} (h : Om w B A n l) : 0 < n → ∀ a, A = some a → B ≤ a.block := fun hn a ha => by
  obtain ⟨b, e, hB, _⟩ := h.at_ hn
  rw [e] at ha
  injection ha with ha
  subst ha
  exact hB
theorem Om.top {w : World} {B n : Nat} {A : Option Addr} {l : List Int} (h : Om w B A n l) : 0 < n → ∀ a, A = some a → a.block < w.heap.size := fun hn a ha => by
  obtain ⟨b, e, _, hlt, _⟩ := h.at_ hn
  rw [e] at ha
  injection ha with ha
  subst ha
  exact hlt
theorem Om.set_ {w : World} {B n b i : Nat} {l : List Int} {x : Int} (h : Om w B (some ⟨b, 0, none⟩) n l) (hi : i < n) (hx0 : 0 ≤ x) (hx1 : x < 256) :
    Om (w.setCell ⟨b, i, none⟩ (.int .u8 x)) B (some ⟨b, 0, none⟩) n (l.set i x) := by
  refine ⟨by rw [List.length_set]; exact h.len, fun y hy => ?_, fun hn => ?_⟩
  · rcases List.mem_or_eq_of_mem_set hy with h1 | h1
    · exact h.byte y h1
    · subst h1; exact ⟨hx0, hx1⟩
  · obtain ⟨b', e, hB, hlt, hc, hf⟩ := h.at_ hn
    injection e with e
    injection e with e
    subst e
    refine ⟨b, rfl, hB, by rw [World.size_setCell]; exact hlt, fun j hj => ?_, fun j hj => by rw [World.frozen?_setCell]; exact hf j hj⟩
    by_cases hij : i = j
    · subst hij
      rw [World.cell?_setCell_same (h := hc i hi)]
      simp [List.getD, List.getElem?_set_self (show i < l.length by rw [h.len]; exact hi)]
    · rw [World.cell?_setCell_other (h := by intro e; injection e with _ e2; exact hij e2), hc j hj]
      simp [List.getD, List.getElem?_set_ne hij]
theorem Om.only {w w' : World} {B n m : Nat} {A A' : Option Addr} {l : List Int} (h : Om w B A n l) (ho : Only m A' w w') (hA : 0 < m → ∀ a, A' = some a → a.block < B) : Om w' B A n l :=
  ⟨h.len, h.byte, fun hn => by
    obtain ⟨b, e, hB, hlt, hc, hf⟩ := h.at_ hn
    have hk := ho.block b (fun hm a ha e => by have := hA hm a ha; omega)
    exact ⟨b, e, hB, by rw [ho.size]; exact hlt, fun i hi => (World.cell?_of_block (a := ⟨b, i, none⟩) hk).trans (hc i hi), fun i hi => (World.frozen?_of_block (a := ⟨b, i, none⟩) hk).trans (hf i hi)⟩⟩
theorem Om.far {w : World} {B n : Nat} {A : Option Addr} {l : List Int} (h : Om w B A n l) {p : Addr} (hp : p.block < B) (v : Value) : Om (w.setCell p v) B A n l :=
  ⟨h.len, h.byte, fun hn => by
    obtain ⟨b, e, hB, hlt, hc, hf⟩ := h.at_ hn
    have hk := Below.heap_setCell w p v b (by omega)
    exact ⟨b, e, hB, by rw [World.size_setCell]; exact hlt, fun i hi => (World.cell?_of_block (a := ⟨b, i, none⟩) hk).trans (hc i hi), fun i hi => (World.frozen?_of_block (a := ⟨b, i, none⟩) hk).trans (hf i hi)⟩⟩

theorem Om.drewN {w : World} {B n : Nat} {A : Option Addr} {l : List Int} (h : Om w B A n l) (k : Nat) : Om (w.drewN k) B A n l := ⟨h.len, h.byte, h.at_⟩
theorem Om.alloc {w : World} {B n : Nat} {A : Option Addr} {l : List Int} (h : Om w B A n l) (o : Obj) : Om (w.alloc o) B A n l := h.below ((Below.refl w.heap.size w).alloc (Nat.le_refl _) o) (Nat.le_refl _)
theorem Om.under {w w' : World} {B C n : Nat} {A : Option Addr} {l : List Int} (h : Om w B A n l) (hb : Below C w w') (hA : 0 < n → ∀ a, A = some a → a.block < C) : Om w' B A n l :=
  ⟨h.len, h.byte, fun hn => by
    obtain ⟨b, e, hB, hlt, hc, hf⟩ := h.at_ hn
    have hk := hb.block b (hA hn _ e)
    exact ⟨b, e, hB, Nat.lt_of_lt_of_le hlt hb.size, fun i hi => (World.cell?_of_block (a := ⟨b, i, none⟩) hk).trans (hc i hi), fun i hi => (World.frozen?_of_block (a := ⟨b, i, none⟩) hk).trans (hf i hi)⟩⟩

theorem Om.nil_ (w : World) (B : Nat) : Om w B none 0 [] := ⟨rfl, By.nil, fun h => absurd h (by omega)⟩

/-- the marks are laid into the slice's own block, and nowhere else -/
theorem markByteS_m (A : Option Addr) (n c B : Nat) (l : List Int) (k : Int) (w : World) (h : Om w B A n l) (hk0 : 0 ≤ k) (hk1 : k ≤ 140737488351232) (hn : n ≤ 140737488351232) :
    Calls Try.prog 24 #[.slice A n c, .int .i64 k] w fun e w' => e = .returned (.int .i64 (k + (n : Int))) ∧ Om w' B A n (marks k n) ∧ Only n A w w' := by
  have Hl := Lib.hid h.len
  go_enter Try.func24, Try.ntmps24
  go_wp2
  go_loopw [1, 5] (fun q i wr => ∃ j : Nat, j ≤ n ∧ i = .int .i64 j ∧ q = .int .i64 (k + (j : Int)) ∧ Om wr B A n (markd k l j) ∧ Only n A w wr) (fun _ i _ => n - (intOf i).toNat)
  case atStart => exact ⟨0, Nat.zero_le _, rfl, by go_num, by rw [markd_zero]; exact h, Only.refl _ _ _⟩
  case round =>
    obtain ⟨j, hj, rfl, rfl, ho, hon⟩ := hrel
    by_cases hlt : j < n
    · obtain ⟨b, rfl, hB, hbl, hc, hf⟩ := ho.at_ (by omega)
      have hx := hc j hlt
      have hy := hf j hlt
      clear hc hf
      go_wp2
      refine ⟨⟨j + 1, by omega, by go_num, by go_num, ?_, ?_⟩, by simp [intOf]; omega⟩
      · rw [← markd_set k l j (by rw [Hl.out]; exact hlt)]
        exact ho.set_ hlt (by omega) (by omega)
      · exact hon.set_ (by omega) _ _
    · obtain rfl : j = n := by omega
      go_wp2
      go_ret
      exact ⟨rfl, by rw [← markd_full k l j Hl.out]; exact ho, hon⟩

theorem Om.only' {w w' : World} {B n m : Nat} {A A' : Option Addr} {l : List Int} (h : Om w B A n l) (ho : Only m A' w w') (ha : Sunder m n A' A) : Om w' B A n l :=
  ⟨h.len, h.byte, fun hn => by
    obtain ⟨b, e, hB, hlt, hc, hf⟩ := h.at_ hn
    have hk := ho.block b (fun hm a he => ha hm hn a _ he e)
    exact ⟨b, e, hB, by rw [ho.size]; exact hlt, fun i hi => (World.cell?_of_block (a := ⟨b, i, none⟩) hk).trans (hc i hi), fun i hi => (World.frozen?_of_block (a := ⟨b, i, none⟩) hk).trans (hf i hi)⟩⟩
/-- some runs of bytes of the call's own, no two of which share a block -/
def Rm (w : World) (B : Nat) : List (Option Addr × Nat × List Int) → Prop
  | [] => True
  | x :: r => Om w B x.1 x.2.1 x.2.2 ∧ (∀ y ∈ r, Sunder x.2.1 y.2.1 x.1 y.1) ∧ Rm w B r

theorem Rm.nil (w : World) (B : Nat) : Rm w B [] := trivial
theorem Rm.head {w : World} {B n : Nat} {A : Option Addr} {l : List Int} {r : List (Option Addr × Nat × List Int)} (h : Rm w B ((A, n, l) :: r)) : Om w B A n l := h.1
theorem Rm.rest {w : World} {B : Nat} {x : Option Addr × Nat × List Int} {r : List (Option Addr × Nat × List Int)} (h : Rm w B (x :: r)) : Rm w B r := h.2.2
theorem Rm.cons {w : World} {B n : Nat} {A : Option Addr} {l : List Int} {r : List (Option Addr × Nat × List Int)} (h : Om w B A n l) (ha : ∀ y ∈ r, Sunder n y.2.1 A y.1) (hr : Rm w B r) : Rm w B ((A, n, l) :: r) := ⟨h, ha, hr⟩
theorem Rm.mem {w : World} {B : Nat} {L : List (Option Addr × Nat × List Int)} (h : Rm w B L) : ∀ x ∈ L, Om w B x.1 x.2.1 x.2.2 := by
  induction L with
  | nil => intro x hx; cases hx
  | cons y r ih =>
    intro x hx
    rcases List.mem_cons.1 hx with rfl | hx
    · exact h.1
    · exact ih h.2.2 x hx
/-- the same runs, each carried over -/
theorem Rm.map {w w' : World} {B B' : Nat} {L : List (Option Addr × Nat × List Int)} (h : Rm w B L) (f : ∀ x ∈ L, Om w B x.1 x.2.1 x.2.2 → Om w' B' x.1 x.2.1 x.2.2) : Rm w' B' L := by
  induction L with
  | nil => trivial
  | cons y r ih => exact ⟨f y (by simp) h.1, h.2.1, ih h.2.2 (fun x hx => f x (by simp [hx]))⟩
theorem Rm.below {w w' : World} {B C : Nat} {L : List (Option Addr × Nat × List Int)} (h : Rm w B L) (hb : Below C w w') (hC : w.heap.size ≤ C) : Rm w' B L := h.map fun _ _ o => o.below hb hC
theorem Rm.mono {w : World} {B C : Nat} {L : List (Option Addr × Nat × List Int)} (h : Rm w B L) (hC : C ≤ B) : Rm w C L := h.map fun _ _ o => o.mono hC
theorem Rm.alloc {w : World} {B : Nat} {L : List (Option Addr × Nat × List Int)} (h : Rm w B L) (o : Obj) : Rm (w.alloc o) B L := h.map fun _ _ k => k.alloc o
theorem Rm.drewN {w : World} {B : Nat} {L : List (Option Addr × Nat × List Int)} (h : Rm w B L) (q : Nat) : Rm (w.drewN q) B L := h.map fun _ _ k => k.drewN q
theorem Rm.far {w : World} {B : Nat} {L : List (Option Addr × Nat × List Int)} (h : Rm w B L) {p : Addr} (hp : p.block < B) (v : Value) : Rm (w.setCell p v) B L := h.map fun _ _ k => k.far hp v
theorem Rm.tops {w : World} {B : Nat} {L : List (Option Addr × Nat × List Int)} (h : Rm w B L) : Tops w.heap.size L := fun x hx => (h.mem x hx).top
theorem Rm.bases {w : World} {B : Nat} {L : List (Option Addr × Nat × List Int)} (h : Rm w B L) : ∀ x ∈ L, 0 < x.2.1 → ∀ a, x.1 = some a → B ≤ a.block := fun x hx => (h.mem x hx).base
theorem Rm.under {w w' : World} {B C : Nat} {L : List (Option Addr × Nat × List Int)} (h : Rm w B L) (hb : Below C w w') (hT : Tops C L) : Rm w' B L := h.map fun x hx o => o.under hb (hT x hx)

theorem Om.touch {w w' : World} {B n : Nat} {A : Option Addr} {l : List Int} {L : List (Option Addr × Nat × List Int)} (h : Om w B A n l) (t : Touch L w w') (ha : ∀ y ∈ L, Sunder n y.2.1 A y.1) : Om w' B A n l :=
  ⟨h.len, h.byte, fun hn => by
    obtain ⟨b, e, hB, hlt, hc, hf⟩ := h.at_ hn
    have hk := t.block b hlt (fun x hx h0 a ea eb => ha x hx hn h0 _ a e ea eb.symm)
    exact ⟨b, e, hB, Nat.lt_of_lt_of_le hlt t.size, fun i hi => (World.cell?_of_block (a := ⟨b, i, none⟩) hk).trans (hc i hi), fun i hi => (World.frozen?_of_block (a := ⟨b, i, none⟩) hk).trans (hf i hi)⟩⟩
theorem Rm.touch {w w' : World} {B : Nat} {L M : List (Option Addr × Nat × List Int)} (h : Rm w B L) (t : Touch M w w') (hM : Tops B M) : Rm w' B L :=
  h.map fun _ _ o => o.touch t (fun y hy hn hm a b ea eb e => by have h1 := o.base hn a ea; have h2 := hM y hy hm b eb; omega)

theorem markSym_m (A B C : Option Addr) (n m q c d f X : Nat) (l r s : List Int) (z k : Int) (w : World) (h : Rm w X [(A, n, l), (B, m, r), (C, q, s)]) (hk0 : 0 ≤ k) (hk : k ≤ 14073748835123) (hn : n ≤ 14073748835123) (hm : m ≤ 14073748835123) (hq : q ≤ 14073748835123) :
    Calls Try.prog 23 #[.agg #[.slice A n c, .slice B m d, .slice C q f, .int .i64 z], .int .i64 k] w fun e w' => e = .returned (.int .i64 (k + (n : Int) + (m : Int) + (q : Int))) ∧
      Rm w' X [(A, n, marks k n), (B, m, marks (k + (n : Int)) m), (C, q, marks (k + (n : Int) + (m : Int)) q)] ∧ Touch [(A, n, l), (B, m, r), (C, q, s)] w w' := by
  have hA := h.tops
  have t0 : Touch [(A, n, l), (B, m, r), (C, q, s)] w (w.alloc (.cells #[.slice A n c, .slice B m d, .slice C q f, .int .i64 z] 27)) := Touch.ofBelow (ab (Below.refl _ w) _)
  have S0 := Stc.new w 27 [.slice A n c, .slice B m d, .slice C q f, .int .i64 z] _ rfl
  obtain ⟨o1, s1, o2, s2, o3, _⟩ := h
  have s12 := s1 (B, m, r) (by simp)
  have s13 := s1 (C, q, s) (by simp)
  have s23 := s2 (C, q, s) (by simp)
  clear s1 s2
  have hA : ∀ x ∈ [(A, n, l), (B, m, r), (C, q, s)], 0 < x.2.1 → ∀ a, x.1 = some a → a.block ≠ w.heap.size := fun x hx h0 a ha => Nat.ne_of_lt (hA x hx h0 a ha)
  go_enter Try.func23, Try.ntmps23
  go_wp2_with fail
  refine (markByteS_m _ _ _ _ _ _ _ (o1.alloc _) hk0 (by omega) (by omega)).mono ?_
  rintro e w1 ⟨rfl, m1, on1⟩
  have t1 := t0.trans (Touch.ofOnly (L := [(A, n, l), (B, m, r), (C, q, s)]) (l := l) on1 (by simp))
  replace S0 := S0.touch (Touch.ofOnly (L := [(A, n, l), (B, m, r), (C, q, s)]) (l := l) on1 (by simp)) hA
  replace o2 := (o2.alloc _).only' on1 s12
  replace o3 := (o3.alloc _).only' on1 s13
  have x1 := S0.cell (i := 1) rfl
  go_wp2_with fail
  refine (markByteS_m _ _ _ _ _ _ _ o2 (by omega) (by omega) (by omega)).mono ?_
  rintro e w2 ⟨rfl, m2, on2⟩
  have t2 := t1.trans (Touch.ofOnly (L := [(A, n, l), (B, m, r), (C, q, s)]) (l := r) on2 (by simp))
  replace S0 := S0.touch (Touch.ofOnly (L := [(A, n, l), (B, m, r), (C, q, s)]) (l := r) on2 (by simp)) hA
  replace m1 := m1.only' on2 s12.symm
  replace o3 := o3.only' on2 s23
  clear x1
  have x2 := S0.cell (i := 2) rfl
  go_wp2_with fail
  refine (markByteS_m _ _ _ _ _ _ _ o3 (by omega) (by omega) (by omega)).mono ?_
  rintro e w3 ⟨rfl, m3, on3⟩
  have t3 := t2.trans (Touch.ofOnly (L := [(A, n, l), (B, m, r), (C, q, s)]) (l := s) on3 (by simp))
  replace m1 := m1.only' on3 s13.symm
  replace m2 := m2.only' on3 s23.symm
  go_wp2
  go_returns
  refine ⟨rfl, Rm.cons m1 ?_ (Rm.cons m2 ?_ (Rm.cons m3 ?_ (Rm.nil _ _))), t3⟩
  · intro y hy
    simp only [List.mem_cons, List.not_mem_nil, or_false] at hy
    rcases hy with rfl | rfl
    · exact s12
    · exact s13
  · intro y hy
    simp only [List.mem_cons, List.not_mem_nil, or_false] at hy
    subst hy
    exact s23
  · intro y hy; cases hy

theorem markSymResult_m (x : Int) (A B C D : Option Addr) (n m q p c d f g X : Nat) (l r s t : List Int) (z k : Int) (w : World) (h : Rm w X [(A, n, l), (B, m, r), (C, q, s), (D, p, t)]) (hk0 : 0 ≤ k) (hk : k ≤ 1407374883512) (hn : n ≤ 1407374883512) (hm : m ≤ 1407374883512) (hq : q ≤ 1407374883512) (hp : p ≤ 1407374883512) :
    Calls Try.prog 13 #[.agg #[.int .i64 x, .slice A n c, .slice B m d, .slice C q f, .int .i64 z, .slice D p g], .int .i64 k] w fun e w' => e = .returned (.int .i64 (k + (n : Int) + (m : Int) + (q : Int) + (p : Int))) ∧
      Rm w' X [(A, n, marks k n), (B, m, marks (k + (n : Int)) m), (C, q, marks (k + (n : Int) + (m : Int)) q), (D, p, marks (k + (n : Int) + (m : Int) + (q : Int)) p)] ∧ Touch [(A, n, l), (B, m, r), (C, q, s), (D, p, t)] w w' := by
  have hA := h.tops
  have t0 : Touch [(A, n, l), (B, m, r), (C, q, s), (D, p, t)] w (w.alloc (.cells #[.int .i64 x, .slice A n c, .slice B m d, .slice C q f, .int .i64 z, .slice D p g] 32)) := Touch.ofBelow (ab (Below.refl _ w) _)
  have S0 := Stc.new w 32 [.int .i64 x, .slice A n c, .slice B m d, .slice C q f, .int .i64 z, .slice D p g] _ rfl
  have h3 : Rm w X [(A, n, l), (B, m, r), (C, q, s)] := by
    obtain ⟨o1, s1, o2, s2, o3, s3, o4, _⟩ := h
    refine Rm.cons o1 ?_ (Rm.cons o2 ?_ (Rm.cons o3 ?_ (Rm.nil _ _)))
    · intro y hy; exact s1 y (by simp only [List.mem_cons, List.not_mem_nil, or_false] at hy ⊢; rcases hy with rfl | rfl <;> simp)
    · intro y hy; exact s2 y (by simp only [List.mem_cons, List.not_mem_nil, or_false] at hy ⊢; subst hy; simp)
    · intro y hy; cases hy
  obtain ⟨_, s1, _, s2, _, s3, o4, _⟩ := h
  have s14 := s1 (D, p, t) (by simp)
  have s24 := s2 (D, p, t) (by simp)
  have s34 := s3 (D, p, t) (by simp)
  have hA : ∀ y ∈ [(A, n, l), (B, m, r), (C, q, s), (D, p, t)], 0 < y.2.1 → ∀ a, y.1 = some a → a.block ≠ w.heap.size := fun y hy h0 a ha => Nat.ne_of_lt (hA y hy h0 a ha)
  have hsub : ∀ y ∈ [(A, n, l), (B, m, r), (C, q, s)], y ∈ [(A, n, l), (B, m, r), (C, q, s), (D, p, t)] := fun y hy => by
    simp only [List.mem_cons, List.not_mem_nil, or_false] at hy ⊢
    rcases hy with h | h | h <;> simp [h]
  have sA : ∀ y ∈ [(A, n, l), (B, m, r), (C, q, s)], Sunder p y.2.1 D y.1 := fun y hy => by
    simp only [List.mem_cons, List.not_mem_nil, or_false] at hy
    rcases hy with rfl | rfl | rfl
    · exact s14.symm
    · exact s24.symm
    · exact s34.symm
  go_enter Try.func13, Try.ntmps13
  go_wp2_with fail
  refine (markSym_m _ _ _ _ _ _ _ _ _ _ _ _ _ _ _ _ (h3.alloc _) hk0 (by omega) (by omega) (by omega) (by omega)).mono ?_
  rintro e w1 ⟨rfl, m1, t1⟩
  have t2 := t0.trans (t1.wider hsub)
  replace S0 := S0.touch (t1.wider hsub) hA
  replace o4 := (o4.alloc _).touch t1 sA
  have x1 := S0.cell (i := 5) rfl
  go_wp2_with fail
  refine (markByteS_m _ _ _ _ _ _ _ o4 (by omega) (by omega) (by omega)).mono ?_
  rintro e w2 ⟨rfl, m4, on2⟩
  have t3 := t2.trans (Touch.ofOnly (L := [(A, n, l), (B, m, r), (C, q, s), (D, p, t)]) (l := t) on2 (by simp))
  obtain ⟨m1, u1, m2, u2, m3, u3, _⟩ := m1
  replace m1 := m1.only' on2 s14.symm
  replace m2 := m2.only' on2 s24.symm
  replace m3 := m3.only' on2 s34.symm
  go_wp2
  go_returns
  refine ⟨rfl, Rm.cons m1 ?_ (Rm.cons m2 ?_ (Rm.cons m3 ?_ (Rm.cons m4 ?_ (Rm.nil _ _)))), t3⟩
  · intro y hy
    simp only [List.mem_cons, List.not_mem_nil, or_false] at hy
    rcases hy with rfl | rfl | rfl
    · exact u1 _ (by simp)
    · exact u1 _ (by simp)
    · exact s14
  · intro y hy
    simp only [List.mem_cons, List.not_mem_nil, or_false] at hy
    rcases hy with rfl | rfl
    · exact u2 _ (by simp)
    · exact s24
  · intro y hy
    simp only [List.mem_cons, List.not_mem_nil, or_false] at hy
    subst hy
    exact s34
  · intro y hy; cases hy

end Go.Proofs.Ytknkadmngdaakaa
