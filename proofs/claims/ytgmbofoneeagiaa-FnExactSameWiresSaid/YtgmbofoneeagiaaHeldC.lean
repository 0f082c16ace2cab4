/- The laws' helpers for Held and lists of it. -/
import Derived.Test.YtgmbofoneeagiaaLstC
namespace Go.Proofs.Ytgmbofoneeagiaa
open Go.RowKit

/-- what an element is -/
structure HeldD where
  f0 : Int
  f1 : List Int
  f2 : Bool
def HeldD.cels (d : HeldD) : List Cel := [.v (.int .i64 d.f0), .b d.f1, .v (.bool d.f2)]

set_option maxHeartbeats 1000000 in
theorem toHeld_any (x0 : Int) (x2 : Bool) (A : Option Addr) (n e : Nat) (l : List Int) (w : World) (h : Bs w A n l) (hn : n ≤ 140737488351232) :
    Calls Try.prog 191 #[.agg #[.int .i64 x0, .slice A n e, .bool x2]] w fun e w' => (∃ g, e = .returned (.agg #[.int .i64 x0, .slice (some ⟨g, 0, none⟩) n n, .bool x2]) ∧ Ow w' w.heap.size (some ⟨g, 0, none⟩) n l) ∧ Below w.heap.size w w' := by
  have S1 := ((Stc.new (w.alloc (.cells #[.int .i64 x0, .slice A n e, .bool x2] 240)) 187 [.int .i64 0, .slice none 0 0, .bool false] _ rfl).alloc (.cells #[.int .i64 x0, .slice none 0 0, .bool false] 187))
  have S2 := (Stc.new ((w.alloc (.cells #[.int .i64 x0, .slice A n e, .bool x2] 240)).alloc (.cells #[.int .i64 0, .slice none 0 0, .bool false] 187)) 187 [.int .i64 x0, .slice none 0 0, .bool false] _ rfl)
  have B0 := ab (ab (ab (Below.refl _ w) (.cells #[.int .i64 x0, .slice A n e, .bool x2] 240)) (.cells #[.int .i64 0, .slice none 0 0, .bool false] 187)) (.cells #[.int .i64 x0, .slice none 0 0, .bool false] 187)
  have S0 := ((Stc.new w 240 [.int .i64 x0, .slice A n e, .bool x2] _ rfl).alloc (.cells #[.int .i64 0, .slice none 0 0, .bool false] 187)).alloc (.cells #[.int .i64 x0, .slice none 0 0, .bool false] 187)
  simp only [World.size_alloc] at S1 S2
  go_enter Try.func191, Try.ntmps191
  go_wp2_with fail
  refine (toByteS_any _ _ _ _ _ (h.below B0) hn).mono ?_
  rintro e w1 ⟨rfl, k1, b1⟩
  have z1 := b1.size
  simp only [World.size_alloc] at k1 z1 ⊢
  have u1 := k1.lt
  have B1 := ac B0 b1
  replace S0 := S0.below b1 (by simp; omega)
  replace S1 := S1.below b1 (by simp)
  replace S2 := S2.below b1 (by simp)
  clear b1 B0
  have x0_ := S1.cell (i := 0) rfl
  have x1_ := S1.cell (i := 1) rfl
  have x2_ := S1.cell (i := 2) rfl
  have y0_ := S2.cell (i := 0) rfl
  have y1_ := S2.cell (i := 1) rfl
  have y2_ := S2.cell (i := 2) rfl
  have v0_ := S0.cell (i := 0) rfl
  have v1_ := S0.cell (i := 1) rfl
  have v2_ := S0.cell (i := 2) rfl
  have y6 := S2.frozen
  have y7 := S1.frozen
  go_wp2
  refine bodyPost_ret (v := .agg #[.int .i64 x0, .slice (some ⟨w.heap.size + 1 + 1 + 1, 0, none⟩) n n, .bool x2]) (by simp [results, Try.results191, go_sem, x0_, x1_, x2_]) rfl ?_
  have q1 : Ow w1 (w.heap.size + 1 + 1 + 1) (some ⟨w.heap.size + 1 + 1 + 1, 0, none⟩) n l := k1.own h.byte h.len
  refine ⟨⟨_, rfl, (((((q1.far ?_ _).far ?_ _).far ?_ _).far ?_ _).far ?_ _).mono (by omega)⟩, ?_⟩
  · simp
  · simp
  · simp
  · simp
  · simp
  · exact (((((B1.setCell (by first | (simp; done) | (simp; omega)) _).setCell (by first | (simp; done) | (simp; omega)) _).setCell (by first | (simp; done) | (simp; omega)) _).setCell (by first | (simp; done) | (simp; omega)) _).setCell (by first | (simp; done) | (simp; omega)) _)

theorem szHeld_any (x0 : Int) (x2 : Bool) (A : Option Addr) (n e : Nat) (x : Int) (w : World) (h0 : 0 ≤ x) (h1 : x ≤ 1048576) (hn : n ≤ 9223372036854775807) :
    Calls Try.prog 190 #[.agg #[.int .i64 x0, .slice A n e, .bool x2], .int .i64 x] w fun e w' => e = .returned (.int .i64 (leftC x n)) ∧ Below w.heap.size w w' := by
  have e1 := fun w => szByteS_any A n e x w h0 h1 hn
  have hb : leftC x n ≤ 1048576 ∧ -1 ≤ leftC x n := by unfold leftC; split <;> omega
  by_cases hy : leftC x n < 0
  · have e2 : leftC x n = -1 := by unfold leftC at hy ⊢; split at hy <;> omega
    unfold leftC at e2
    rw [e2] at e1
    unfold leftC
    rw [e2]
    clear e2 hy hb h0 h1
    go_enter Try.func190, Try.ntmps190
    go_wp2_with fail
    refine (e1 _).mono ?_
    rintro e w' ⟨rfl, rfl⟩
    go_wp2
    go_ret
    exact ⟨rfl, ab (Below.refl _ _) _⟩
  · unfold leftC at hy ⊢
    generalize (if x - (n : Int) < 0 then -1 else x - (n : Int)) = y at *
    go_enter Try.func190, Try.ntmps190
    go_wp2_with fail
    refine (e1 _).mono ?_
    rintro e w' ⟨rfl, rfl⟩
    go_wp2
    go_ret
    exact ⟨rfl, ab (Below.refl _ _) _⟩

theorem eqHeld_any (x0 : Int) (x2 : Bool) (A A' : Option Addr) (n f f' : Nat) (l : List Int) (w : World) (h : Bs w A n l) (h' : Bs w A' n l) (hn : n ≤ 140737488351232) :
    Calls Try.prog 192 #[.agg #[.int .i64 x0, .slice A n f, .bool x2], .agg #[.int .i64 x0, .slice A' n f', .bool x2]] w fun e w' => e = .returned (.bool true) ∧ Below w.heap.size w w' := by
  have e1 := fun W a b => eqByteS_any A A' n f n f' l l W a b hn hn
  simp only [decide_true] at e1
  go_enter Try.func192, Try.ntmps192
  go_wp2_with fail
  refine (e1 _ ((h.alloc _).alloc _) ((h'.alloc _).alloc _)).mono ?_
  rintro e w' ⟨rfl, q1, rfl⟩
  go_wp2
  go_returns
  exact ⟨rfl, ad (ab (ab (Below.refl _ _) _) _) _⟩


theorem Lst.getHeld {w : World} {A : Option Addr} {n : Nat} {els : List HeldD} (h : Lst HeldD.cels 3 w A n els) {k : Nat} (hk : k < n) :
    ∃ b off e B m c, A = some ⟨b, off, none⟩ ∧ b < w.heap.size ∧ Shut (els[k]? = some e) ∧ w.cell? ⟨b, off + k * 3, none⟩ = some (.int .i64 e.f0) ∧ w.cell? ⟨b, off + k * 3 + 1, none⟩ = some (.slice B m c) ∧ w.cell? ⟨b, off + k * 3 + 2, none⟩ = some (.bool e.f2) ∧ Bs w B m e.f1 ∧ Shut (B = none → c = 0) := by
  obtain ⟨b, off, rfl, hbs, hc⟩ := h.at_ (by omega)
  have he : els[k]? = some (els[k]'(by rw [h.len]; exact hk)) := List.getElem?_eq_getElem _
  obtain ⟨x0, h0, rfl⟩ := hc k _ he 0 _ rfl
  obtain ⟨x1, h1, B, m, c, rfl, hb, hz⟩ := hc k _ he 1 _ rfl
  obtain ⟨x2, h2, rfl⟩ := hc k _ he 2 _ rfl
  exact ⟨b, off, _, B, m, c, rfl, hbs, ⟨he⟩, h0, h1, h2, hb, ⟨hz⟩⟩

theorem info_Held : (Try.prog.info? 187).map (fun i => (i.zero, i.size, i.bytes)) = some (some (.agg #[.int .i64 0, .slice none 0 0, .bool false]), 3, 40) := by kernel_rfl

theorem run_make_Held (n : Nat) (hn : n ≤ 1048576) (w : World) : ∃ cs : Array Value, cs.size = n * 3 ∧
    (Instr.makeSlice 83 (.int .i64 (n : Int)) (.int .i64 (n : Int))).run Try.prog w = .ok (.slice (some ⟨w.heap.size, 0, none⟩) n n) (w.alloc (.cells cs 187)) := by
  obtain ⟨i, hi, hz0, hz1, hz2⟩ := info_parts info_Held
  have hr := run_make (P := Try.prog) w 83 187 i _ Try.underlying83 hi hz0 .i64 .i64 n n (by omega) (by omega) (by rw [hz2]; omega) (by omega)
  simp only [Int.toNat_natCast] at hr
  exact ⟨_, by rw [made_size, hz1], hr⟩

set_option maxHeartbeats 1000000 in
theorem toHeldS_any (A : Option Addr) (n c : Nat) (els : List HeldD) (w : World) (h : Lst HeldD.cels 3 w A n els) (hn : n ≤ 1048576) (hb : ∀ e ∈ els, e.f1.length ≤ 1048576) :
    Calls Try.prog 158 #[.slice A n c] w fun e w' => (e = .returned (.slice (some ⟨w.heap.size, 0, none⟩) n n) ∧ Lo HeldD.cels 3 w' (fun b => w.heap.size ≤ b ∧ b < w'.heap.size) (some ⟨w.heap.size, 0, none⟩) n els) ∧ Below w.heap.size w w' := by
  obtain ⟨cs, hcs, hmk⟩ := run_make_Held n hn w
  go_enter Try.func158, Try.ntmps158
  go_wp2
  clear hmk
  go_loopw [4] (fun i wr => ∃ k : Nat, k ≤ n ∧ i = .int .i64 k ∧ Spn wr w.heap.size (n * 3) 187 ∧ Lo HeldD.cels 3 wr (fun b => w.heap.size ≤ b ∧ b < wr.heap.size) (some ⟨w.heap.size, 0, none⟩) k (els.take k) ∧ Below w.heap.size w wr) (fun i _ => n - (intOf i).toNat)
  case atStart =>
    exact ⟨0, Nat.zero_le _, rfl, Spn.new w cs _ hcs, Lo.nil_ _ _ _, ab (Below.refl _ _) _⟩
  case round =>
    obtain ⟨k, hk, rfl, hspn, hro, hbel⟩ := hrel
    by_cases hlt : k < n
    · obtain ⟨b, off, e, B, m, c', rfl, hbs, he, h0, h1, h2, hB, hz⟩ := h.getHeld hlt
      have hb' := bcell hbel
      have hem : e ∈ els := List.mem_of_getElem? he.out
      have hm : m ≤ 1048576 := by have := hB.len; have := hb e hem; omega
      have htp := fun W hh => toHeld_any e.f0 e.f2 B m c' e.f1 W hh (by omega)
      clear h
      go_wp2_with fail
      refine (htp _ (hB.below hbel)).mono ?_
      rintro e1 w1 ⟨⟨g, rfl, ho⟩, b1⟩
      have hs1 := hspn.lt
      have hspn1 := hspn.below b1 hs1
      have z1 := b1.size
      obtain ⟨y0, c0⟩ := hspn1.cell (i := k * 3) (by omega)
      obtain ⟨y1, c1⟩ := hspn1.cell (i := k * 3 + 1) (by omega)
      obtain ⟨y2, c2⟩ := hspn1.cell (i := k * 3 + 2) (by omega)
      have fz := hspn1.frozen
      clear h0 h1 h2 hb' htp
      go_wp2
      go_roundw
      case rel =>
        have hp := (hro.push1 (e := e) b1 ⟨Nat.le_refl _, hs1⟩ (fun b hb => hb.2) fz (hspn1.there (by omega)) (fun _ => rfl) [.int .i64 e.f0, .slice (some ⟨g, 0, none⟩) m m, .bool e.f2] rfl 1 _ m _ ho (fun j d hj => by
          rcases j with _ | _ | _ | j <;> simp [HeldD.cels] at hj <;> subst hj
          · exact ⟨_, rfl, .inl ⟨_, rfl, rfl⟩⟩
          · exact ⟨_, rfl, .inr ⟨rfl, rfl, m, rfl, fun h => by cases h⟩⟩
          · exact ⟨_, rfl, .inl ⟨_, rfl, rfl⟩⟩)).wider (H := fun b => w.heap.size ≤ b ∧ b < w1.heap.size) (fun b hb => by rcases hb with hb | hb <;> omega)
        refine ⟨k + 1, by omega, by go_num, (((hspn1.set_ _ _).set_ _ _).set_ _ _), ?_, ((((hbel.trans (b1.mono (by omega))).setCell (Nat.le_refl _) _).setCell (Nat.le_refl _) _).setCell (Nat.le_refl _) _)⟩
        rw [List.take_add_one, he.out]
        simp only [World.setCells, Nat.zero_add] at hp
        simp only [World.size_setCell]
        exact hp
      case measure => simp [intOf]; omega
    · obtain rfl : k = n := by omega
      go_wp2
      go_ret
      rw [List.take_of_length_le (by rw [h.len]; exact Nat.le_refl _)] at hro
      exact ⟨⟨rfl, hro⟩, hbel⟩

def HeldD.len (d : HeldD) : Nat := d.f1.length
def HeldD.wd (d : HeldD) : Nat := d.f1.length + 2
theorem sumHeldD_wd (els : List HeldD) : sumE HeldD.wd els = sumE HeldD.len els + 2 * els.length := by
  induction els with
  | nil => rfl
  | cons x r ih => simp only [sumE, List.length_cons, ih, HeldD.wd, HeldD.len]; omega
def HeldD.mk_ (k : Int) (d : HeldD) : HeldD := ⟨k, marks (k + 1) d.f1.length, (k + 1 + (d.f1.length : Int)) % 3 == 0⟩

set_option linter.unusedVariables false in
set_option maxHeartbeats 1000000 in
theorem szHeldS_any (A : Option Addr) (n c : Nat) (els : List HeldD) (x : Int) (w : World) (h : Lst HeldD.cels 3 w A n els) (h0 : 0 ≤ x) (h1 : x ≤ 1048576) (hn : n ≤ 9223372036854775807) (hb : ∀ e ∈ els, e.f1.length ≤ 9223372036854775807) :
    Calls Try.prog 157 #[.slice A n c, .int .i64 x] w fun e w' => e = .returned (.int .i64 (leftE HeldD.len x n els)) ∧ Below w.heap.size w w' := by
  unfold leftE
  by_cases hx : x - (n : Int) < 0
  · have e0 : leftC x (n + sumE HeldD.len els) = -1 := by unfold leftC; rw [if_pos (by omega)]
    rw [e0]
    clear e0
    go_enter Try.func157, Try.ntmps157
    go_wp2
    go_ret
    exact ⟨rfl, Below.refl _ _⟩
  · go_enter Try.func157, Try.ntmps157
    go_wp2
    go_loopw [1, 5] (fun r i wr => ∃ k : Nat, k ≤ n ∧ i = .int .i64 k ∧ Below w.heap.size w wr ∧ ∃ y : Int, r = .int .i64 y ∧ 0 ≤ y ∧ y ≤ 1048576 ∧ y = x - (n : Int) - (sumE HeldD.len (els.take k) : Int)) (fun r i _ => n - (intOf i).toNat)
    case atStart =>
      exact ⟨0, Nat.zero_le _, rfl, Below.refl _ _, _, rfl, by omega, by omega, by simp [sumE]⟩
    case round =>
      obtain ⟨k, hk, rfl, hbel, y, rfl, hy0, hy1, hy⟩ := hrel
      by_cases hlt : k < n
      · obtain ⟨b, off, e, B, m, c', rfl, hbs, he, h0, h1, h2, hB, hz⟩ := h.getHeld hlt
        have hb' := bcell hbel
        have hem : e ∈ els := List.mem_of_getElem? he.out
        have hml := hB.len
        have hm : m ≤ 9223372036854775807 := by have := hb e hem; omega
        have hs := sumE_take_succ HeldD.len he.out
        have hs2 := sumE_take_le HeldD.len els (k + 1)
        have htp := fun W => szHeld_any e.f0 e.f2 B m c' y W hy0 hy1 hm
        have hs' : sumE HeldD.len (els.take (k + 1)) = sumE HeldD.len (els.take k) + m := by rw [hs]; unfold HeldD.len; rw [hml]
        clear hs hml
        by_cases hq : y - (m : Int) < 0
        · have e1 : leftC y m = -1 := by unfold leftC; rw [if_pos hq]
          rw [e1] at htp
          have e0 : Shut (leftC x (n + sumE HeldD.len els) = -1) := ⟨by unfold leftC; rw [if_pos (by omega)]⟩
          clear e1 hs' hs2 h hy hq
          go_wp2_with fail
          refine (htp _).mono ?_
          rintro e1 w1 ⟨rfl, b1⟩
          go_wp2
          go_ret
          exact ⟨by rw [e0.out]; rfl, ac hbel b1⟩
        · have e1 : leftC y m = y - (m : Int) := by unfold leftC; rw [if_neg hq]
          rw [e1] at htp
          have e0 : Shut (y - (m : Int) = x - (n : Int) - (sumE HeldD.len (els.take (k + 1)) : Int)) := ⟨by omega⟩
          clear e1 hs' hs2 h hy
          go_wp2_with fail
          refine (htp _).mono ?_
          rintro e1 w1 ⟨rfl, b1⟩
          go_wp2
          go_roundw
          case rel =>
            exact ⟨k + 1, by omega, by go_num, ac hbel b1, _, rfl, by omega, by omega, e0.out⟩
          case measure => simp [intOf]; omega
      · obtain rfl : k = n := by omega
        have e0 : Shut (leftC x (k + sumE HeldD.len els) = y) := ⟨by
          rw [List.take_of_length_le (by rw [h.len]; exact Nat.le_refl _)] at hy
          unfold leftC
          rw [if_neg (by omega), hy]
          omega⟩
        clear hy
        go_wp2
        go_ret
        exact ⟨by rw [e0.out]; rfl, hbel⟩

set_option maxHeartbeats 1000000 in
theorem eqHeldS_any (A A' : Option Addr) (n c c' : Nat) (els : List HeldD) (w : World) (h : Lst HeldD.cels 3 w A n els) (h' : Lst HeldD.cels 3 w A' n els) (hn : n ≤ 140737488351232) (hb : ∀ e ∈ els, e.f1.length ≤ 140737488351232) :
    Calls Try.prog 159 #[.slice A n c, .slice A' n c'] w fun e w' => e = .returned (.bool true) ∧ Below w.heap.size w w' := by
  go_enter Try.func159, Try.ntmps159
  go_wp2
  go_loopw [5] (fun i wr => ∃ k : Nat, k ≤ n ∧ i = .int .i64 k ∧ Below w.heap.size w wr) (fun i _ => n - (intOf i).toNat)
  case atStart =>
    exact ⟨0, Nat.zero_le _, rfl, Below.refl _ _⟩
  case round =>
    obtain ⟨k, hk, rfl, hbel⟩ := hrel
    by_cases hlt : k < n
    · obtain ⟨b, off, e, B, m, d, rfl, hbs, he, h0, h1, h2, hB, hz⟩ := h.getHeld hlt
      obtain ⟨b', off', e', B', m', d', rfl, hbs', he', h0', h1', h2', hB', hz'⟩ := h'.getHeld hlt
      have hee : e' = e := by have h1 := he.out; have h2 := he'.out; rw [h1] at h2; injection h2 with h2; exact h2.symm
      subst hee
      have hml := hB.len
      have hml' := hB'.len
      obtain rfl : m' = m := by omega
      have hm : m' ≤ 140737488351232 := by have := hb e' (List.mem_of_getElem? he.out); omega
      have hb' := bcell hbel
      have htp : Shut (∀ W, W.cell? ⟨b, off + k * 3, none⟩ = some (.int .i64 e'.f0) ∧ W.cell? ⟨b, off + k * 3 + 1, none⟩ = some (.slice B m' d) ∧ W.cell? ⟨b, off + k * 3 + 2, none⟩ = some (.bool e'.f2) ∧ W.cell? ⟨b', off' + k * 3, none⟩ = some (.int .i64 e'.f0) ∧ W.cell? ⟨b', off' + k * 3 + 1, none⟩ = some (.slice B' m' d') ∧ W.cell? ⟨b', off' + k * 3 + 2, none⟩ = some (.bool e'.f2) ∧ Below w.heap.size w W → Calls Try.prog 192 #[.agg #[.int .i64 e'.f0, .slice B m' d, .bool e'.f2], .agg #[.int .i64 e'.f0, .slice B' m' d', .bool e'.f2]] W fun e w' => e = .returned (.bool true) ∧ w'.cell? ⟨b, off + k * 3, none⟩ = some (.int .i64 e'.f0) ∧ w'.cell? ⟨b, off + k * 3 + 1, none⟩ = some (.slice B m' d) ∧ w'.cell? ⟨b, off + k * 3 + 2, none⟩ = some (.bool e'.f2) ∧ w'.cell? ⟨b', off' + k * 3, none⟩ = some (.int .i64 e'.f0) ∧ w'.cell? ⟨b', off' + k * 3 + 1, none⟩ = some (.slice B' m' d') ∧ w'.cell? ⟨b', off' + k * 3 + 2, none⟩ = some (.bool e'.f2) ∧ Below w.heap.size w w') :=
        ⟨fun W ⟨y0, y1, y2, y3, y4, y5, y6⟩ => (eqHeld_any e'.f0 e'.f2 B B' m' d d' e'.f1 W (hB.below y6) (hB'.below y6) hm).mono fun _ w' ⟨h1, hb⟩ => ⟨h1, ((bcell hb).1 b _ (Nat.lt_of_lt_of_le hbs y6.size)).trans y0, ((bcell hb).1 b _ (Nat.lt_of_lt_of_le hbs y6.size)).trans y1, ((bcell hb).1 b _ (Nat.lt_of_lt_of_le hbs y6.size)).trans y2, ((bcell hb).1 b' _ (Nat.lt_of_lt_of_le hbs' y6.size)).trans y3, ((bcell hb).1 b' _ (Nat.lt_of_lt_of_le hbs' y6.size)).trans y4, ((bcell hb).1 b' _ (Nat.lt_of_lt_of_le hbs' y6.size)).trans y5, ac y6 hb⟩⟩
      have q0 := (hb'.1 b _ hbs).trans h0
      have q1 := (hb'.1 b _ hbs).trans h1
      have q2 := (hb'.1 b _ hbs).trans h2
      have q3 := (hb'.1 b' _ hbs').trans h0'
      have q4 := (hb'.1 b' _ hbs').trans h1'
      have q5 := (hb'.1 b' _ hbs').trans h2'
      have hD := ad hbel 1
      clear h h' hml hml' h0 h1 h2 h0' h1' h2' hB hB' hz hz' he he' hm hb'
      go_wp2_with fail
      go_region_held3 (fun W => W.cell? ⟨b, off + k * 3, none⟩ = some (.int .i64 e'.f0) ∧ W.cell? ⟨b, off + k * 3 + 1, none⟩ = some (.slice B m' d) ∧ W.cell? ⟨b, off + k * 3 + 2, none⟩ = some (.bool e'.f2) ∧ W.cell? ⟨b', off' + k * 3, none⟩ = some (.int .i64 e'.f0) ∧ W.cell? ⟨b', off' + k * 3 + 1, none⟩ = some (.slice B' m' d') ∧ W.cell? ⟨b', off' + k * 3 + 2, none⟩ = some (.bool e'.f2) ∧ Below w.heap.size w W)
        (first | (exact ⟨by assumption, by assumption, by assumption, by assumption, by assumption, by assumption, by assumption⟩) | (exact ⟨q0, q1, q2, q3, q4, q5, hD⟩) | go_keep)
        (first | (go_at_call 192; refine (htp.out _ ?_).mono ?_; (first | assumption | (simp [*]; done)); rintro e1 w1 ⟨rfl, y0, y1, y2, y3, y4, y5, y6⟩))
      go_wp2
      go_roundw
      case rel =>
        exact ⟨k + 1, by omega, by go_num, y6⟩
      case measure => simp [intOf]; omega
    · obtain rfl : k = n := by omega
      go_wp2
      go_ret
      exact ⟨rfl, hbel⟩

set_option maxHeartbeats 2000000 in
theorem markHeldS_any (A : Option Addr) (n c : Nat) (els : List HeldD) (F : Nat → Prop) (k : Int) (w : World) (h : Lo HeldD.cels 3 w F A n els) (hk0 : 0 ≤ k) (hk1 : k ≤ 100000000) (hs : sumE HeldD.wd els ≤ 100000000) (hn : n ≤ 100000000) :
    Calls Try.prog 160 #[.slice A n c, .int .i64 k] w fun e w' => e = .returned (.int .i64 (k + (sumE HeldD.wd els : Int))) ∧ Lo HeldD.cels 3 w' F A n (markE HeldD.mk_ HeldD.wd k els) ∧ Tu F w w' := by
  go_enter Try.func160, Try.ntmps160
  go_wp2
  go_loopw [1, 5] (fun r i wr => ∃ j : Nat, j ≤ n ∧ i = .int .i64 j ∧ r = .int .i64 (k + (sumE HeldD.wd (els.take j) : Int)) ∧ Lo HeldD.cels 3 wr F A n (markd_ HeldD.mk_ HeldD.wd k els j) ∧ Tu F w wr) (fun r i _ => n - (intOf i).toNat)
  case atStart =>
    exact ⟨0, Nat.zero_le _, rfl, by simp [sumE], by rw [markd_zero_]; exact h, Tu.refl _ _⟩
  case round =>
    obtain ⟨j, hj, rfl, rfl, hro, htu⟩ := hrel
    by_cases hlt : j < n
    · have he : els[j]? = some (els[j]'(by rw [h.len]; exact hlt)) := List.getElem?_eq_getElem _
      generalize els[j]'(by rw [h.len]; exact hlt) = e at he
      obtain ⟨g, off, G, rfl, hF, hg, hfz, hG, hc, hup⟩ := hro.upd (fun _ => rfl) (markd_get_ HeldD.mk_ HeldD.wd k he)
      obtain ⟨x0, c0, rfl⟩ := hc 0 _ rfl
      obtain ⟨x1, c1, B, m, d, rfl, ho, hz⟩ := hc 1 _ rfl
      obtain ⟨x2, c2, rfl⟩ := hc 2 _ rfl
      have hst := markd_set_ HeldD.mk_ HeldD.wd k he
      have hs1 := sumE_take_succ HeldD.wd he
      have hs2 := sumE_take_le HeldD.wd els (j + 1)
      have hml := ho.len
      obtain ⟨y, hy⟩ : ∃ y, y = k + (sumE HeldD.wd (els.take j) : Int) := ⟨_, rfl⟩
      rw [← hy] at hst ⊢
      have hwd : e.wd = m + 2 := by unfold HeldD.wd; rw [hml]
      have hy0 : 0 ≤ y := by omega
      have hy1 : y + (m : Int) + 2 ≤ 200000000 := by omega
      have hm : m ≤ 100000000 := by omega
      have e1 : Shut (y + 1 + (m : Int) + 1 = k + (sumE HeldD.wd (els.take (j + 1)) : Int)) := ⟨by omega⟩
      have Hml := Shut.mk hml
      have hne := ho.apart (b := g) (fun hb => (hG 1 g hb).2 rfl)
      have HU := hup
      have Hst := Shut.mk hst
      clear hs1 hs2 hml hy hwd hs hup hc hst
      simp only [Nat.add_zero] at c0
      have ho1 : Bo (wr.setCell ⟨g, off + j * 3, none⟩ (.int .i64 (y))) (G 1) B m e.f1 := ho.keep (by simp only [World.size_setCell]; omega) fun b hb hlb => by rw [heapOff _ (hG 1 b hb).2]
      have hmk := markByteS_any B m d 0 e.f1 (y + 1) _ ho1.ow0 (by omega) (by omega) (by omega)
      go_wp2_with fail
      refine hmk.mono ?_
      rintro e2 w1 ⟨rfl, how, hon⟩
      have hbg := hon.block g hne
      have p1 := (World.cell?_of_block (a := ⟨g, off + j * 3 + 1, none⟩) hbg).trans ((cellOff _ (by omega)).trans (c1))
      have p2 := (World.cell?_of_block (a := ⟨g, off + j * 3 + 2, none⟩) hbg).trans ((cellOff _ (by omega)).trans (c2))
      have p0 := (World.cell?_of_block (a := ⟨g, off + j * 3, none⟩) hbg).trans (cellOn _ (c0))
      have p_ : ∀ i, w1.frozen? ⟨g, i, none⟩ = false := fun i => (World.frozen?_of_block (a := ⟨g, i, none⟩) hbg).trans (by simp only [World.frozen?_setCell]; exact hfz i)
      have hsz := hon.size
      simp only [World.size_setCell] at hsz
      clear hmk
      go_wp2
      go_roundw
      case rel =>
        refine ⟨j + 1, by omega, by go_num, by rw [e1.out], ?_, (((htu.set_ hF _).trans (Tu.ofOnly hon fun h0 a ha => (hG 1 _ (ho.inside h0 a ha)).1)).set_ hF _)⟩
        rw [← Hst.out]
        refine HU.out _ _ (by simp only [World.size_setCell]; omega) (fun i => by simp only [World.frozen?_setCell]; exact p_ i) (fun b hFb hbg' hGb hlb => ?_) (fun i hi => ?_) (fun i d0 hd => ?_)
        · rw [heapOff _ hbg']
          have hz9 := hon.block b (ho.apart (hGb 1))
          rw [heapOff _ hbg'] at hz9
          exact hz9
        · rw [cellOff _ (by omega)]
          have hz9 := World.cell?_of_block (a := ⟨g, i, none⟩) hbg
          rw [cellOff _ (by omega)] at hz9
          exact hz9
        · rcases i with _ | _ | _ | i <;> simp [HeldD.cels, HeldD.mk_] at hd <;> subst hd
          · refine ⟨_, ?_, rfl⟩
            exact (cellOff _ (by omega)).trans (p0)
          · refine ⟨_, ?_, B, m, d, rfl, ?_, hz⟩
            · rw [cellOff _ (by omega)]
              exact p1
            · rw [Hml.out]
              refine (ho1.remark how).keep (by simp only [World.size_setCell]; omega) fun b hb hlb => ?_
              rw [heapOff _ (hG 1 b hb).2]
          · refine ⟨_, ?_, rfl⟩
            rw [cellOn _ p2, Hml.out]
      case measure => simp [intOf]; omega
    · obtain rfl : j = n := by omega
      go_wp2
      go_ret
      rw [List.take_of_length_le (by rw [h.len]; exact Nat.le_refl _)]
      rw [markd_full_ _ _ _ _ _ h.len] at hro
      exact ⟨rfl, hro, htu⟩

set_option maxHeartbeats 2000000 in
theorem heldHeldS_any (A : Option Addr) (n c : Nat) (els : List HeldD) (k : Int) (w : World) (h : Lst HeldD.cels 3 w A n (markE HeldD.mk_ HeldD.wd k els)) (hk0 : 0 ≤ k) (hk1 : k ≤ 100000000) (hs : sumE HeldD.wd els ≤ 100000000) (hn : n ≤ 100000000) :
    Calls Try.prog 193 #[.slice A n c, .int .i64 k] w fun e w' => e = .returned (.int .i64 (k + (sumE HeldD.wd els : Int))) ∧ Below w.heap.size w w' := by
  have hel : els.length = n := by rw [← markE_len HeldD.mk_ HeldD.wd k els]; exact h.len
  go_enter Try.func193, Try.ntmps193
  go_wp2
  go_loopw [1, 5] (fun r i wr => ∃ j : Nat, j ≤ n ∧ i = .int .i64 j ∧ r = .int .i64 (k + (sumE HeldD.wd (els.take j) : Int)) ∧ Below w.heap.size w wr) (fun r i _ => n - (intOf i).toNat)
  case atStart =>
    exact ⟨0, Nat.zero_le _, rfl, by simp [sumE], Below.refl _ _⟩
  case round =>
    obtain ⟨j, hj, rfl, rfl, hbel⟩ := hrel
    by_cases hlt : j < n
    · have he : els[j]? = some (els[j]'(by omega)) := List.getElem?_eq_getElem _
      generalize els[j]'(by omega) = e at he
      obtain ⟨b, off, e', B, m, d, rfl, hbs, he', h0, h1, h2, hB, hz⟩ := h.getHeld hlt
      have hee := he'.out
      rw [markE_get HeldD.mk_ HeldD.wd k he] at hee
      injection hee with hee
      have hs1 := sumE_take_succ HeldD.wd he
      have hs2 := sumE_take_le HeldD.wd els (j + 1)
      obtain ⟨y, hy⟩ : ∃ y, y = k + (sumE HeldD.wd (els.take j) : Int) := ⟨_, rfl⟩
      rw [← hy] at hee ⊢
      subst hee
      have hml : e.f1.length = m := by have := hB.len; rw [← this]; exact (marks_len _ _).symm
      have hwd : e.wd = m + 2 := by unfold HeldD.wd; rw [hml]
      have hy0 : 0 ≤ y := by omega
      have hy1 : y + (m : Int) + 2 ≤ 200000000 := by omega
      have hm : m ≤ 100000000 := by omega
      have e1 : Shut (y + 1 + (m : Int) + 1 = k + (sumE HeldD.wd (els.take (j + 1)) : Int)) := ⟨by omega⟩
      simp only [HeldD.mk_, hml] at h0 h2 hB
      have hmk := heldByteS_any B m d (y + 1) wr (hB.below hbel) (by omega) (by omega) (by omega)
      have hb' := bcell hbel
      clear hs1 hs2 hml hy hwd hs he he' h hel
      have t1 : decide (y + 1 + (m : Int) < 0) = false := by simp; omega
      go_wp2_with fail
      refine hmk.mono ?_
      rintro e2 w1 ⟨rfl, rfl⟩
      clear hmk
      go_wp2
      go_roundw
      case rel => exact ⟨j + 1, by omega, by go_num, by rw [e1.out], hbel⟩
      case measure => simp [intOf]; omega
    · obtain rfl : j = n := by omega
      have Hel := Shut.mk hel
      clear hel
      go_wp2
      go_ret
      rw [List.take_of_length_le (by rw [Hel.out]; exact Nat.le_refl _)]
      exact ⟨rfl, hbel⟩

end Go.Proofs.Ytgmbofoneeagiaa
