/- The laws' helpers for Part and lists of it. -/
import Derived.Test.YtgmbofoneeagiaaLstC
namespace Go.Proofs.Ytgmbofoneeagiaa
open Go.RowKit

/-- what an element is -/
structure PartD where
  f0 : List Int
  f1 : Bool
  f2 : Int
  f3 : Bool
def PartD.cels (d : PartD) : List Cel := [.b d.f0, .v (.bool d.f1), .v (.int .i64 d.f2), .v (.bool d.f3)]

set_option maxHeartbeats 1000000 in
theorem toPart_any (x1 : Bool) (x2 : Int) (x3 : Bool) (A : Option Addr) (n e : Nat) (l : List Int) (w : World) (h : Bs w A n l) (hn : n ≤ 140737488351232) :
    Calls Try.prog 206 #[.agg #[.slice A n e, .bool x1, .int .i64 x2, .bool x3]] w fun e w' => (∃ g, e = .returned (.agg #[.slice (some ⟨g, 0, none⟩) n n, .bool x1, .int .i64 x2, .bool x3]) ∧ Ow w' w.heap.size (some ⟨g, 0, none⟩) n l) ∧ Below w.heap.size w w' := by
  have S1 := ((Stc.new (w.alloc (.cells #[.slice A n e, .bool x1, .int .i64 x2, .bool x3] 251)) 77 [.slice none 0 0, .bool false, .int .i64 0, .bool false] _ rfl).alloc (.cells #[.slice none 0 0, .bool false, .int .i64 0, .bool false] 77))
  have S2 := (Stc.new ((w.alloc (.cells #[.slice A n e, .bool x1, .int .i64 x2, .bool x3] 251)).alloc (.cells #[.slice none 0 0, .bool false, .int .i64 0, .bool false] 77)) 77 [.slice none 0 0, .bool false, .int .i64 0, .bool false] _ rfl)
  have B0 := ab (ab (ab (Below.refl _ w) (.cells #[.slice A n e, .bool x1, .int .i64 x2, .bool x3] 251)) (.cells #[.slice none 0 0, .bool false, .int .i64 0, .bool false] 77)) (.cells #[.slice none 0 0, .bool false, .int .i64 0, .bool false] 77)
  have S0 := ((Stc.new w 251 [.slice A n e, .bool x1, .int .i64 x2, .bool x3] _ rfl).alloc (.cells #[.slice none 0 0, .bool false, .int .i64 0, .bool false] 77)).alloc (.cells #[.slice none 0 0, .bool false, .int .i64 0, .bool false] 77)
  simp only [World.size_alloc] at S1 S2
  go_enter Try.func206, Try.ntmps206
  go_wp2_with fail
  refine (toByteS_any _ _ _ _ _ (h.below B0) hn).mono ?_
  rintro e w1 ⟨rfl, k1, b1⟩
  have z1 := b1.size
  simp only [World.size_alloc] at k1 z1 ⊢
  have u1 := k1.lt
  have B1 := ac B0 b1
  replace S0 := S0.below b1 (by simp; omega)
  replace S1 := S1.below b1 (by simp)
  replace S2 := S2.below b1 (by simp)
  clear b1 B0
  have x0_ := S1.cell (i := 0) rfl
  have x1_ := S1.cell (i := 1) rfl
  have x2_ := S1.cell (i := 2) rfl
  have x3_ := S1.cell (i := 3) rfl
  have y0_ := S2.cell (i := 0) rfl
  have y1_ := S2.cell (i := 1) rfl
  have y2_ := S2.cell (i := 2) rfl
  have y3_ := S2.cell (i := 3) rfl
  have v0_ := S0.cell (i := 0) rfl
  have v1_ := S0.cell (i := 1) rfl
  have v2_ := S0.cell (i := 2) rfl
  have v3_ := S0.cell (i := 3) rfl
  have y6 := S2.frozen
  have y7 := S1.frozen
  go_wp2
  refine bodyPost_ret (v := .agg #[.slice (some ⟨w.heap.size + 1 + 1 + 1, 0, none⟩) n n, .bool x1, .int .i64 x2, .bool x3]) (by simp [results, Try.results206, go_sem, x0_, x1_, x2_, x3_]) rfl ?_
  have q1 : Ow w1 (w.heap.size + 1 + 1 + 1) (some ⟨w.heap.size + 1 + 1 + 1, 0, none⟩) n l := k1.own h.byte h.len
  refine ⟨⟨_, rfl, ((((((((q1.far ?_ _).far ?_ _).far ?_ _).far ?_ _).far ?_ _).far ?_ _).far ?_ _).far ?_ _).mono (by omega)⟩, ?_⟩
  · simp
  · simp
  · simp
  · simp
  · simp
  · simp
  · simp
  · simp
  · exact ((((((((B1.setCell (by first | (simp; done) | (simp; omega)) _).setCell (by first | (simp; done) | (simp; omega)) _).setCell (by first | (simp; done) | (simp; omega)) _).setCell (by first | (simp; done) | (simp; omega)) _).setCell (by first | (simp; done) | (simp; omega)) _).setCell (by first | (simp; done) | (simp; omega)) _).setCell (by first | (simp; done) | (simp; omega)) _).setCell (by first | (simp; done) | (simp; omega)) _)

theorem szPart_any (x1 : Bool) (x2 : Int) (x3 : Bool) (A : Option Addr) (n e : Nat) (x : Int) (w : World) (h0 : 0 ≤ x) (h1 : x ≤ 1048576) (hn : n ≤ 9223372036854775807) :
    Calls Try.prog 205 #[.agg #[.slice A n e, .bool x1, .int .i64 x2, .bool x3], .int .i64 x] w fun e w' => e = .returned (.int .i64 (leftC x n)) ∧ Below w.heap.size w w' := by
  have e1 := fun w => szByteS_any A n e x w h0 h1 hn
  have hb : leftC x n ≤ 1048576 ∧ -1 ≤ leftC x n := by unfold leftC; split <;> omega
  by_cases hy : leftC x n < 0
  · have e2 : leftC x n = -1 := by unfold leftC at hy ⊢; split at hy <;> omega
    unfold leftC at e2
    rw [e2] at e1
    unfold leftC
    rw [e2]
    clear e2 hy hb h0 h1
    go_enter Try.func205, Try.ntmps205
    go_wp2_with fail
    refine (e1 _).mono ?_
    rintro e w' ⟨rfl, rfl⟩
    go_wp2
    go_ret
    exact ⟨rfl, ab (Below.refl _ _) _⟩
  · unfold leftC at hy ⊢
    generalize (if x - (n : Int) < 0 then -1 else x - (n : Int)) = y at *
    go_enter Try.func205, Try.ntmps205
    go_wp2_with fail
    refine (e1 _).mono ?_
    rintro e w' ⟨rfl, rfl⟩
    go_wp2
    go_ret
    exact ⟨rfl, ab (Below.refl _ _) _⟩

theorem eqPart_any (x1 : Bool) (x2 : Int) (x3 : Bool) (A A' : Option Addr) (n f f' : Nat) (l : List Int) (w : World) (h : Bs w A n l) (h' : Bs w A' n l) (hn : n ≤ 140737488351232) :
    Calls Try.prog 207 #[.agg #[.slice A n f, .bool x1, .int .i64 x2, .bool x3], .agg #[.slice A' n f', .bool x1, .int .i64 x2, .bool x3]] w fun e w' => e = .returned (.bool true) ∧ Below w.heap.size w w' := by
  have e1 := fun W a b => eqByteS_any A A' n f n f' l l W a b hn hn
  simp only [decide_true] at e1
  go_enter Try.func207, Try.ntmps207
  go_wp2_with fail
  refine (e1 _ ((h.alloc _).alloc _) ((h'.alloc _).alloc _)).mono ?_
  rintro e w' ⟨rfl, q1, rfl⟩
  go_wp2
  go_returns
  exact ⟨rfl, ad (ab (ab (Below.refl _ _) _) _) _⟩


theorem Lst.getPart {w : World} {A : Option Addr} {n : Nat} {els : List PartD} (h : Lst PartD.cels 4 w A n els) {k : Nat} (hk : k < n) :
    ∃ b off e B m c, A = some ⟨b, off, none⟩ ∧ b < w.heap.size ∧ Shut (els[k]? = some e) ∧ w.cell? ⟨b, off + k * 4, none⟩ = some (.slice B m c) ∧ w.cell? ⟨b, off + k * 4 + 1, none⟩ = some (.bool e.f1) ∧ w.cell? ⟨b, off + k * 4 + 2, none⟩ = some (.int .i64 e.f2) ∧ w.cell? ⟨b, off + k * 4 + 3, none⟩ = some (.bool e.f3) ∧ Bs w B m e.f0 ∧ Shut (B = none → c = 0) := by
  obtain ⟨b, off, rfl, hbs, hc⟩ := h.at_ (by omega)
  have he : els[k]? = some (els[k]'(by rw [h.len]; exact hk)) := List.getElem?_eq_getElem _
  obtain ⟨x0, h0, B, m, c, rfl, hb, hz⟩ := hc k _ he 0 _ rfl
  obtain ⟨x1, h1, rfl⟩ := hc k _ he 1 _ rfl
  obtain ⟨x2, h2, rfl⟩ := hc k _ he 2 _ rfl
  obtain ⟨x3, h3, rfl⟩ := hc k _ he 3 _ rfl
  exact ⟨b, off, _, B, m, c, rfl, hbs, ⟨he⟩, h0, h1, h2, h3, hb, ⟨hz⟩⟩

theorem info_Part : (Try.prog.info? 77).map (fun i => (i.zero, i.size, i.bytes)) = some (some (.agg #[.slice none 0 0, .bool false, .int .i64 0, .bool false]), 4, 48) := by kernel_rfl

theorem run_make_Part (n : Nat) (hn : n ≤ 1048576) (w : World) : ∃ cs : Array Value, cs.size = n * 4 ∧
    (Instr.makeSlice 56 (.int .i64 (n : Int)) (.int .i64 (n : Int))).run Try.prog w = .ok (.slice (some ⟨w.heap.size, 0, none⟩) n n) (w.alloc (.cells cs 77)) := by
  obtain ⟨i, hi, hz0, hz1, hz2⟩ := info_parts info_Part
  have hr := run_make (P := Try.prog) w 56 77 i _ Try.underlying56 hi hz0 .i64 .i64 n n (by omega) (by omega) (by rw [hz2]; omega) (by omega)
  simp only [Int.toNat_natCast] at hr
  exact ⟨_, by rw [made_size, hz1], hr⟩

set_option maxHeartbeats 1000000 in
theorem toPartS_any (A : Option Addr) (n c : Nat) (els : List PartD) (w : World) (h : Lst PartD.cels 4 w A n els) (hn : n ≤ 1048576) (hb : ∀ e ∈ els, e.f0.length ≤ 1048576) :
    Calls Try.prog 196 #[.slice A n c] w fun e w' => (e = .returned (.slice (some ⟨w.heap.size, 0, none⟩) n n) ∧ Lo PartD.cels 4 w' (fun b => w.heap.size ≤ b ∧ b < w'.heap.size) (some ⟨w.heap.size, 0, none⟩) n els) ∧ Below w.heap.size w w' := by
  obtain ⟨cs, hcs, hmk⟩ := run_make_Part n hn w
  go_enter Try.func196, Try.ntmps196
  go_wp2
  clear hmk
  go_loopw [4] (fun i wr => ∃ k : Nat, k ≤ n ∧ i = .int .i64 k ∧ Spn wr w.heap.size (n * 4) 77 ∧ Lo PartD.cels 4 wr (fun b => w.heap.size ≤ b ∧ b < wr.heap.size) (some ⟨w.heap.size, 0, none⟩) k (els.take k) ∧ Below w.heap.size w wr) (fun i _ => n - (intOf i).toNat)
  case atStart =>
    exact ⟨0, Nat.zero_le _, rfl, Spn.new w cs _ hcs, Lo.nil_ _ _ _, ab (Below.refl _ _) _⟩
  case round =>
    obtain ⟨k, hk, rfl, hspn, hro, hbel⟩ := hrel
    by_cases hlt : k < n
    · obtain ⟨b, off, e, B, m, c', rfl, hbs, he, h0, h1, h2, h3, hB, hz⟩ := h.getPart hlt
      have hb' := bcell hbel
      have hem : e ∈ els := List.mem_of_getElem? he.out
      have hm : m ≤ 1048576 := by have := hB.len; have := hb e hem; omega
      have htp := fun W hh => toPart_any e.f1 e.f2 e.f3 B m c' e.f0 W hh (by omega)
      clear h
      go_wp2_with fail
      refine (htp _ (hB.below hbel)).mono ?_
      rintro e1 w1 ⟨⟨g, rfl, ho⟩, b1⟩
      have hs1 := hspn.lt
      have hspn1 := hspn.below b1 hs1
      have z1 := b1.size
      obtain ⟨y0, c0⟩ := hspn1.cell (i := k * 4) (by omega)
      obtain ⟨y1, c1⟩ := hspn1.cell (i := k * 4 + 1) (by omega)
      obtain ⟨y2, c2⟩ := hspn1.cell (i := k * 4 + 2) (by omega)
      obtain ⟨y3, c3⟩ := hspn1.cell (i := k * 4 + 3) (by omega)
      have fz := hspn1.frozen
      clear h0 h1 h2 h3 hb' htp
      go_wp2
      go_roundw
      case rel =>
        have hp := (hro.push1 (e := e) b1 ⟨Nat.le_refl _, hs1⟩ (fun b hb => hb.2) fz (hspn1.there (by omega)) (fun _ => rfl) [.slice (some ⟨g, 0, none⟩) m m, .bool e.f1, .int .i64 e.f2, .bool e.f3] rfl 0 _ m _ ho (fun j d hj => by
          rcases j with _ | _ | _ | _ | j <;> simp [PartD.cels] at hj <;> subst hj
          · exact ⟨_, rfl, .inr ⟨rfl, rfl, m, rfl, fun h => by cases h⟩⟩
          · exact ⟨_, rfl, .inl ⟨_, rfl, rfl⟩⟩
          · exact ⟨_, rfl, .inl ⟨_, rfl, rfl⟩⟩
          · exact ⟨_, rfl, .inl ⟨_, rfl, rfl⟩⟩)).wider (H := fun b => w.heap.size ≤ b ∧ b < w1.heap.size) (fun b hb => by rcases hb with hb | hb <;> omega)
        refine ⟨k + 1, by omega, by go_num, ((((hspn1.set_ _ _).set_ _ _).set_ _ _).set_ _ _), ?_, (((((hbel.trans (b1.mono (by omega))).setCell (Nat.le_refl _) _).setCell (Nat.le_refl _) _).setCell (Nat.le_refl _) _).setCell (Nat.le_refl _) _)⟩
        rw [List.take_add_one, he.out]
        simp only [World.setCells, Nat.zero_add] at hp
        simp only [World.size_setCell]
        exact hp
      case measure => simp [intOf]; omega
    · obtain rfl : k = n := by omega
      go_wp2
      go_ret
      rw [List.take_of_length_le (by rw [h.len]; exact Nat.le_refl _)] at hro
      exact ⟨⟨rfl, hro⟩, hbel⟩

def PartD.len (d : PartD) : Nat := d.f0.length
def PartD.wd (d : PartD) : Nat := d.f0.length + 3
theorem sumPartD_wd (els : List PartD) : sumE PartD.wd els = sumE PartD.len els + 3 * els.length := by
  induction els with
  | nil => rfl
  | cons x r ih => simp only [sumE, List.length_cons, ih, PartD.wd, PartD.len]; omega
def PartD.mk_ (k : Int) (d : PartD) : PartD := ⟨marks k d.f0.length, (k + (d.f0.length : Int)) % 3 == 0, k + (d.f0.length : Int) + 1, (k + (d.f0.length : Int) + 1 + 1) % 3 == 0⟩

set_option linter.unusedVariables false in
set_option maxHeartbeats 1000000 in
theorem szPartS_any (A : Option Addr) (n c : Nat) (els : List PartD) (x : Int) (w : World) (h : Lst PartD.cels 4 w A n els) (h0 : 0 ≤ x) (h1 : x ≤ 1048576) (hn : n ≤ 9223372036854775807) (hb : ∀ e ∈ els, e.f0.length ≤ 9223372036854775807) :
    Calls Try.prog 194 #[.slice A n c, .int .i64 x] w fun e w' => e = .returned (.int .i64 (leftE PartD.len x n els)) ∧ Below w.heap.size w w' := by
  unfold leftE
  by_cases hx : x - (n : Int) < 0
  · have e0 : leftC x (n + sumE PartD.len els) = -1 := by unfold leftC; rw [if_pos (by omega)]
    rw [e0]
    clear e0
    go_enter Try.func194, Try.ntmps194
    go_wp2
    go_ret
    exact ⟨rfl, Below.refl _ _⟩
  · go_enter Try.func194, Try.ntmps194
    go_wp2
    go_loopw [1, 5] (fun r i wr => ∃ k : Nat, k ≤ n ∧ i = .int .i64 k ∧ Below w.heap.size w wr ∧ ∃ y : Int, r = .int .i64 y ∧ 0 ≤ y ∧ y ≤ 1048576 ∧ y = x - (n : Int) - (sumE PartD.len (els.take k) : Int)) (fun r i _ => n - (intOf i).toNat)
    case atStart =>
      exact ⟨0, Nat.zero_le _, rfl, Below.refl _ _, _, rfl, by omega, by omega, by simp [sumE]⟩
    case round =>
      obtain ⟨k, hk, rfl, hbel, y, rfl, hy0, hy1, hy⟩ := hrel
      by_cases hlt : k < n
      · obtain ⟨b, off, e, B, m, c', rfl, hbs, he, h0, h1, h2, h3, hB, hz⟩ := h.getPart hlt
        have hb' := bcell hbel
        have hem : e ∈ els := List.mem_of_getElem? he.out
        have hml := hB.len
        have hm : m ≤ 9223372036854775807 := by have := hb e hem; omega
        have hs := sumE_take_succ PartD.len he.out
        have hs2 := sumE_take_le PartD.len els (k + 1)
        have htp := fun W => szPart_any e.f1 e.f2 e.f3 B m c' y W hy0 hy1 hm
        have hs' : sumE PartD.len (els.take (k + 1)) = sumE PartD.len (els.take k) + m := by rw [hs]; unfold PartD.len; rw [hml]
        clear hs hml
        by_cases hq : y - (m : Int) < 0
        · have e1 : leftC y m = -1 := by unfold leftC; rw [if_pos hq]
          rw [e1] at htp
          have e0 : Shut (leftC x (n + sumE PartD.len els) = -1) := ⟨by unfold leftC; rw [if_pos (by omega)]⟩
          clear e1 hs' hs2 h hy hq
          go_wp2_with fail
          refine (htp _).mono ?_
          rintro e1 w1 ⟨rfl, b1⟩
          go_wp2
          go_ret
          exact ⟨by rw [e0.out]; rfl, ac hbel b1⟩
        · have e1 : leftC y m = y - (m : Int) := by unfold leftC; rw [if_neg hq]
          rw [e1] at htp
          have e0 : Shut (y - (m : Int) = x - (n : Int) - (sumE PartD.len (els.take (k + 1)) : Int)) := ⟨by omega⟩
          clear e1 hs' hs2 h hy
          go_wp2_with fail
          refine (htp _).mono ?_
          rintro e1 w1 ⟨rfl, b1⟩
          go_wp2
          go_roundw
          case rel =>
            exact ⟨k + 1, by omega, by go_num, ac hbel b1, _, rfl, by omega, by omega, e0.out⟩
          case measure => simp [intOf]; omega
      · obtain rfl : k = n := by omega
        have e0 : Shut (leftC x (k + sumE PartD.len els) = y) := ⟨by
          rw [List.take_of_length_le (by rw [h.len]; exact Nat.le_refl _)] at hy
          unfold leftC
          rw [if_neg (by omega), hy]
          omega⟩
        clear hy
        go_wp2
        go_ret
        exact ⟨by rw [e0.out]; rfl, hbel⟩

set_option maxHeartbeats 1000000 in
theorem eqPartS_any (A A' : Option Addr) (n c c' : Nat) (els : List PartD) (w : World) (h : Lst PartD.cels 4 w A n els) (h' : Lst PartD.cels 4 w A' n els) (hn : n ≤ 140737488351232) (hb : ∀ e ∈ els, e.f0.length ≤ 140737488351232) :
    Calls Try.prog 199 #[.slice A n c, .slice A' n c'] w fun e w' => e = .returned (.bool true) ∧ Below w.heap.size w w' := by
  go_enter Try.func199, Try.ntmps199
  go_wp2
  go_loopw [5] (fun i wr => ∃ k : Nat, k ≤ n ∧ i = .int .i64 k ∧ Below w.heap.size w wr) (fun i _ => n - (intOf i).toNat)
  case atStart =>
    exact ⟨0, Nat.zero_le _, rfl, Below.refl _ _⟩
  case round =>
    obtain ⟨k, hk, rfl, hbel⟩ := hrel
    by_cases hlt : k < n
    · obtain ⟨b, off, e, B, m, d, rfl, hbs, he, h0, h1, h2, h3, hB, hz⟩ := h.getPart hlt
      obtain ⟨b', off', e', B', m', d', rfl, hbs', he', h0', h1', h2', h3', hB', hz'⟩ := h'.getPart hlt
      have hee : e' = e := by have h1 := he.out; have h2 := he'.out; rw [h1] at h2; injection h2 with h2; exact h2.symm
      subst hee
      have hml := hB.len
      have hml' := hB'.len
      obtain rfl : m' = m := by omega
      have hm : m' ≤ 140737488351232 := by have := hb e' (List.mem_of_getElem? he.out); omega
      have hb' := bcell hbel
      have htp : Shut (∀ W, W.cell? ⟨b, off + k * 4, none⟩ = some (.slice B m' d) ∧ W.cell? ⟨b, off + k * 4 + 1, none⟩ = some (.bool e'.f1) ∧ W.cell? ⟨b, off + k * 4 + 2, none⟩ = some (.int .i64 e'.f2) ∧ W.cell? ⟨b, off + k * 4 + 3, none⟩ = some (.bool e'.f3) ∧ W.cell? ⟨b', off' + k * 4, none⟩ = some (.slice B' m' d') ∧ W.cell? ⟨b', off' + k * 4 + 1, none⟩ = some (.bool e'.f1) ∧ W.cell? ⟨b', off' + k * 4 + 2, none⟩ = some (.int .i64 e'.f2) ∧ W.cell? ⟨b', off' + k * 4 + 3, none⟩ = some (.bool e'.f3) ∧ Below w.heap.size w W → Calls Try.prog 207 #[.agg #[.slice B m' d, .bool e'.f1, .int .i64 e'.f2, .bool e'.f3], .agg #[.slice B' m' d', .bool e'.f1, .int .i64 e'.f2, .bool e'.f3]] W fun e w' => e = .returned (.bool true) ∧ w'.cell? ⟨b, off + k * 4, none⟩ = some (.slice B m' d) ∧ w'.cell? ⟨b, off + k * 4 + 1, none⟩ = some (.bool e'.f1) ∧ w'.cell? ⟨b, off + k * 4 + 2, none⟩ = some (.int .i64 e'.f2) ∧ w'.cell? ⟨b, off + k * 4 + 3, none⟩ = some (.bool e'.f3) ∧ w'.cell? ⟨b', off' + k * 4, none⟩ = some (.slice B' m' d') ∧ w'.cell? ⟨b', off' + k * 4 + 1, none⟩ = some (.bool e'.f1) ∧ w'.cell? ⟨b', off' + k * 4 + 2, none⟩ = some (.int .i64 e'.f2) ∧ w'.cell? ⟨b', off' + k * 4 + 3, none⟩ = some (.bool e'.f3) ∧ Below w.heap.size w w') :=
        ⟨fun W ⟨y0, y1, y2, y3, y4, y5, y6, y7, y8⟩ => (eqPart_any e'.f1 e'.f2 e'.f3 B B' m' d d' e'.f0 W (hB.below y8) (hB'.below y8) hm).mono fun _ w' ⟨h1, hb⟩ => ⟨h1, ((bcell hb).1 b _ (Nat.lt_of_lt_of_le hbs y8.size)).trans y0, ((bcell hb).1 b _ (Nat.lt_of_lt_of_le hbs y8.size)).trans y1, ((bcell hb).1 b _ (Nat.lt_of_lt_of_le hbs y8.size)).trans y2, ((bcell hb).1 b _ (Nat.lt_of_lt_of_le hbs y8.size)).trans y3, ((bcell hb).1 b' _ (Nat.lt_of_lt_of_le hbs' y8.size)).trans y4, ((bcell hb).1 b' _ (Nat.lt_of_lt_of_le hbs' y8.size)).trans y5, ((bcell hb).1 b' _ (Nat.lt_of_lt_of_le hbs' y8.size)).trans y6, ((bcell hb).1 b' _ (Nat.lt_of_lt_of_le hbs' y8.size)).trans y7, ac y8 hb⟩⟩
      have q0 := (hb'.1 b _ hbs).trans h0
      have q1 := (hb'.1 b _ hbs).trans h1
      have q2 := (hb'.1 b _ hbs).trans h2
      have q3 := (hb'.1 b _ hbs).trans h3
      have q4 := (hb'.1 b' _ hbs').trans h0'
      have q5 := (hb'.1 b' _ hbs').trans h1'
      have q6 := (hb'.1 b' _ hbs').trans h2'
      have q7 := (hb'.1 b' _ hbs').trans h3'
      have hD := ad hbel 1
      clear h h' hml hml' h0 h1 h2 h3 h0' h1' h2' h3' hB hB' hz hz' he he' hm hb'
      go_wp2_with fail
      go_region_held3 (fun W => W.cell? ⟨b, off + k * 4, none⟩ = some (.slice B m' d) ∧ W.cell? ⟨b, off + k * 4 + 1, none⟩ = some (.bool e'.f1) ∧ W.cell? ⟨b, off + k * 4 + 2, none⟩ = some (.int .i64 e'.f2) ∧ W.cell? ⟨b, off + k * 4 + 3, none⟩ = some (.bool e'.f3) ∧ W.cell? ⟨b', off' + k * 4, none⟩ = some (.slice B' m' d') ∧ W.cell? ⟨b', off' + k * 4 + 1, none⟩ = some (.bool e'.f1) ∧ W.cell? ⟨b', off' + k * 4 + 2, none⟩ = some (.int .i64 e'.f2) ∧ W.cell? ⟨b', off' + k * 4 + 3, none⟩ = some (.bool e'.f3) ∧ Below w.heap.size w W)
        (first | (exact ⟨by assumption, by assumption, by assumption, by assumption, by assumption, by assumption, by assumption, by assumption, by assumption⟩) | (exact ⟨q0, q1, q2, q3, q4, q5, q6, q7, hD⟩) | go_keep)
        (first | (go_at_call 207; refine (htp.out _ ?_).mono ?_; (first | assumption | (simp [*]; done)); rintro e1 w1 ⟨rfl, y0, y1, y2, y3, y4, y5, y6, y7, y8⟩))
      go_wp2
      go_roundw
      case rel =>
        exact ⟨k + 1, by omega, by go_num, y8⟩
      case measure => simp [intOf]; omega
    · obtain rfl : k = n := by omega
      go_wp2
      go_ret
      exact ⟨rfl, hbel⟩

set_option maxHeartbeats 2000000 in
theorem markPartS_any (A : Option Addr) (n c : Nat) (els : List PartD) (F : Nat → Prop) (k : Int) (w : World) (h : Lo PartD.cels 4 w F A n els) (hk0 : 0 ≤ k) (hk1 : k ≤ 100000000) (hs : sumE PartD.wd els ≤ 100000000) (hn : n ≤ 100000000) :
    Calls Try.prog 200 #[.slice A n c, .int .i64 k] w fun e w' => e = .returned (.int .i64 (k + (sumE PartD.wd els : Int))) ∧ Lo PartD.cels 4 w' F A n (markE PartD.mk_ PartD.wd k els) ∧ Tu F w w' := by
  go_enter Try.func200, Try.ntmps200
  go_wp2
  go_loopw [1, 5] (fun r i wr => ∃ j : Nat, j ≤ n ∧ i = .int .i64 j ∧ r = .int .i64 (k + (sumE PartD.wd (els.take j) : Int)) ∧ Lo PartD.cels 4 wr F A n (markd_ PartD.mk_ PartD.wd k els j) ∧ Tu F w wr) (fun r i _ => n - (intOf i).toNat)
  case atStart =>
    exact ⟨0, Nat.zero_le _, rfl, by simp [sumE], by rw [markd_zero_]; exact h, Tu.refl _ _⟩
  case round =>
    obtain ⟨j, hj, rfl, rfl, hro, htu⟩ := hrel
    by_cases hlt : j < n
    · have he : els[j]? = some (els[j]'(by rw [h.len]; exact hlt)) := List.getElem?_eq_getElem _
      generalize els[j]'(by rw [h.len]; exact hlt) = e at he
      obtain ⟨g, off, G, rfl, hF, hg, hfz, hG, hc, hup⟩ := hro.upd (fun _ => rfl) (markd_get_ PartD.mk_ PartD.wd k he)
      obtain ⟨x0, c0, B, m, d, rfl, ho, hz⟩ := hc 0 _ rfl
      obtain ⟨x1, c1, rfl⟩ := hc 1 _ rfl
      obtain ⟨x2, c2, rfl⟩ := hc 2 _ rfl
      obtain ⟨x3, c3, rfl⟩ := hc 3 _ rfl
      have hst := markd_set_ PartD.mk_ PartD.wd k he
      have hs1 := sumE_take_succ PartD.wd he
      have hs2 := sumE_take_le PartD.wd els (j + 1)
      have hml := ho.len
      obtain ⟨y, hy⟩ : ∃ y, y = k + (sumE PartD.wd (els.take j) : Int) := ⟨_, rfl⟩
      rw [← hy] at hst ⊢
      have hwd : e.wd = m + 3 := by unfold PartD.wd; rw [hml]
      have hy0 : 0 ≤ y := by omega
      have hy1 : y + (m : Int) + 3 ≤ 200000000 := by omega
      have hm : m ≤ 100000000 := by omega
      have e1 : Shut (y + (m : Int) + 1 + 1 + 1 = k + (sumE PartD.wd (els.take (j + 1)) : Int)) := ⟨by omega⟩
      have Hml := Shut.mk hml
      have hne := ho.apart (b := g) (fun hb => (hG 0 g hb).2 rfl)
      have HU := hup
      have Hst := Shut.mk hst
      clear hs1 hs2 hml hy hwd hs hup hc hst
      simp only [Nat.add_zero] at c0
      have ho1 := ho
      have hmk := markByteS_any B m d 0 e.f0 (y) _ ho1.ow0 (by omega) (by omega) (by omega)
      go_wp2_with fail
      refine hmk.mono ?_
      rintro e2 w1 ⟨rfl, how, hon⟩
      have hbg := hon.block g hne
      have p0 := (World.cell?_of_block (a := ⟨g, off + j * 4, none⟩) hbg).trans (c0)
      have p1 := (World.cell?_of_block (a := ⟨g, off + j * 4 + 1, none⟩) hbg).trans (c1)
      have p2 := (World.cell?_of_block (a := ⟨g, off + j * 4 + 2, none⟩) hbg).trans (c2)
      have p3 := (World.cell?_of_block (a := ⟨g, off + j * 4 + 3, none⟩) hbg).trans (c3)
      have p_ : ∀ i, w1.frozen? ⟨g, i, none⟩ = false := fun i => (World.frozen?_of_block (a := ⟨g, i, none⟩) hbg).trans (hfz i)
      have hsz := hon.size
      clear hmk
      go_wp2
      go_roundw
      case rel =>
        refine ⟨j + 1, by omega, by go_num, by rw [e1.out], ?_, ((((htu.trans (Tu.ofOnly hon fun h0 a ha => (hG 0 _ (ho.inside h0 a ha)).1)).set_ hF _).set_ hF _).set_ hF _)⟩
        rw [← Hst.out]
        refine HU.out _ _ (by simp only [World.size_setCell]; omega) (fun i => by simp only [World.frozen?_setCell]; exact p_ i) (fun b hFb hbg' hGb hlb => ?_) (fun i hi => ?_) (fun i d0 hd => ?_)
        · rw [heapOff _ hbg', heapOff _ hbg', heapOff _ hbg']
          have hz9 := hon.block b (ho.apart (hGb 0))
          exact hz9
        · rw [cellOff _ (by omega), cellOff _ (by omega), cellOff _ (by omega)]
          have hz9 := World.cell?_of_block (a := ⟨g, i, none⟩) hbg
          exact hz9
        · rcases i with _ | _ | _ | _ | i <;> simp [PartD.cels, PartD.mk_] at hd <;> subst hd
          · refine ⟨_, ?_, B, m, d, rfl, ?_, hz⟩
            · rw [Nat.add_zero, cellOff _ (by omega), cellOff _ (by omega), cellOff _ (by omega)]
              exact p0
            · rw [Hml.out]
              refine (ho1.remark how).keep (by simp only [World.size_setCell]; omega) fun b hb hlb => ?_
              rw [heapOff _ (hG 0 b hb).2, heapOff _ (hG 0 b hb).2, heapOff _ (hG 0 b hb).2]
          · refine ⟨_, ?_, rfl⟩
            rw [cellOff _ (by omega), cellOff _ (by omega), cellOn _ p1, Hml.out]
          · refine ⟨_, ?_, rfl⟩
            rw [cellOff _ (by omega), cellOn _ ((cellOff _ (by omega)).trans p2), Hml.out]
          · refine ⟨_, ?_, rfl⟩
            rw [cellOn _ ((cellOff _ (by omega)).trans ((cellOff _ (by omega)).trans p3)), Hml.out]
      case measure => simp [intOf]; omega
    · obtain rfl : j = n := by omega
      go_wp2
      go_ret
      rw [List.take_of_length_le (by rw [h.len]; exact Nat.le_refl _)]
      rw [markd_full_ _ _ _ _ _ h.len] at hro
      exact ⟨rfl, hro, htu⟩

set_option maxHeartbeats 2000000 in
theorem heldPartS_any (A : Option Addr) (n c : Nat) (els : List PartD) (k : Int) (w : World) (h : Lst PartD.cels 4 w A n (markE PartD.mk_ PartD.wd k els)) (hk0 : 0 ≤ k) (hk1 : k ≤ 100000000) (hs : sumE PartD.wd els ≤ 100000000) (hn : n ≤ 100000000) :
    Calls Try.prog 208 #[.slice A n c, .int .i64 k] w fun e w' => e = .returned (.int .i64 (k + (sumE PartD.wd els : Int))) ∧ Below w.heap.size w w' := by
  have hel : els.length = n := by rw [← markE_len PartD.mk_ PartD.wd k els]; exact h.len
  go_enter Try.func208, Try.ntmps208
  go_wp2
  go_loopw [1, 5] (fun r i wr => ∃ j : Nat, j ≤ n ∧ i = .int .i64 j ∧ r = .int .i64 (k + (sumE PartD.wd (els.take j) : Int)) ∧ Below w.heap.size w wr) (fun r i _ => n - (intOf i).toNat)
  case atStart =>
    exact ⟨0, Nat.zero_le _, rfl, by simp [sumE], Below.refl _ _⟩
  case round =>
    obtain ⟨j, hj, rfl, rfl, hbel⟩ := hrel
    by_cases hlt : j < n
    · have he : els[j]? = some (els[j]'(by omega)) := List.getElem?_eq_getElem _
      generalize els[j]'(by omega) = e at he
      obtain ⟨b, off, e', B, m, d, rfl, hbs, he', h0, h1, h2, h3, hB, hz⟩ := h.getPart hlt
      have hee := he'.out
      rw [markE_get PartD.mk_ PartD.wd k he] at hee
      injection hee with hee
      have hs1 := sumE_take_succ PartD.wd he
      have hs2 := sumE_take_le PartD.wd els (j + 1)
      obtain ⟨y, hy⟩ : ∃ y, y = k + (sumE PartD.wd (els.take j) : Int) := ⟨_, rfl⟩
      rw [← hy] at hee ⊢
      subst hee
      have hml : e.f0.length = m := by have := hB.len; rw [← this]; exact (marks_len _ _).symm
      have hwd : e.wd = m + 3 := by unfold PartD.wd; rw [hml]
      have hy0 : 0 ≤ y := by omega
      have hy1 : y + (m : Int) + 3 ≤ 200000000 := by omega
      have hm : m ≤ 100000000 := by omega
      have e1 : Shut (y + (m : Int) + 1 + 1 + 1 = k + (sumE PartD.wd (els.take (j + 1)) : Int)) := ⟨by omega⟩
      simp only [PartD.mk_, hml] at h1 h2 h3 hB
      have hmk := heldByteS_any B m d (y) wr (hB.below hbel) (by omega) (by omega) (by omega)
      have hb' := bcell hbel
      clear hs1 hs2 hml hy hwd hs he he' h hel
      have t1 : decide (y + (m : Int) < 0) = false := by simp; omega
      go_wp2_with fail
      refine hmk.mono ?_
      rintro e2 w1 ⟨rfl, rfl⟩
      clear hmk
      go_wp2
      go_roundw
      case rel => exact ⟨j + 1, by omega, by go_num, by rw [e1.out], hbel⟩
      case measure => simp [intOf]; omega
    · obtain rfl : j = n := by omega
      have Hel := Shut.mk hel
      clear hel
      go_wp2
      go_ret
      rw [List.take_of_length_le (by rw [Hel.out]; exact Nat.le_refl _)]
      exact ⟨rfl, hbel⟩

end Go.Proofs.Ytgmbofoneeagiaa
