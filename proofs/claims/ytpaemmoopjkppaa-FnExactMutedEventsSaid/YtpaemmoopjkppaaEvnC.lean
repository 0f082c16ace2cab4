/- The laws' helpers for Event and lists of it. -/
import Derived.Test.YtpaemmoopjkppaaLstX
namespace Go.Proofs.Ytpaemmoopjkppaa
open Go.RowKit

/-- what an element is -/
structure EventD where
  f0 : Int
  f1 : Int
  f2 : List Int
  f3 : Int
  f4 : Int
  f5 : Int
def EventD.cels (d : EventD) : List Cel := [.v (.int .i64 d.f0), .v (.int .i64 d.f1), .b d.f2, .v (.int .i64 d.f3), .v (.int .i64 d.f4), .v (.int .i64 d.f5)]

set_option maxHeartbeats 1000000 in
theorem toEvent_any (x0 : Int) (x1 : Int) (x3 : Int) (x4 : Int) (x5 : Int) (A : Option Addr) (n e : Nat) (l : List Int) (w : World) (h : Bs w A n l) (hn : n ≤ 140737488351232) :
    Calls Try.prog 60 #[.agg #[.int .i64 x0, .int .i64 x1, .slice A n e, .int .i64 x3, .int .i64 x4, .int .i64 x5]] w fun e w' => (∃ g, e = .returned (.agg #[.int .i64 x0, .int .i64 x1, .slice (some ⟨g, 0, none⟩) n n, .int .i64 x3, .int .i64 x4, .int .i64 x5]) ∧ Ow w' w.heap.size (some ⟨g, 0, none⟩) n l) ∧ Below w.heap.size w w' := by
  have S1 := ((Stc.new (w.alloc (.cells #[.int .i64 x0, .int .i64 x1, .slice A n e, .int .i64 x3, .int .i64 x4, .int .i64 x5] 101)) 102 [.int .i64 0, .int .i64 0, .slice none 0 0, .int .i64 0, .int .i64 0, .int .i64 0] _ rfl).alloc (.cells #[.int .i64 x0, .int .i64 x1, .slice none 0 0, .int .i64 0, .int .i64 0, .int .i64 0] 102))
  have S2 := (Stc.new ((w.alloc (.cells #[.int .i64 x0, .int .i64 x1, .slice A n e, .int .i64 x3, .int .i64 x4, .int .i64 x5] 101)).alloc (.cells #[.int .i64 0, .int .i64 0, .slice none 0 0, .int .i64 0, .int .i64 0, .int .i64 0] 102)) 102 [.int .i64 x0, .int .i64 x1, .slice none 0 0, .int .i64 0, .int .i64 0, .int .i64 0] _ rfl)
  have B0 := ab (ab (ab (Below.refl _ w) (.cells #[.int .i64 x0, .int .i64 x1, .slice A n e, .int .i64 x3, .int .i64 x4, .int .i64 x5] 101)) (.cells #[.int .i64 0, .int .i64 0, .slice none 0 0, .int .i64 0, .int .i64 0, .int .i64 0] 102)) (.cells #[.int .i64 x0, .int .i64 x1, .slice none 0 0, .int .i64 0, .int .i64 0, .int .i64 0] 102)
  have S0 := ((Stc.new w 101 [.int .i64 x0, .int .i64 x1, .slice A n e, .int .i64 x3, .int .i64 x4, .int .i64 x5] _ rfl).alloc (.cells #[.int .i64 0, .int .i64 0, .slice none 0 0, .int .i64 0, .int .i64 0, .int .i64 0] 102)).alloc (.cells #[.int .i64 x0, .int .i64 x1, .slice none 0 0, .int .i64 0, .int .i64 0, .int .i64 0] 102)
  simp only [World.size_alloc] at S1 S2
  go_enter Try.func60, Try.ntmps60
  go_wp2_with fail
  refine (toByteS_any _ _ _ _ _ (h.below B0) hn).mono ?_
  rintro e w1 ⟨rfl, k1, b1⟩
  have z1 := b1.size
  simp only [World.size_alloc] at k1 z1 ⊢
  have u1 := k1.lt
  have B1 := ac B0 b1
  replace S0 := S0.below b1 (by simp; omega)
  replace S1 := S1.below b1 (by simp)
  replace S2 := S2.below b1 (by simp)
  clear b1 B0
  have x0_ := S1.cell (i := 0) rfl
  have x1_ := S1.cell (i := 1) rfl
  have x2_ := S1.cell (i := 2) rfl
  have x3_ := S1.cell (i := 3) rfl
  have x4_ := S1.cell (i := 4) rfl
  have x5_ := S1.cell (i := 5) rfl
  have y0_ := S2.cell (i := 0) rfl
  have y1_ := S2.cell (i := 1) rfl
  have y2_ := S2.cell (i := 2) rfl
  have y3_ := S2.cell (i := 3) rfl
  have y4_ := S2.cell (i := 4) rfl
  have y5_ := S2.cell (i := 5) rfl
  have v0_ := S0.cell (i := 0) rfl
  have v1_ := S0.cell (i := 1) rfl
  have v2_ := S0.cell (i := 2) rfl
  have v3_ := S0.cell (i := 3) rfl
  have v4_ := S0.cell (i := 4) rfl
  have v5_ := S0.cell (i := 5) rfl
  have y6 := S2.frozen
  have y7 := S1.frozen
  go_wp2
  refine bodyPost_ret (v := .agg #[.int .i64 x0, .int .i64 x1, .slice (some ⟨w.heap.size + 1 + 1 + 1, 0, none⟩) n n, .int .i64 x3, .int .i64 x4, .int .i64 x5]) (by simp [results, Try.results60, go_sem, x0_, x1_, x2_, x3_, x4_, x5_]) rfl ?_
  have q1 : Ow w1 (w.heap.size + 1 + 1 + 1) (some ⟨w.heap.size + 1 + 1 + 1, 0, none⟩) n l := k1.own h.byte h.len
  refine ⟨⟨_, rfl, ((((((((((q1.far ?_ _).far ?_ _).far ?_ _).far ?_ _).far ?_ _).far ?_ _).far ?_ _).far ?_ _).far ?_ _).far ?_ _).mono (by omega)⟩, ?_⟩
  · simp
  · simp
  · simp
  · simp
  · simp
  · simp
  · simp
  · simp
  · simp
  · simp
  · exact ((((((((((B1.setCell (by first | (simp; done) | (simp; omega)) _).setCell (by first | (simp; done) | (simp; omega)) _).setCell (by first | (simp; done) | (simp; omega)) _).setCell (by first | (simp; done) | (simp; omega)) _).setCell (by first | (simp; done) | (simp; omega)) _).setCell (by first | (simp; done) | (simp; omega)) _).setCell (by first | (simp; done) | (simp; omega)) _).setCell (by first | (simp; done) | (simp; omega)) _).setCell (by first | (simp; done) | (simp; omega)) _).setCell (by first | (simp; done) | (simp; omega)) _)

theorem szEvent_any (x0 : Int) (x1 : Int) (x3 : Int) (x4 : Int) (x5 : Int) (A : Option Addr) (n e : Nat) (x : Int) (w : World) (h0 : 0 ≤ x) (h1 : x ≤ 1048576) (hn : n ≤ 9223372036854775807) :
    Calls Try.prog 58 #[.agg #[.int .i64 x0, .int .i64 x1, .slice A n e, .int .i64 x3, .int .i64 x4, .int .i64 x5], .int .i64 x] w fun e w' => e = .returned (.int .i64 (leftC x n)) ∧ Below w.heap.size w w' := by
  have e1 := fun w => szByteS_any A n e x w h0 h1 hn
  have hb : leftC x n ≤ 1048576 ∧ -1 ≤ leftC x n := by unfold leftC; split <;> omega
  by_cases hy : leftC x n < 0
  · have e2 : leftC x n = -1 := by unfold leftC at hy ⊢; split at hy <;> omega
    unfold leftC at e2
    rw [e2] at e1
    unfold leftC
    rw [e2]
    clear e2 hy hb h0 h1
    go_enter Try.func58, Try.ntmps58
    go_wp2_with fail
    refine (e1 _).mono ?_
    rintro e w' ⟨rfl, rfl⟩
    go_wp2
    go_ret
    exact ⟨rfl, ab (Below.refl _ _) _⟩
  · unfold leftC at hy ⊢
    generalize (if x - (n : Int) < 0 then -1 else x - (n : Int)) = y at *
    go_enter Try.func58, Try.ntmps58
    go_wp2_with fail
    refine (e1 _).mono ?_
    rintro e w' ⟨rfl, rfl⟩
    go_wp2
    go_ret
    exact ⟨rfl, ab (Below.refl _ _) _⟩

theorem eqEvent_any (x0 : Int) (x1 : Int) (x3 : Int) (x4 : Int) (x5 : Int) (A A' : Option Addr) (n f f' : Nat) (l : List Int) (w : World) (h : Bs w A n l) (h' : Bs w A' n l) (hn : n ≤ 140737488351232) :
    Calls Try.prog 62 #[.agg #[.int .i64 x0, .int .i64 x1, .slice A n f, .int .i64 x3, .int .i64 x4, .int .i64 x5], .agg #[.int .i64 x0, .int .i64 x1, .slice A' n f', .int .i64 x3, .int .i64 x4, .int .i64 x5]] w fun e w' => e = .returned (.bool true) ∧ Below w.heap.size w w' := by
  have e1 := fun W a b => eqByteS_any A A' n f n f' l l W a b hn hn
  simp only [decide_true] at e1
  go_enter Try.func62, Try.ntmps62
  go_wp2_with fail
  refine (e1 _ ((h.alloc _).alloc _) ((h'.alloc _).alloc _)).mono ?_
  rintro e w' ⟨rfl, q1, rfl⟩
  go_wp2
  go_returns
  exact ⟨rfl, ad (ab (ab (Below.refl _ _) _) _) _⟩


theorem Lst.getEvent {w : World} {A : Option Addr} {n : Nat} {els : List EventD} (h : Lst EventD.cels 6 w A n els) {k : Nat} (hk : k < n) :
    ∃ b off e B m c, A = some ⟨b, off, none⟩ ∧ b < w.heap.size ∧ Shut (els[k]? = some e) ∧ w.cell? ⟨b, off + k * 6, none⟩ = some (.int .i64 e.f0) ∧ w.cell? ⟨b, off + k * 6 + 1, none⟩ = some (.int .i64 e.f1) ∧ w.cell? ⟨b, off + k * 6 + 2, none⟩ = some (.slice B m c) ∧ w.cell? ⟨b, off + k * 6 + 3, none⟩ = some (.int .i64 e.f3) ∧ w.cell? ⟨b, off + k * 6 + 4, none⟩ = some (.int .i64 e.f4) ∧ w.cell? ⟨b, off + k * 6 + 5, none⟩ = some (.int .i64 e.f5) ∧ Bs w B m e.f2 ∧ Shut (B = none → c = 0) := by
  obtain ⟨b, off, rfl, hbs, hc⟩ := h.at_ (by omega)
  have he : els[k]? = some (els[k]'(by rw [h.len]; exact hk)) := List.getElem?_eq_getElem _
  obtain ⟨x0, h0, rfl⟩ := hc k _ he 0 _ rfl
  obtain ⟨x1, h1, rfl⟩ := hc k _ he 1 _ rfl
  obtain ⟨x2, h2, B, m, c, rfl, hb, hz⟩ := hc k _ he 2 _ rfl
  obtain ⟨x3, h3, rfl⟩ := hc k _ he 3 _ rfl
  obtain ⟨x4, h4, rfl⟩ := hc k _ he 4 _ rfl
  obtain ⟨x5, h5, rfl⟩ := hc k _ he 5 _ rfl
  exact ⟨b, off, _, B, m, c, rfl, hbs, ⟨he⟩, h0, h1, h2, h3, h4, h5, hb, ⟨hz⟩⟩

theorem info_Event : (Try.prog.info? 102).map (fun i => (i.zero, i.size, i.bytes)) = some (some (.agg #[.int .i64 0, .int .i64 0, .slice none 0 0, .int .i64 0, .int .i64 0, .int .i64 0]), 6, 64) := by kernel_rfl

theorem run_make_Event (n : Nat) (hn : n ≤ 1048576) (w : World) : ∃ cs : Array Value, cs.size = n * 6 ∧
    (Instr.makeSlice 49 (.int .i64 (n : Int)) (.int .i64 (n : Int))).run Try.prog w = .ok (.slice (some ⟨w.heap.size, 0, none⟩) n n) (w.alloc (.cells cs 102)) := by
  obtain ⟨i, hi, hz0, hz1, hz2⟩ := info_parts info_Event
  have hr := run_make (P := Try.prog) w 49 102 i _ Try.underlying49 hi hz0 .i64 .i64 n n (by omega) (by omega) (by rw [hz2]; omega) (by omega)
  simp only [Int.toNat_natCast] at hr
  exact ⟨_, by rw [made_size, hz1], hr⟩

set_option maxHeartbeats 1000000 in
theorem toEventS_any (A : Option Addr) (n c : Nat) (els : List EventD) (w : World) (h : Lst EventD.cels 6 w A n els) (hn : n ≤ 1048576) (hb : ∀ e ∈ els, e.f2.length ≤ 1048576) :
    Calls Try.prog 21 #[.slice A n c] w fun e w' => (e = .returned (.slice (some ⟨w.heap.size, 0, none⟩) n n) ∧ Lo EventD.cels 6 w' (fun b => w.heap.size ≤ b ∧ b < w'.heap.size) (some ⟨w.heap.size, 0, none⟩) n els) ∧ Below w.heap.size w w' := by
  obtain ⟨cs, hcs, hmk⟩ := run_make_Event n hn w
  go_enter Try.func21, Try.ntmps21
  go_wp2
  clear hmk
  go_loopw [4] (fun i wr => ∃ k : Nat, k ≤ n ∧ i = .int .i64 k ∧ Spn wr w.heap.size (n * 6) 102 ∧ Lo EventD.cels 6 wr (fun b => w.heap.size ≤ b ∧ b < wr.heap.size) (some ⟨w.heap.size, 0, none⟩) k (els.take k) ∧ Below w.heap.size w wr) (fun i _ => n - (intOf i).toNat)
  case atStart =>
    exact ⟨0, Nat.zero_le _, rfl, Spn.new w cs _ hcs, Lo.nil_ _ _ _, ab (Below.refl _ _) _⟩
  case round =>
    obtain ⟨k, hk, rfl, hspn, hro, hbel⟩ := hrel
    by_cases hlt : k < n
    · obtain ⟨b, off, e, B, m, c', rfl, hbs, he, h0, h1, h2, h3, h4, h5, hB, hz⟩ := h.getEvent hlt
      have hb' := bcell hbel
      have hem : e ∈ els := List.mem_of_getElem? he.out
      have hm : m ≤ 1048576 := by have := hB.len; have := hb e hem; omega
      have htp := fun W hh => toEvent_any e.f0 e.f1 e.f3 e.f4 e.f5 B m c' e.f2 W hh (by omega)
      clear h
      go_wp2_with fail
      refine (htp _ (hB.below hbel)).mono ?_
      rintro e1 w1 ⟨⟨g, rfl, ho⟩, b1⟩
      have hs1 := hspn.lt
      have hspn1 := hspn.below b1 hs1
      have z1 := b1.size
      obtain ⟨y0, c0⟩ := hspn1.cell (i := k * 6) (by omega)
      obtain ⟨y1, c1⟩ := hspn1.cell (i := k * 6 + 1) (by omega)
      obtain ⟨y2, c2⟩ := hspn1.cell (i := k * 6 + 2) (by omega)
      obtain ⟨y3, c3⟩ := hspn1.cell (i := k * 6 + 3) (by omega)
      obtain ⟨y4, c4⟩ := hspn1.cell (i := k * 6 + 4) (by omega)
      obtain ⟨y5, c5⟩ := hspn1.cell (i := k * 6 + 5) (by omega)
      have fz := hspn1.frozen
      clear h0 h1 h2 h3 h4 h5 hb' htp
      go_wp2
      go_roundw
      case rel =>
        have hp := (hro.push1 (e := e) b1 ⟨Nat.le_refl _, hs1⟩ (fun b hb => hb.2) fz (hspn1.there (by omega)) (fun _ => rfl) [.int .i64 e.f0, .int .i64 e.f1, .slice (some ⟨g, 0, none⟩) m m, .int .i64 e.f3, .int .i64 e.f4, .int .i64 e.f5] rfl 2 _ m _ ho (fun j d hj => by
          rcases j with _ | _ | _ | _ | _ | _ | j <;> simp [EventD.cels] at hj <;> subst hj
          · exact ⟨_, rfl, .inl ⟨_, rfl, rfl⟩⟩
          · exact ⟨_, rfl, .inl ⟨_, rfl, rfl⟩⟩
          · exact ⟨_, rfl, .inr ⟨rfl, rfl, m, rfl, fun h => by cases h⟩⟩
          · exact ⟨_, rfl, .inl ⟨_, rfl, rfl⟩⟩
          · exact ⟨_, rfl, .inl ⟨_, rfl, rfl⟩⟩
          · exact ⟨_, rfl, .inl ⟨_, rfl, rfl⟩⟩)).wider (H := fun b => w.heap.size ≤ b ∧ b < w1.heap.size) (fun b hb => by rcases hb with hb | hb <;> omega)
        refine ⟨k + 1, by omega, by go_num, ((((((hspn1.set_ _ _).set_ _ _).set_ _ _).set_ _ _).set_ _ _).set_ _ _), ?_, (((((((hbel.trans (b1.mono (by omega))).setCell (Nat.le_refl _) _).setCell (Nat.le_refl _) _).setCell (Nat.le_refl _) _).setCell (Nat.le_refl _) _).setCell (Nat.le_refl _) _).setCell (Nat.le_refl _) _)⟩
        rw [List.take_add_one, he.out]
        simp only [World.setCells, Nat.zero_add] at hp
        simp only [World.size_setCell]
        exact hp
      case measure => simp [intOf]; omega
    · obtain rfl : k = n := by omega
      go_wp2
      go_ret
      rw [List.take_of_length_le (by rw [h.len]; exact Nat.le_refl _)] at hro
      exact ⟨⟨rfl, hro⟩, hbel⟩

def EventD.len (d : EventD) : Nat := d.f2.length
def EventD.wd (d : EventD) : Nat := d.f2.length + 5
theorem sumEventD_wd (els : List EventD) : sumE EventD.wd els = sumE EventD.len els + 5 * els.length := by
  induction els with
  | nil => rfl
  | cons x r ih => simp only [sumE, List.length_cons, ih, EventD.wd, EventD.len]; omega
def EventD.mk_ (k : Int) (d : EventD) : EventD := ⟨k, k + 1, marks (k + 1 + 1) d.f2.length, k + 1 + 1 + (d.f2.length : Int), k + 1 + 1 + (d.f2.length : Int) + 1, k + 1 + 1 + (d.f2.length : Int) + 1 + 1⟩

set_option linter.unusedVariables false in
set_option maxHeartbeats 1000000 in
theorem szEventS_any (A : Option Addr) (n c : Nat) (els : List EventD) (x : Int) (w : World) (h : Lst EventD.cels 6 w A n els) (h0 : 0 ≤ x) (h1 : x ≤ 1048576) (hn : n ≤ 9223372036854775807) (hb : ∀ e ∈ els, e.f2.length ≤ 9223372036854775807) :
    Calls Try.prog 19 #[.slice A n c, .int .i64 x] w fun e w' => e = .returned (.int .i64 (leftE EventD.len x n els)) ∧ Below w.heap.size w w' := by
  unfold leftE
  by_cases hx : x - (n : Int) < 0
  · have e0 : leftC x (n + sumE EventD.len els) = -1 := by unfold leftC; rw [if_pos (by omega)]
    rw [e0]
    clear e0
    go_enter Try.func19, Try.ntmps19
    go_wp2
    go_ret
    exact ⟨rfl, Below.refl _ _⟩
  · go_enter Try.func19, Try.ntmps19
    go_wp2
    go_loopw [1, 5] (fun r i wr => ∃ k : Nat, k ≤ n ∧ i = .int .i64 k ∧ Below w.heap.size w wr ∧ ∃ y : Int, r = .int .i64 y ∧ 0 ≤ y ∧ y ≤ 1048576 ∧ y = x - (n : Int) - (sumE EventD.len (els.take k) : Int)) (fun r i _ => n - (intOf i).toNat)
    case atStart =>
      exact ⟨0, Nat.zero_le _, rfl, Below.refl _ _, _, rfl, by omega, by omega, by simp [sumE]⟩
    case round =>
      obtain ⟨k, hk, rfl, hbel, y, rfl, hy0, hy1, hy⟩ := hrel
      by_cases hlt : k < n
      · obtain ⟨b, off, e, B, m, c', rfl, hbs, he, h0, h1, h2, h3, h4, h5, hB, hz⟩ := h.getEvent hlt
        have hb' := bcell hbel
        have hem : e ∈ els := List.mem_of_getElem? he.out
        have hml := hB.len
        have hm : m ≤ 9223372036854775807 := by have := hb e hem; omega
        have hs := sumE_take_succ EventD.len he.out
        have hs2 := sumE_take_le EventD.len els (k + 1)
        have htp := fun W => szEvent_any e.f0 e.f1 e.f3 e.f4 e.f5 B m c' y W hy0 hy1 hm
        have hs' : sumE EventD.len (els.take (k + 1)) = sumE EventD.len (els.take k) + m := by rw [hs]; unfold EventD.len; rw [hml]
        clear hs hml
        by_cases hq : y - (m : Int) < 0
        · have e1 : leftC y m = -1 := by unfold leftC; rw [if_pos hq]
          rw [e1] at htp
          have e0 : Shut (leftC x (n + sumE EventD.len els) = -1) := ⟨by unfold leftC; rw [if_pos (by omega)]⟩
          clear e1 hs' hs2 h hy hq
          go_wp2_with fail
          refine (htp _).mono ?_
          rintro e1 w1 ⟨rfl, b1⟩
          go_wp2
          go_ret
          exact ⟨by rw [e0.out]; rfl, ac hbel b1⟩
        · have e1 : leftC y m = y - (m : Int) := by unfold leftC; rw [if_neg hq]
          rw [e1] at htp
          have e0 : Shut (y - (m : Int) = x - (n : Int) - (sumE EventD.len (els.take (k + 1)) : Int)) := ⟨by omega⟩
          clear e1 hs' hs2 h hy
          go_wp2_with fail
          refine (htp _).mono ?_
          rintro e1 w1 ⟨rfl, b1⟩
          go_wp2
          go_roundw
          case rel =>
            exact ⟨k + 1, by omega, by go_num, ac hbel b1, _, rfl, by omega, by omega, e0.out⟩
          case measure => simp [intOf]; omega
      · obtain rfl : k = n := by omega
        have e0 : Shut (leftC x (k + sumE EventD.len els) = y) := ⟨by
          rw [List.take_of_length_le (by rw [h.len]; exact Nat.le_refl _)] at hy
          unfold leftC
          rw [if_neg (by omega), hy]
          omega⟩
        clear hy
        go_wp2
        go_ret
        exact ⟨by rw [e0.out]; rfl, hbel⟩

set_option maxHeartbeats 1000000 in
theorem eqEventS_any (A A' : Option Addr) (n c c' : Nat) (els : List EventD) (w : World) (h : Lst EventD.cels 6 w A n els) (h' : Lst EventD.cels 6 w A' n els) (hn : n ≤ 140737488351232) (hb : ∀ e ∈ els, e.f2.length ≤ 140737488351232) :
    Calls Try.prog 24 #[.slice A n c, .slice A' n c'] w fun e w' => e = .returned (.bool true) ∧ Below w.heap.size w w' := by
  go_enter Try.func24, Try.ntmps24
  go_wp2
  go_loopw [5] (fun i wr => ∃ k : Nat, k ≤ n ∧ i = .int .i64 k ∧ Below w.heap.size w wr) (fun i _ => n - (intOf i).toNat)
  case atStart =>
    exact ⟨0, Nat.zero_le _, rfl, Below.refl _ _⟩
  case round =>
    obtain ⟨k, hk, rfl, hbel⟩ := hrel
    by_cases hlt : k < n
    · obtain ⟨b, off, e, B, m, d, rfl, hbs, he, h0, h1, h2, h3, h4, h5, hB, hz⟩ := h.getEvent hlt
      obtain ⟨b', off', e', B', m', d', rfl, hbs', he', h0', h1', h2', h3', h4', h5', hB', hz'⟩ := h'.getEvent hlt
      have hee : e' = e := by have h1 := he.out; have h2 := he'.out; rw [h1] at h2; injection h2 with h2; exact h2.symm
      subst hee
      have hml := hB.len
      have hml' := hB'.len
      obtain rfl : m' = m := by omega
      have hm : m' ≤ 140737488351232 := by have := hb e' (List.mem_of_getElem? he.out); omega
      have hb' := bcell hbel
      have htp : Shut (∀ W, W.cell? ⟨b, off + k * 6, none⟩ = some (.int .i64 e'.f0) ∧ W.cell? ⟨b, off + k * 6 + 1, none⟩ = some (.int .i64 e'.f1) ∧ W.cell? ⟨b, off + k * 6 + 2, none⟩ = some (.slice B m' d) ∧ W.cell? ⟨b, off + k * 6 + 3, none⟩ = some (.int .i64 e'.f3) ∧ W.cell? ⟨b, off + k * 6 + 4, none⟩ = some (.int .i64 e'.f4) ∧ W.cell? ⟨b, off + k * 6 + 5, none⟩ = some (.int .i64 e'.f5) ∧ W.cell? ⟨b', off' + k * 6, none⟩ = some (.int .i64 e'.f0) ∧ W.cell? ⟨b', off' + k * 6 + 1, none⟩ = some (.int .i64 e'.f1) ∧ W.cell? ⟨b', off' + k * 6 + 2, none⟩ = some (.slice B' m' d') ∧ W.cell? ⟨b', off' + k * 6 + 3, none⟩ = some (.int .i64 e'.f3) ∧ W.cell? ⟨b', off' + k * 6 + 4, none⟩ = some (.int .i64 e'.f4) ∧ W.cell? ⟨b', off' + k * 6 + 5, none⟩ = some (.int .i64 e'.f5) ∧ Below w.heap.size w W → Calls Try.prog 62 #[.agg #[.int .i64 e'.f0, .int .i64 e'.f1, .slice B m' d, .int .i64 e'.f3, .int .i64 e'.f4, .int .i64 e'.f5], .agg #[.int .i64 e'.f0, .int .i64 e'.f1, .slice B' m' d', .int .i64 e'.f3, .int .i64 e'.f4, .int .i64 e'.f5]] W fun e w' => e = .returned (.bool true) ∧ w'.cell? ⟨b, off + k * 6, none⟩ = some (.int .i64 e'.f0) ∧ w'.cell? ⟨b, off + k * 6 + 1, none⟩ = some (.int .i64 e'.f1) ∧ w'.cell? ⟨b, off + k * 6 + 2, none⟩ = some (.slice B m' d) ∧ w'.cell? ⟨b, off + k * 6 + 3, none⟩ = some (.int .i64 e'.f3) ∧ w'.cell? ⟨b, off + k * 6 + 4, none⟩ = some (.int .i64 e'.f4) ∧ w'.cell? ⟨b, off + k * 6 + 5, none⟩ = some (.int .i64 e'.f5) ∧ w'.cell? ⟨b', off' + k * 6, none⟩ = some (.int .i64 e'.f0) ∧ w'.cell? ⟨b', off' + k * 6 + 1, none⟩ = some (.int .i64 e'.f1) ∧ w'.cell? ⟨b', off' + k * 6 + 2, none⟩ = some (.slice B' m' d') ∧ w'.cell? ⟨b', off' + k * 6 + 3, none⟩ = some (.int .i64 e'.f3) ∧ w'.cell? ⟨b', off' + k * 6 + 4, none⟩ = some (.int .i64 e'.f4) ∧ w'.cell? ⟨b', off' + k * 6 + 5, none⟩ = some (.int .i64 e'.f5) ∧ Below w.heap.size w w') :=
        ⟨fun W ⟨y0, y1, y2, y3, y4, y5, y6, y7, y8, y9, y10, y11, y12⟩ => (eqEvent_any e'.f0 e'.f1 e'.f3 e'.f4 e'.f5 B B' m' d d' e'.f2 W (hB.below y12) (hB'.below y12) hm).mono fun _ w' ⟨h1, hb⟩ => ⟨h1, ((bcell hb).1 b _ (Nat.lt_of_lt_of_le hbs y12.size)).trans y0, ((bcell hb).1 b _ (Nat.lt_of_lt_of_le hbs y12.size)).trans y1, ((bcell hb).1 b _ (Nat.lt_of_lt_of_le hbs y12.size)).trans y2, ((bcell hb).1 b _ (Nat.lt_of_lt_of_le hbs y12.size)).trans y3, ((bcell hb).1 b _ (Nat.lt_of_lt_of_le hbs y12.size)).trans y4, ((bcell hb).1 b _ (Nat.lt_of_lt_of_le hbs y12.size)).trans y5, ((bcell hb).1 b' _ (Nat.lt_of_lt_of_le hbs' y12.size)).trans y6, ((bcell hb).1 b' _ (Nat.lt_of_lt_of_le hbs' y12.size)).trans y7, ((bcell hb).1 b' _ (Nat.lt_of_lt_of_le hbs' y12.size)).trans y8, ((bcell hb).1 b' _ (Nat.lt_of_lt_of_le hbs' y12.size)).trans y9, ((bcell hb).1 b' _ (Nat.lt_of_lt_of_le hbs' y12.size)).trans y10, ((bcell hb).1 b' _ (Nat.lt_of_lt_of_le hbs' y12.size)).trans y11, ac y12 hb⟩⟩
      have q0 := (hb'.1 b _ hbs).trans h0
      have q1 := (hb'.1 b _ hbs).trans h1
      have q2 := (hb'.1 b _ hbs).trans h2
      have q3 := (hb'.1 b _ hbs).trans h3
      have q4 := (hb'.1 b _ hbs).trans h4
      have q5 := (hb'.1 b _ hbs).trans h5
      have q6 := (hb'.1 b' _ hbs').trans h0'
      have q7 := (hb'.1 b' _ hbs').trans h1'
      have q8 := (hb'.1 b' _ hbs').trans h2'
      have q9 := (hb'.1 b' _ hbs').trans h3'
      have q10 := (hb'.1 b' _ hbs').trans h4'
      have q11 := (hb'.1 b' _ hbs').trans h5'
      have hD := ad hbel 1
      clear h h' hml hml' h0 h1 h2 h3 h4 h5 h0' h1' h2' h3' h4' h5' hB hB' hz hz' he he' hm hb'
      go_wp2_with fail
      go_region_held3 (fun W => W.cell? ⟨b, off + k * 6, none⟩ = some (.int .i64 e'.f0) ∧ W.cell? ⟨b, off + k * 6 + 1, none⟩ = some (.int .i64 e'.f1) ∧ W.cell? ⟨b, off + k * 6 + 2, none⟩ = some (.slice B m' d) ∧ W.cell? ⟨b, off + k * 6 + 3, none⟩ = some (.int .i64 e'.f3) ∧ W.cell? ⟨b, off + k * 6 + 4, none⟩ = some (.int .i64 e'.f4) ∧ W.cell? ⟨b, off + k * 6 + 5, none⟩ = some (.int .i64 e'.f5) ∧ W.cell? ⟨b', off' + k * 6, none⟩ = some (.int .i64 e'.f0) ∧ W.cell? ⟨b', off' + k * 6 + 1, none⟩ = some (.int .i64 e'.f1) ∧ W.cell? ⟨b', off' + k * 6 + 2, none⟩ = some (.slice B' m' d') ∧ W.cell? ⟨b', off' + k * 6 + 3, none⟩ = some (.int .i64 e'.f3) ∧ W.cell? ⟨b', off' + k * 6 + 4, none⟩ = some (.int .i64 e'.f4) ∧ W.cell? ⟨b', off' + k * 6 + 5, none⟩ = some (.int .i64 e'.f5) ∧ Below w.heap.size w W)
        (first | (exact ⟨by assumption, by assumption, by assumption, by assumption, by assumption, by assumption, by assumption, by assumption, by assumption, by assumption, by assumption, by assumption, by assumption⟩) | (exact ⟨q0, q1, q2, q3, q4, q5, q6, q7, q8, q9, q10, q11, hD⟩) | go_keep)
        (first | (go_at_call 62; refine (htp.out _ ?_).mono ?_; (first | assumption | (simp [*]; done)); rintro e1 w1 ⟨rfl, y0, y1, y2, y3, y4, y5, y6, y7, y8, y9, y10, y11, y12⟩))
      go_wp2
      go_roundw
      case rel =>
        exact ⟨k + 1, by omega, by go_num, y12⟩
      case measure => simp [intOf]; omega
    · obtain rfl : k = n := by omega
      go_wp2
      go_ret
      exact ⟨rfl, hbel⟩

set_option maxHeartbeats 2000000 in
theorem markEventS_any (A : Option Addr) (n c : Nat) (els : List EventD) (F : Nat → Prop) (k : Int) (w : World) (h : Lo EventD.cels 6 w F A n els) (hk0 : 0 ≤ k) (hk1 : k ≤ 100000000) (hs : sumE EventD.wd els ≤ 100000000) (hn : n ≤ 100000000) :
    Calls Try.prog 25 #[.slice A n c, .int .i64 k] w fun e w' => e = .returned (.int .i64 (k + (sumE EventD.wd els : Int))) ∧ Lo EventD.cels 6 w' F A n (markE EventD.mk_ EventD.wd k els) ∧ Tu F w w' := by
  go_enter Try.func25, Try.ntmps25
  go_wp2
  go_loopw [1, 5] (fun r i wr => ∃ j : Nat, j ≤ n ∧ i = .int .i64 j ∧ r = .int .i64 (k + (sumE EventD.wd (els.take j) : Int)) ∧ Lo EventD.cels 6 wr F A n (markd_ EventD.mk_ EventD.wd k els j) ∧ Tu F w wr) (fun r i _ => n - (intOf i).toNat)
  case atStart =>
    exact ⟨0, Nat.zero_le _, rfl, by simp [sumE], by rw [markd_zero_]; exact h, Tu.refl _ _⟩
  case round =>
    obtain ⟨j, hj, rfl, rfl, hro, htu⟩ := hrel
    by_cases hlt : j < n
    · have he : els[j]? = some (els[j]'(by rw [h.len]; exact hlt)) := List.getElem?_eq_getElem _
      generalize els[j]'(by rw [h.len]; exact hlt) = e at he
      obtain ⟨g, off, G, rfl, hF, hg, hfz, hG, hc, hup⟩ := hro.upd (fun _ => rfl) (markd_get_ EventD.mk_ EventD.wd k he)
      obtain ⟨x0, c0, rfl⟩ := hc 0 _ rfl
      obtain ⟨x1, c1, rfl⟩ := hc 1 _ rfl
      obtain ⟨x2, c2, B, m, d, rfl, ho, hz⟩ := hc 2 _ rfl
      obtain ⟨x3, c3, rfl⟩ := hc 3 _ rfl
      obtain ⟨x4, c4, rfl⟩ := hc 4 _ rfl
      obtain ⟨x5, c5, rfl⟩ := hc 5 _ rfl
      have hst := markd_set_ EventD.mk_ EventD.wd k he
      have hs1 := sumE_take_succ EventD.wd he
      have hs2 := sumE_take_le EventD.wd els (j + 1)
      have hml := ho.len
      obtain ⟨y, hy⟩ : ∃ y, y = k + (sumE EventD.wd (els.take j) : Int) := ⟨_, rfl⟩
      rw [← hy] at hst ⊢
      have hwd : e.wd = m + 5 := by unfold EventD.wd; rw [hml]
      have hy0 : 0 ≤ y := by omega
      have hy1 : y + (m : Int) + 5 ≤ 200000000 := by omega
      have hm : m ≤ 100000000 := by omega
      have e1 : Shut (y + 1 + 1 + (m : Int) + 1 + 1 + 1 = k + (sumE EventD.wd (els.take (j + 1)) : Int)) := ⟨by omega⟩
      have Hml := Shut.mk hml
      have hne := ho.apart (b := g) (fun hb => (hG 2 g hb).2 rfl)
      have HU := hup
      have Hst := Shut.mk hst
      clear hs1 hs2 hml hy hwd hs hup hc hst
      simp only [Nat.add_zero] at c0
      have ho1 : Bo ((wr.setCell ⟨g, off + j * 6, none⟩ (.int .i64 (y))).setCell ⟨g, off + j * 6 + 1, none⟩ (.int .i64 (y + 1))) (G 2) B m e.f2 := ho.keep (by simp only [World.size_setCell]; omega) fun b hb hlb => by rw [heapOff _ (hG 2 b hb).2, heapOff _ (hG 2 b hb).2]
      have hmk := markByteS_any B m d 0 e.f2 (y + 1 + 1) _ ho1.ow0 (by omega) (by omega) (by omega)
      go_wp2_with fail
      refine hmk.mono ?_
      rintro e2 w1 ⟨rfl, how, hon⟩
      have hbg := hon.block g hne
      have p2 := (World.cell?_of_block (a := ⟨g, off + j * 6 + 2, none⟩) hbg).trans ((cellOff _ (by omega)).trans ((cellOff _ (by omega)).trans (c2)))
      have p3 := (World.cell?_of_block (a := ⟨g, off + j * 6 + 3, none⟩) hbg).trans ((cellOff _ (by omega)).trans ((cellOff _ (by omega)).trans (c3)))
      have p4 := (World.cell?_of_block (a := ⟨g, off + j * 6 + 4, none⟩) hbg).trans ((cellOff _ (by omega)).trans ((cellOff _ (by omega)).trans (c4)))
      have p5 := (World.cell?_of_block (a := ⟨g, off + j * 6 + 5, none⟩) hbg).trans ((cellOff _ (by omega)).trans ((cellOff _ (by omega)).trans (c5)))
      have p0 := (World.cell?_of_block (a := ⟨g, off + j * 6, none⟩) hbg).trans ((cellOff _ (by omega)).trans (cellOn _ (c0)))
      have p1 := (World.cell?_of_block (a := ⟨g, off + j * 6 + 1, none⟩) hbg).trans (cellOn _ ((cellOff _ (by omega)).trans (c1)))
      have p_ : ∀ i, w1.frozen? ⟨g, i, none⟩ = false := fun i => (World.frozen?_of_block (a := ⟨g, i, none⟩) hbg).trans (by simp only [World.frozen?_setCell]; exact hfz i)
      have hsz := hon.size
      simp only [World.size_setCell] at hsz
      clear hmk
      go_wp2
      go_roundw
      case rel =>
        refine ⟨j + 1, by omega, by go_num, by rw [e1.out], ?_, ((((((htu.set_ hF _).set_ hF _).trans (Tu.ofOnly hon fun h0 a ha => (hG 2 _ (ho.inside h0 a ha)).1)).set_ hF _).set_ hF _).set_ hF _)⟩
        rw [← Hst.out]
        refine HU.out _ _ (by simp only [World.size_setCell]; omega) (fun i => by simp only [World.frozen?_setCell]; exact p_ i) (fun b hFb hbg' hGb hlb => ?_) (fun i hi => ?_) (fun i d0 hd => ?_)
        · rw [heapOff _ hbg', heapOff _ hbg', heapOff _ hbg']
          have hz9 := hon.block b (ho.apart (hGb 2))
          rw [heapOff _ hbg', heapOff _ hbg'] at hz9
          exact hz9
        · rw [cellOff _ (by omega), cellOff _ (by omega), cellOff _ (by omega)]
          have hz9 := World.cell?_of_block (a := ⟨g, i, none⟩) hbg
          rw [cellOff _ (by omega), cellOff _ (by omega)] at hz9
          exact hz9
        · rcases i with _ | _ | _ | _ | _ | _ | i <;> simp [EventD.cels, EventD.mk_] at hd <;> subst hd
          · refine ⟨_, ?_, rfl⟩
            exact (cellOff _ (by omega)).trans ((cellOff _ (by omega)).trans ((cellOff _ (by omega)).trans (p0)))
          · refine ⟨_, ?_, rfl⟩
            exact (cellOff _ (by omega)).trans ((cellOff _ (by omega)).trans ((cellOff _ (by omega)).trans (p1)))
          · refine ⟨_, ?_, B, m, d, rfl, ?_, hz⟩
            · rw [cellOff _ (by omega), cellOff _ (by omega), cellOff _ (by omega)]
              exact p2
            · rw [Hml.out]
              refine (ho1.remark how).keep (by simp only [World.size_setCell]; omega) fun b hb hlb => ?_
              rw [heapOff _ (hG 2 b hb).2, heapOff _ (hG 2 b hb).2, heapOff _ (hG 2 b hb).2]
          · refine ⟨_, ?_, rfl⟩
            rw [cellOff _ (by omega), cellOff _ (by omega), cellOn _ p3, Hml.out]
          · refine ⟨_, ?_, rfl⟩
            rw [cellOff _ (by omega), cellOn _ ((cellOff _ (by omega)).trans p4), Hml.out]
          · refine ⟨_, ?_, rfl⟩
            rw [cellOn _ ((cellOff _ (by omega)).trans ((cellOff _ (by omega)).trans p5)), Hml.out]
      case measure => simp [intOf]; omega
    · obtain rfl : j = n := by omega
      go_wp2
      go_ret
      rw [List.take_of_length_le (by rw [h.len]; exact Nat.le_refl _)]
      rw [markd_full_ _ _ _ _ _ h.len] at hro
      exact ⟨rfl, hro, htu⟩

set_option maxHeartbeats 2000000 in
theorem heldEventS_any (A : Option Addr) (n c : Nat) (els : List EventD) (k : Int) (w : World) (h : Lst EventD.cels 6 w A n (markE EventD.mk_ EventD.wd k els)) (hk0 : 0 ≤ k) (hk1 : k ≤ 100000000) (hs : sumE EventD.wd els ≤ 100000000) (hn : n ≤ 100000000) :
    Calls Try.prog 63 #[.slice A n c, .int .i64 k] w fun e w' => e = .returned (.int .i64 (k + (sumE EventD.wd els : Int))) ∧ Below w.heap.size w w' := by
  have hel : els.length = n := by rw [← markE_len EventD.mk_ EventD.wd k els]; exact h.len
  go_enter Try.func63, Try.ntmps63
  go_wp2
  go_loopw [1, 5] (fun r i wr => ∃ j : Nat, j ≤ n ∧ i = .int .i64 j ∧ r = .int .i64 (k + (sumE EventD.wd (els.take j) : Int)) ∧ Below w.heap.size w wr) (fun r i _ => n - (intOf i).toNat)
  case atStart =>
    exact ⟨0, Nat.zero_le _, rfl, by simp [sumE], Below.refl _ _⟩
  case round =>
    obtain ⟨j, hj, rfl, rfl, hbel⟩ := hrel
    by_cases hlt : j < n
    · have he : els[j]? = some (els[j]'(by omega)) := List.getElem?_eq_getElem _
      generalize els[j]'(by omega) = e at he
      obtain ⟨b, off, e', B, m, d, rfl, hbs, he', h0, h1, h2, h3, h4, h5, hB, hz⟩ := h.getEvent hlt
      have hee := he'.out
      rw [markE_get EventD.mk_ EventD.wd k he] at hee
      injection hee with hee
      have hs1 := sumE_take_succ EventD.wd he
      have hs2 := sumE_take_le EventD.wd els (j + 1)
      obtain ⟨y, hy⟩ : ∃ y, y = k + (sumE EventD.wd (els.take j) : Int) := ⟨_, rfl⟩
      rw [← hy] at hee ⊢
      subst hee
      have hml : e.f2.length = m := by have := hB.len; rw [← this]; exact (marks_len _ _).symm
      have hwd : e.wd = m + 5 := by unfold EventD.wd; rw [hml]
      have hy0 : 0 ≤ y := by omega
      have hy1 : y + (m : Int) + 5 ≤ 200000000 := by omega
      have hm : m ≤ 100000000 := by omega
      have e1 : Shut (y + 1 + 1 + (m : Int) + 1 + 1 + 1 = k + (sumE EventD.wd (els.take (j + 1)) : Int)) := ⟨by omega⟩
      simp only [EventD.mk_, hml] at h0 h1 h3 h4 h5 hB
      have hmk := heldByteS_any B m d (y + 1 + 1) wr (hB.below hbel) (by omega) (by omega) (by omega)
      have hb' := bcell hbel
      clear hs1 hs2 hml hy hwd hs he he' h hel
      have t1 : decide (y + 1 + 1 + (m : Int) < 0) = false := by simp; omega
      go_wp2_with fail
      refine hmk.mono ?_
      rintro e2 w1 ⟨rfl, rfl⟩
      clear hmk
      go_wp2
      go_roundw
      case rel => exact ⟨j + 1, by omega, by go_num, by rw [e1.out], hbel⟩
      case measure => simp [intOf]; omega
    · obtain rfl : j = n := by omega
      have Hel := Shut.mk hel
      clear hel
      go_wp2
      go_ret
      rw [List.take_of_length_le (by rw [Hel.out]; exact Nat.le_refl _)]
      exact ⟨rfl, hbel⟩

end Go.Proofs.Ytpaemmoopjkppaa
