/- The laws' helpers for lists of runs of bytes. -/
import Derived.Test.YtgmbofoneeagiaaThgC
namespace Go.Proofs.Ytgmbofoneeagiaa
open Go.RowKit

/-- what an element is: a run of bytes -/
def bytC (l : List Int) : List Cel := [.b l]
def tB := tL bytC 1
theorem okB (A : Option Addr) (n : Nat) (els : List (List Int)) : (tB A n els).Ok := okL _ _ A n els
def mkB (k : Int) (l : List Int) : List Int := marks k l.length

theorem Lst.getByt {w : World} {A : Option Addr} {n : Nat} {els : List (List Int)} (h : Lst bytC 1 w A n els) {k : Nat} (hk : k < n) :
    ∃ b off e B m c, A = some ⟨b, off, none⟩ ∧ b < w.heap.size ∧ Shut (els[k]? = some e) ∧ w.cell? ⟨b, off + k, none⟩ = some (.slice B m c) ∧ Bs w B m e ∧ Shut (B = none → c = 0) := by
  obtain ⟨b, off, rfl, hbs, hc⟩ := h.at_ (by omega)
  have he : els[k]? = some (els[k]'(by rw [h.len]; exact hk)) := List.getElem?_eq_getElem _
  obtain ⟨x0, h0, B, m, c, rfl, hb, hz⟩ := hc k _ he 0 _ rfl
  exact ⟨b, off, _, B, m, c, rfl, hbs, ⟨he⟩, by simpa using h0, hb, ⟨hz⟩⟩

theorem info_Byt : (Try.prog.info? 22).map (fun i => (i.zero, i.size, i.bytes)) = some (some (.slice none 0 0), 1, 24) := by kernel_rfl

theorem run_make_Byt (n : Nat) (hn : n ≤ 1048576) (w : World) : ∃ cs : Array Value, cs.size = n * 1 ∧
    (Instr.makeSlice 39 (.int .i64 (n : Int)) (.int .i64 (n : Int))).run Try.prog w = .ok (.slice (some ⟨w.heap.size, 0, none⟩) n n) (w.alloc (.cells cs 22)) := by
  obtain ⟨i, hi, hz0, hz1, hz2⟩ := info_parts info_Byt
  have hr := run_make (P := Try.prog) w 39 22 i _ Try.underlying39 hi hz0 .i64 .i64 n n (by omega) (by omega) (by rw [hz2]; omega) (by omega)
  simp only [Int.toNat_natCast] at hr
  exact ⟨_, by rw [made_size, hz1], hr⟩

set_option maxHeartbeats 1000000 in
theorem toByteSS_any (A : Option Addr) (n c : Nat) (els : List (List Int)) (w : World) (h : Lst bytC 1 w A n els) (hn : n ≤ 1048576) (hb : ∀ e ∈ els, e.length ≤ 1048576) :
    Calls Try.prog 24 #[.slice A n c] w fun e w' => (e = .returned (.slice (some ⟨w.heap.size, 0, none⟩) n n) ∧ Lo bytC 1 w' (fun b => w.heap.size ≤ b ∧ b < w'.heap.size) (some ⟨w.heap.size, 0, none⟩) n els) ∧ Below w.heap.size w w' := by
  obtain ⟨cs, hcs, hmk⟩ := run_make_Byt n hn w
  go_enter Try.func24, Try.ntmps24
  go_wp2
  clear hmk
  go_loopw [4] (fun i wr => ∃ k : Nat, k ≤ n ∧ i = .int .i64 k ∧ Spn wr w.heap.size (n * 1) 22 ∧ Lo bytC 1 wr (fun b => w.heap.size ≤ b ∧ b < wr.heap.size) (some ⟨w.heap.size, 0, none⟩) k (els.take k) ∧ Below w.heap.size w wr) (fun i _ => n - (intOf i).toNat)
  case atStart =>
    exact ⟨0, Nat.zero_le _, rfl, Spn.new w cs _ hcs, Lo.nil_ _ _ _, ab (Below.refl _ _) _⟩
  case round =>
    obtain ⟨k, hk, rfl, hspn, hro, hbel⟩ := hrel
    by_cases hlt : k < n
    · obtain ⟨b, off, e, B, m, c', rfl, hbs, he, h0, hB, hz⟩ := h.getByt hlt
      have hb' := bcell hbel
      have hem : e ∈ els := List.mem_of_getElem? he.out
      have hml := hB.len
      have hby := hB.byte
      have hm : m ≤ 1048576 := by have := hb e hem; omega
      have htp := fun W hh => toByteS_any B m c' e W hh (by omega)
      clear h
      go_wp2_with fail
      refine (htp _ (hB.below hbel)).mono ?_
      rintro e1 w1 ⟨rfl, k1, b1⟩
      have ho : Ow w1 wr.heap.size _ m e := k1.own hby hml
      have hs1 := hspn.lt
      have hspn1 := hspn.below b1 hs1
      have z1 := b1.size
      obtain ⟨y0, c0⟩ := hspn1.cell (i := k) (by omega)
      have fz := hspn1.frozen
      clear h0 hb' htp hml hby
      go_wp2
      go_roundw
      case rel =>
        have hp := (hro.push1 (e := e) b1 ⟨Nat.le_refl _, hs1⟩ (fun b hb => hb.2) fz (hspn1.there (by omega)) (fun _ => rfl) [.slice (some ⟨wr.heap.size, 0, none⟩) m m] rfl 0 _ m _ ho (fun j d hj => by
          rcases j with _ | j <;> simp [bytC] at hj <;> subst hj
          exact ⟨_, rfl, .inr ⟨rfl, rfl, m, rfl, fun h => by cases h⟩⟩)).wider (H := fun b => w.heap.size ≤ b ∧ b < w1.heap.size) (fun b hb => by rcases hb with hb | hb <;> omega)
        refine ⟨k + 1, by omega, by go_num, (hspn1.set_ _ _), ?_, ((hbel.trans (b1.mono (by omega))).setCell (Nat.le_refl _) _)⟩
        rw [List.take_add_one, he.out]
        simp only [World.setCells, Nat.zero_add, Nat.mul_one] at hp
        simp only [World.size_setCell]
        exact hp
      case measure => simp [intOf]; omega
    · obtain rfl : k = n := by omega
      go_wp2
      go_ret
      rw [List.take_of_length_le (by rw [h.len]; exact Nat.le_refl _)] at hro
      exact ⟨⟨rfl, hro⟩, hbel⟩

set_option linter.unusedVariables false in
set_option maxHeartbeats 1000000 in
theorem szByteSS_any (A : Option Addr) (n c : Nat) (els : List (List Int)) (x : Int) (w : World) (h : Lst bytC 1 w A n els) (h0 : 0 ≤ x) (h1 : x ≤ 1048576) (hn : n ≤ 9223372036854775807) (hb : ∀ e ∈ els, e.length ≤ 9223372036854775807) :
    Calls Try.prog 22 #[.slice A n c, .int .i64 x] w fun e w' => e = .returned (.int .i64 (leftE List.length x n els)) ∧ Below w.heap.size w w' := by
  unfold leftE
  by_cases hx : x - (n : Int) < 0
  · have e0 : leftC x (n + sumE List.length els) = -1 := by unfold leftC; rw [if_pos (by omega)]
    rw [e0]
    clear e0
    go_enter Try.func22, Try.ntmps22
    go_wp2
    go_ret
    exact ⟨rfl, Below.refl _ _⟩
  · go_enter Try.func22, Try.ntmps22
    go_wp2
    go_loopw [1, 5] (fun r i wr => ∃ k : Nat, k ≤ n ∧ i = .int .i64 k ∧ Below w.heap.size w wr ∧ ∃ y : Int, r = .int .i64 y ∧ 0 ≤ y ∧ y ≤ 1048576 ∧ y = x - (n : Int) - (sumE List.length (els.take k) : Int)) (fun r i _ => n - (intOf i).toNat)
    case atStart =>
      exact ⟨0, Nat.zero_le _, rfl, Below.refl _ _, _, rfl, by omega, by omega, by simp [sumE]⟩
    case round =>
      obtain ⟨k, hk, rfl, hbel, y, rfl, hy0, hy1, hy⟩ := hrel
      by_cases hlt : k < n
      · obtain ⟨b, off, e, B, m, c', rfl, hbs, he, h0, hB, hz⟩ := h.getByt hlt
        have hb' := bcell hbel
        have hem : e ∈ els := List.mem_of_getElem? he.out
        have hml := hB.len
        have hm : m ≤ 9223372036854775807 := by have := hb e hem; omega
        have hs := sumE_take_succ List.length he.out
        have hs2 := sumE_take_le List.length els (k + 1)
        have htp := fun W => szByteS_any B m c' y W hy0 hy1 hm
        have hs' : sumE List.length (els.take (k + 1)) = sumE List.length (els.take k) + m := by rw [hs, hml]
        clear hs hml
        by_cases hq : y - (m : Int) < 0
        · rw [if_pos hq] at htp
          have e0 : Shut (leftC x (n + sumE List.length els) = -1) := ⟨by unfold leftC; rw [if_pos (by omega)]⟩
          clear hs' hs2 h hy hq
          go_wp2_with fail
          refine (htp _).mono ?_
          rintro e1 w1 ⟨rfl, rfl⟩
          go_wp2
          go_ret
          exact ⟨by rw [e0.out]; rfl, hbel⟩
        · rw [if_neg hq] at htp
          have e0 : Shut (y - (m : Int) = x - (n : Int) - (sumE List.length (els.take (k + 1)) : Int)) := ⟨by omega⟩
          clear hs' hs2 h hy
          go_wp2_with fail
          refine (htp _).mono ?_
          rintro e1 w1 ⟨rfl, rfl⟩
          go_wp2
          go_roundw
          case rel =>
            exact ⟨k + 1, by omega, by go_num, hbel, _, rfl, by omega, by omega, e0.out⟩
          case measure => simp [intOf]; omega
      · obtain rfl : k = n := by omega
        have e0 : Shut (leftC x (k + sumE List.length els) = y) := ⟨by
          rw [List.take_of_length_le (by rw [h.len]; exact Nat.le_refl _)] at hy
          unfold leftC
          rw [if_neg (by omega), hy]
          omega⟩
        clear hy
        go_wp2
        go_ret
        exact ⟨by rw [e0.out]; rfl, hbel⟩

set_option maxHeartbeats 1000000 in
theorem eqByteSS_any (A A' : Option Addr) (n c c' : Nat) (els : List (List Int)) (w : World) (h : Lst bytC 1 w A n els) (h' : Lst bytC 1 w A' n els) (hn : n ≤ 140737488351232) (hb : ∀ e ∈ els, e.length ≤ 140737488351232) :
    Calls Try.prog 26 #[.slice A n c, .slice A' n c'] w fun e w' => e = .returned (.bool true) ∧ Below w.heap.size w w' := by
  go_enter Try.func26, Try.ntmps26
  go_wp2
  go_loopw [5] (fun i wr => ∃ k : Nat, k ≤ n ∧ i = .int .i64 k ∧ Below w.heap.size w wr) (fun i _ => n - (intOf i).toNat)
  case atStart =>
    exact ⟨0, Nat.zero_le _, rfl, Below.refl _ _⟩
  case round =>
    obtain ⟨k, hk, rfl, hbel⟩ := hrel
    by_cases hlt : k < n
    · obtain ⟨b, off, e, B, m, d, rfl, hbs, he, h0, hB, hz⟩ := h.getByt hlt
      obtain ⟨b', off', e', B', m', d', rfl, hbs', he', h0', hB', hz'⟩ := h'.getByt hlt
      have hee : e' = e := by have h1 := he.out; have h2 := he'.out; rw [h1] at h2; injection h2 with h2; exact h2.symm
      subst hee
      have hml := hB.len
      have hml' := hB'.len
      obtain rfl : m' = m := by omega
      have hm : m' ≤ 140737488351232 := by have := hb e' (List.mem_of_getElem? he.out); omega
      have hb' := bcell hbel
      have htp : Shut (∀ W, W.cell? ⟨b, off + k, none⟩ = some (.slice B m' d) ∧ W.cell? ⟨b', off' + k, none⟩ = some (.slice B' m' d') ∧ Below w.heap.size w W → Calls Try.prog 83 #[.slice B m' d, .slice B' m' d'] W fun e w' => e = .returned (.bool true) ∧ w'.cell? ⟨b, off + k, none⟩ = some (.slice B m' d) ∧ w'.cell? ⟨b', off' + k, none⟩ = some (.slice B' m' d') ∧ Below w.heap.size w w') :=
        ⟨fun W ⟨y0, y1, y2⟩ => by
          have e1 := eqByteS_any B B' m' d m' d' e' e' W (hB.below y2) (hB'.below y2) hm hm
          simp only [decide_true] at e1
          refine e1.mono ?_
          rintro e w' ⟨h1, q1, rfl⟩
          exact ⟨h1, y0, y1, ad y2 _⟩⟩
      have q0 := (hb'.1 b _ hbs).trans h0
      have q1 := (hb'.1 b' _ hbs').trans h0'
      have hD := ad hbel 1
      clear h h' hml hml' h0 h0' hB hB' hz hz' he he' hm hb'
      go_wp2_with fail
      go_region_held3 (fun W => W.cell? ⟨b, off + k, none⟩ = some (.slice B m' d) ∧ W.cell? ⟨b', off' + k, none⟩ = some (.slice B' m' d') ∧ Below w.heap.size w W)
        (first | (exact ⟨by assumption, by assumption, by assumption⟩) | (exact ⟨q0, q1, hD⟩) | go_keep)
        (first | (go_at_call 83; refine (htp.out _ ?_).mono ?_; (first | assumption | (simp [*]; done)); rintro e1 w1 ⟨rfl, y0, y1, y2⟩))
      go_wp2
      go_roundw
      case rel =>
        exact ⟨k + 1, by omega, by go_num, y2⟩
      case measure => simp [intOf]; omega
    · obtain rfl : k = n := by omega
      go_wp2
      go_ret
      exact ⟨rfl, hbel⟩

set_option maxHeartbeats 2000000 in
theorem markByteSS_any (A : Option Addr) (n c : Nat) (els : List (List Int)) (F : Nat → Prop) (k : Int) (w : World) (h : Lo bytC 1 w F A n els) (hk0 : 0 ≤ k) (hk1 : k ≤ 100000000) (hs : sumE List.length els ≤ 100000000) (hn : n ≤ 100000000) :
    Calls Try.prog 162 #[.slice A n c, .int .i64 k] w fun e w' => e = .returned (.int .i64 (k + (sumE List.length els : Int))) ∧ Lo bytC 1 w' F A n (markE mkB List.length k els) ∧ Tu F w w' := by
  go_enter Try.func162, Try.ntmps162
  go_wp2
  go_loopw [1, 5] (fun r i wr => ∃ j : Nat, j ≤ n ∧ i = .int .i64 j ∧ r = .int .i64 (k + (sumE List.length (els.take j) : Int)) ∧ Lo bytC 1 wr F A n (markd_ mkB List.length k els j) ∧ Tu F w wr) (fun r i _ => n - (intOf i).toNat)
  case atStart =>
    exact ⟨0, Nat.zero_le _, rfl, by simp [sumE], by rw [markd_zero_]; exact h, Tu.refl _ _⟩
  case round =>
    obtain ⟨j, hj, rfl, rfl, hro, htu⟩ := hrel
    by_cases hlt : j < n
    · have he : els[j]? = some (els[j]'(by rw [h.len]; exact hlt)) := List.getElem?_eq_getElem _
      generalize els[j]'(by rw [h.len]; exact hlt) = e at he
      obtain ⟨g, off, G, rfl, hF, hg, hfz, hG, hc, hup⟩ := hro.upd (fun _ => rfl) (markd_get_ mkB List.length k he)
      obtain ⟨x0, c0, B, m, d, rfl, ho, hz⟩ := hc 0 _ rfl
      have hst := markd_set_ mkB List.length k he
      have hs1 := sumE_take_succ List.length he
      have hs2 := sumE_take_le List.length els (j + 1)
      have hml := ho.len
      obtain ⟨y, hy⟩ : ∃ y, y = k + (sumE List.length (els.take j) : Int) := ⟨_, rfl⟩
      rw [← hy] at hst ⊢
      have hy0 : 0 ≤ y := by omega
      have hy1 : y + (m : Int) ≤ 200000000 := by omega
      have hm : m ≤ 100000000 := by omega
      have e1 : Shut (y + (m : Int) = k + (sumE List.length (els.take (j + 1)) : Int)) := ⟨by omega⟩
      have Hml := Shut.mk hml
      have hne := ho.apart (b := g) (fun hb => (hG 0 g hb).2 rfl)
      have HU := hup
      have Hst := Shut.mk hst
      clear hs1 hs2 hml hy hs hup hc hst
      simp only [Nat.add_zero, Nat.mul_one] at c0
      have hmk := markByteS_any B m d 0 e (y) _ ho.ow0 (by omega) (by omega) (by omega)
      go_wp2_with fail
      refine hmk.mono ?_
      rintro e2 w1 ⟨rfl, how, hon⟩
      have hbg := hon.block g hne
      have p0 := (World.cell?_of_block (a := ⟨g, off + j, none⟩) hbg).trans c0
      have p_ : ∀ i, w1.frozen? ⟨g, i, none⟩ = false := fun i => (World.frozen?_of_block (a := ⟨g, i, none⟩) hbg).trans (hfz i)
      have hsz := hon.size
      clear hmk
      go_wp2
      go_roundw
      case rel =>
        refine ⟨j + 1, by omega, by go_num, by rw [e1.out], ?_, (htu.trans (Tu.ofOnly hon fun h0 a ha => (hG 0 _ (ho.inside h0 a ha)).1))⟩
        rw [← Hst.out]
        refine HU.out _ _ (by omega) (fun i => p_ i) (fun b hFb hbg' hGb hlb => hon.block b (ho.apart (hGb 0))) (fun i hi => World.cell?_of_block (a := ⟨g, i, none⟩) hbg) (fun i d0 hd => ?_)
        rcases i with _ | i <;> simp [bytC, mkB] at hd <;> subst hd
        refine ⟨_, ?_, B, m, d, rfl, ?_, hz⟩
        · rw [Nat.add_zero, Nat.mul_one]
          exact p0
        · rw [Hml.out]
          exact ho.remark how
      case measure => simp [intOf]; omega
    · obtain rfl : j = n := by omega
      go_wp2
      go_ret
      rw [List.take_of_length_le (by rw [h.len]; exact Nat.le_refl _)]
      rw [markd_full_ _ _ _ _ _ h.len] at hro
      exact ⟨rfl, hro, htu⟩

set_option maxHeartbeats 2000000 in
theorem heldByteSS_any (A : Option Addr) (n c : Nat) (els : List (List Int)) (k : Int) (w : World) (h : Lst bytC 1 w A n (markE mkB List.length k els)) (hk0 : 0 ≤ k) (hk1 : k ≤ 100000000) (hs : sumE List.length els ≤ 100000000) (hn : n ≤ 100000000) :
    Calls Try.prog 164 #[.slice A n c, .int .i64 k] w fun e w' => e = .returned (.int .i64 (k + (sumE List.length els : Int))) ∧ Below w.heap.size w w' := by
  have hel : els.length = n := by rw [← markE_len mkB List.length k els]; exact h.len
  go_enter Try.func164, Try.ntmps164
  go_wp2
  go_loopw [1, 5] (fun r i wr => ∃ j : Nat, j ≤ n ∧ i = .int .i64 j ∧ r = .int .i64 (k + (sumE List.length (els.take j) : Int)) ∧ Below w.heap.size w wr) (fun r i _ => n - (intOf i).toNat)
  case atStart =>
    exact ⟨0, Nat.zero_le _, rfl, by simp [sumE], Below.refl _ _⟩
  case round =>
    obtain ⟨j, hj, rfl, rfl, hbel⟩ := hrel
    by_cases hlt : j < n
    · have he : els[j]? = some (els[j]'(by omega)) := List.getElem?_eq_getElem _
      generalize els[j]'(by omega) = e at he
      obtain ⟨b, off, e', B, m, d, rfl, hbs, he', h0, hB, hz⟩ := h.getByt hlt
      have hee := he'.out
      rw [markE_get mkB List.length k he] at hee
      injection hee with hee
      have hs1 := sumE_take_succ List.length he
      have hs2 := sumE_take_le List.length els (j + 1)
      obtain ⟨y, hy⟩ : ∃ y, y = k + (sumE List.length (els.take j) : Int) := ⟨_, rfl⟩
      rw [← hy] at hee ⊢
      subst hee
      have hml : e.length = m := by have := hB.len; rw [← this]; exact (marks_len _ _).symm
      have hy0 : 0 ≤ y := by omega
      have hy1 : y + (m : Int) ≤ 200000000 := by omega
      have hm : m ≤ 100000000 := by omega
      have e1 : Shut (y + (m : Int) = k + (sumE List.length (els.take (j + 1)) : Int)) := ⟨by omega⟩
      simp only [mkB, hml] at hB
      have hmk := heldByteS_any B m d (y) wr (hB.below hbel) (by omega) (by omega) (by omega)
      have hb' := bcell hbel
      clear hs1 hs2 hml hy hs he he' h hel
      have t1 : decide (y + (m : Int) < 0) = false := by simp; omega
      go_wp2_with fail
      refine hmk.mono ?_
      rintro e2 w1 ⟨rfl, rfl⟩
      clear hmk
      go_wp2
      go_roundw
      case rel => exact ⟨j + 1, by omega, by go_num, by rw [e1.out], hbel⟩
      case measure => simp [intOf]; omega
    · obtain rfl : j = n := by omega
      have Hel := Shut.mk hel
      clear hel
      go_wp2
      go_ret
      rw [List.take_of_length_le (by rw [Hel.out]; exact Nat.le_refl _)]
      exact ⟨rfl, hbel⟩

end Go.Proofs.Ytgmbofoneeagiaa
