/- What came, heard by the model's receiver, at any place. -/
import Derived.Test.YtpaemmoopjkppaaHolM
import Derived.Test.YtpaemmoopjkppaaCelS
import Derived.Test.YtpaemmoopjkppaaSldH
import Derived.Deep.CutRange
namespace Go.Proofs.Ytpaemmoopjkppaa
open Go.RowKit

set_option maxRecDepth 100000 in
theorem step_row_joinL {ops : Array Oper} {o : Oper} {a : Act} {K : Act → World → Prop} {Q : Exit → Act → World → Prop} {E : Prop} (hgd : o.guard = none) (s x : Operand)
    (ho : o.op = .call { callee := .builtin .append, args := #[s, x], argTypes := #[23, 23] })
    (w : World) (B : Nat) (v : Value) (l r : List Int) (hs : a.eval s = v) (hrow : Row w B v l) (hB : B ≤ w.heap.size)
    (A : Option Addr) (n c : Nat) (hx : a.eval x = .slice A n c) (hbs : Bs w A n r) (hcap : A = none → c = 0) (hlen : l.length + n ≤ 140737488351232)
    (h : ∀ v' w', Row w' B v' (l ++ r) → Below B w w' → w.heap.size ≤ w'.heap.size → Lay w v v' → Else v w w' → K (a.put o.dst v') w') :
    if Region.wanted o (yielded ops a.tmps) = true then Oper.wp Try.prog o a w K Q else E := by
  have hw : Region.wanted o (yielded ops a.tmps) = true := by simp [Region.wanted, hgd]
  rw [if_pos hw]
  obtain ⟨i0, hi, hz0, hz1, hz2⟩ := info_parts info_u8
  have hrl := hbs.len
  cases A with
  | none =>
    have hn0 : n = 0 := by
      rcases Nat.eq_zero_or_pos n with h0 | h0
      · exact h0
      · obtain ⟨b, off, e, _⟩ := hbs.at_ h0
        cases e
    have hc0 := hcap rfl
    subst hn0 hc0
    obtain rfl : r = [] := List.eq_nil_of_length_eq_zero hrl
    have hrun := run_append_owned_none (P := Try.prog) (w := w) B 23 o.type 5 i0 1 Try.underlying23 hi v _ _ hrow.own
    unfold Oper.wp
    simp [execOp, ho, resolve, invoke, builtin, hs, hx, hrun, Result.andThen]
    exact h v w (by rw [List.append_nil]; exact hrow) (Below.refl _ _) (Nat.le_refl _) (.inl rfl) (fun _ _ _ => rfl)
  | some ad =>
    have hcell : ∀ j u, (r.map (Value.int .u8))[j]? = some u → w.cell? (ad.add j) = some u := by
      intro j u hu
      have hj : j < r.length := by
        rcases Nat.lt_or_ge j r.length with h1 | h1
        · exact h1
        · rw [List.getElem?_eq_none (by simpa using h1)] at hu; cases hu
      obtain ⟨b, off, e, _, hc⟩ := hbs.at_ (by omega)
      injection e with e
      subst e
      have hadd : (⟨b, off, none⟩ : Addr).add j = ⟨b, off + j, none⟩ := by unfold Addr.add; split <;> simp_all
      rw [hadd, hc j (by omega)]
      rw [List.getElem?_map, List.getElem?_eq_getElem hj] at hu
      simpa [List.getD, List.getElem?_eq_getElem hj] using hu
    obtain ⟨v', w', hr, hown, hgrow, _, hat⟩ := run_append_own_at (P := Try.prog) w B 23 o.type 5 i0 (.int .u8 0) 1 1 Try.underlying23 hi hz0 hz1 hz2 rfl (by decide) v l.length _ hrow.own ad n c (r.map (Value.int .u8)) (by simp [hrl]) hcell
      (fun u hu => by obtain ⟨y, _, rfl⟩ := List.mem_map.1 hu; rfl) (by unfold maxLen; omega) (by omega) hB
    unfold Oper.wp execOp
    simp only [ho, resolve, invoke, builtin, Sem.run_bind, Sem.run_pure, Result.andThen_ok, List.map_toArray, List.map_cons, List.map_nil, hs, hx, hr]
    refine h v' w' ⟨hrow.byte.append hbs.byte, ?_⟩ ⟨hgrow.os, hgrow.tape, hgrow.output, hgrow.size, fun k hk => hgrow.block k (by omega) (fun e => ?_)⟩ hgrow.size hat (fun g hg hne => hgrow.block g hg (fun e => hne e.symm))
    · rw [List.length_append, List.map_append, hrl]; exact hown
    · have := (hrow.own.lt k e.symm).1
      omega

theorem hasH_true {s : Int} {l : List HeldD} {k : Nat} {e : HeldD} (he : l[k]? = some e) (h : e.f0 = s) : hasH s l = true := by
  unfold hasH
  rw [List.any_eq_true]
  exact ⟨e, List.mem_of_getElem? he, by simpa using h⟩
theorem hasH_false {s : Int} {l : List HeldD} (h : ∀ (k : Nat) (e : HeldD), l[k]? = some e → e.f0 ≠ s) : hasH s l = false := by
  unfold hasH
  rw [List.any_eq_false]
  intro e he
  obtain ⟨k, hk⟩ := List.mem_iff_getElem?.1 he
  simpa using h k e hk

set_option linter.unusedVariables false in
set_option maxRecDepth 100000 in
set_option maxHeartbeats 4000000 in
theorem l8DataNo_any (g o gc : Nat) (L : List Value) (T : TypeId) (next : Int) (A : Option Addr) (n c : Nat) (els : List HeldD) (kd ack mask : Int) (x : HeldD) (B : Option Addr) (m d : Nat) (w : World) (hS : Stc w g L T) (l0 : L[o]? = some (.int .i64 next)) (l1 : L[o + 1]? = some (.slice A n c)) (hC : Stc w gc [.int .i64 kd, .int .i64 x.f0, .int .i64 ack, .int .i64 mask, .bool x.f2, .slice B m d] 38) (h : Lst HeldD.cels 3 w A n els) (hn : n ≤ 1000) (hb0 : 0 ≤ next) (hb1 : next ≤ 10000) (hc : canH next x.f0 els = false) :
    Calls Try.prog 38 #[.pointer (some ⟨g, o, none⟩), .pointer (some ⟨gc, 0, none⟩)] w fun e w' => e = .returned (.slice none 0 0) ∧ Below w.heap.size w w' := by
  have v0 := hS.cell (i := o) l0
  have v1 := hS.cell (i := o + 1) l1
  have c1 := hC.cell (i := 1) rfl
  have hg := hS.lt
  have hgc := hC.lt
  have Hl := Shut.mk h.len
  by_cases q0 : x.f0 < next
  · have t0 : decide (x.f0 < next) = true := by simpa using q0
    clear hc h
    go_enter Try.func38, Try.ntmps38
    go_wp2
    go_quiet (fail)
    go_wp2
    go_ret
    exact ⟨rfl, below_drewN (Below.refl w.heap.size w) nq⟩
  have t0 : decide (x.f0 < next) = false := by simpa using q0
  by_cases q1 : x.f0 > next + 7
  · have t1 : decide (x.f0 > next + 7) = true := by simpa using q1
    clear hc h
    go_enter Try.func38, Try.ntmps38
    go_wp2
    go_quiet (fail)
    go_wp2
    go_ret
    exact ⟨rfl, below_drewN (Below.refl w.heap.size w) nq⟩
  have t1 : decide (x.f0 > next + 7) = false := by simpa using q1
  have hh : hasH x.f0 els = true := by
    unfold canH at hc
    rw [decide_eq_true (by omega)] at hc
    simpa using hc
  have Hh := Shut.mk hh
  clear hc hh
  go_enter Try.func38, Try.ntmps38
  go_wp2
  go_quiet (fail)
  have bN := below_drewN (Below.refl w.heap.size w) nq
  go_wp2
  go_loopw [35] (fun i wr => ∃ k : Nat, k ≤ n ∧ i = .int .i64 k ∧ Shut (∀ (j : Nat) (e : HeldD), j < k → els[j]? = some e → e.f0 ≠ x.f0) ∧ Below w.heap.size w wr) (fun i _ => n - (intOf i).toNat)
  case atStart => exact ⟨0, Nat.zero_le _, rfl, ⟨fun j e h => by omega⟩, bN⟩
  case round =>
    obtain ⟨k, hk, rfl, hall, hbel⟩ := hrel
    have hb' := bcell hbel
    by_cases hlt : k < n
    · obtain ⟨b, off, e, Be, me, ce, rfl, hbs, he, g0, g1, g2, hB, hz'⟩ := h.getHeld hlt
      by_cases hq : e.f0 = x.f0
      · have t2 : (e.f0 == x.f0) = true := by simpa using hq
        clear h hB hq hall
        go_wp2_with fail
        go_quiet (fail)
        replace hbel := ad hbel nq
        go_wp2
        go_ret
        exact ⟨rfl, hbel⟩
      · have t2 : (e.f0 == x.f0) = false := by simpa using hq
        have hall2 : Shut (∀ (j : Nat) (e : HeldD), j < k + 1 → els[j]? = some e → e.f0 ≠ x.f0) := ⟨fun j e2 hj he2 => by
          rcases Nat.lt_or_ge j k with h1 | h1
          · exact hall.out j e2 h1 he2
          · obtain rfl : j = k := by omega
            rw [he.out] at he2
            injection he2 with he2
            exact he2 ▸ hq⟩
        clear h hB hq hall
        go_wp2_with fail
        go_quiet (fail)
        replace hbel := ad hbel nq
        generalize wr.drewN nq = w5 at *
        go_wp2
        go_roundw
        case rel => exact ⟨k + 1, by omega, by go_num, hall2, hbel⟩
        case measure => simp [intOf]; omega
    · exfalso
      have := Hh.out
      rw [hasH_false fun j e he => hall.out j e (by have := (List.getElem?_eq_some_iff.1 he).1; rw [Hl.out] at this; omega) he] at this
      cases this

/-- a receiver's three cells among those of a struct -/
def set3 (L : List Value) (o : Nat) (a b c : Value) : List Value := ((L.set o a).set (o + 1) b).set (o + 2) c
theorem set3_len (L : List Value) (o : Nat) (a b c : Value) : (set3 L o a b c).length = L.length := by simp [set3]
theorem set3_0 {L : List Value} {o : Nat} {a b c : Value} (h : o + 2 < L.length) : (set3 L o a b c)[o]? = some a := by
  unfold set3
  rw [List.getElem?_set_ne (by omega), List.getElem?_set_ne (by omega), List.getElem?_set_self (by omega)]
theorem set3_1 {L : List Value} {o : Nat} {a b c : Value} (h : o + 2 < L.length) : (set3 L o a b c)[o + 1]? = some b := by
  unfold set3
  rw [List.getElem?_set_ne (by omega), List.getElem?_set_self (by simp; omega)]
theorem set3_2 {L : List Value} {o : Nat} {a b c : Value} (h : o + 2 < L.length) : (set3 L o a b c)[o + 2]? = some c := by
  unfold set3
  rw [List.getElem?_set_self (by simp; omega)]
theorem set3_set0 (L : List Value) (o : Nat) (a b c v : Value) : (set3 L o a b c).set o v = set3 L o v b c := by
  unfold set3
  rw [List.set_comm _ _ (by omega : o + 2 ≠ o), List.set_comm _ _ (by omega : o + 1 ≠ o), List.set_set]
theorem set3_set1 (L : List Value) (o : Nat) (a b c v : Value) : (set3 L o a b c).set (o + 1) v = set3 L o a v c := by
  unfold set3
  rw [List.set_comm _ _ (by omega : o + 2 ≠ o + 1), List.set_set]
theorem set3_set2 (L : List Value) (o : Nat) (a b c v : Value) : (set3 L o a b c).set (o + 2) v = set3 L o a b v := by
  unfold set3
  rw [List.set_set]
theorem set3_self {L : List Value} {o : Nat} {a b c : Value} (h0 : L[o]? = some a) (h1 : L[o + 1]? = some b) (h2 : L[o + 2]? = some c) : set3 L o a b c = L := by
  unfold set3
  have e : ∀ (l : List Value) (i : Nat) (v : Value), l[i]? = some v → l.set i v = l := fun l i v h => by
    obtain ⟨hi, rfl⟩ := List.getElem?_eq_some_iff.1 h
    exact List.set_getElem_self hi
  rw [e L o a h0, e L (o + 1) b h1, e L (o + 2) c h2]

theorem Lo.headH {w : World} {F : Nat → Prop} {b off n : Nat} {e : HeldD} {r : List HeldD} (h : Lo HeldD.cels 3 w F (some ⟨b, off, none⟩) (n + 1) (e :: r)) : F b ∧ b < w.heap.size ∧ ∃ B m c, w.cell? ⟨b, off, none⟩ = some (.int .i64 e.f0) ∧ w.cell? ⟨b, off + 1, none⟩ = some (.slice B m c) ∧ w.cell? ⟨b, off + 2, none⟩ = some (.bool e.f2) ∧ Bo w F B m e.f1 ∧ (B = none → c = 0) := by
  obtain ⟨G, hG, _, hel⟩ := h.openH
  obtain ⟨g, off', B, m, c, e1, hF, hlt, _, g0, g1, g2, hb, hz⟩ := hel 0 e rfl
  injection e1 with e1
  injection e1 with e2 e3 _
  subst e2 e3
  simp only [Nat.zero_mul, Nat.add_zero] at g0 g1 g2
  exact ⟨hF, hlt, B, m, c, g0, g1, g2, hb.wider (hG 0), hz⟩

theorem Tu.more {F G : Nat → Prop} {w a b c : World} (h : Tu F w a) (B : Below a.heap.size a b) (t : Tu G b c) (hG : ∀ q, G q → w.heap.size ≤ q) : Tu F w c :=
  ⟨t.os.trans (B.os.trans h.os), t.tape.trans (B.tape.trans h.tape), t.output.trans (B.output.trans h.output), Nat.le_trans h.size (Nat.le_trans B.size t.size), fun k hk hx => by
    have := h.size
    have := B.size
    exact (t.block k (by omega) (fun hg => by have := hG k hg; omega)).trans ((B.block k (by omega)).trans (h.block k hk hx))⟩
def cntD (g o : Nat) (w : World) : Nat := match w.cell? ⟨g, o + 1, none⟩ with | some (.slice _ n _) => n | _ => 0

set_option linter.unusedVariables false in
set_option maxRecDepth 100000 in
set_option maxHeartbeats 8000000 in
theorem l8DataYes_any (g o gc : Nat) (L : List Value) (T : TypeId) (next : Int) (A : Option Addr) (n c : Nat) (els : List HeldD) (kd ack mask : Int) (x : HeldD) (B : Option Addr) (m d : Nat) (P : Option Addr) (np cp : Nat) (l : List Int) (F F2 : Nat → Prop) (w : World) (hS : Stc w g L T) (l0 : L[o]? = some (.int .i64 next)) (l1 : L[o + 1]? = some (.slice A n c)) (l2 : L[o + 2]? = some (.slice P np cp)) (hC : Stc w gc [.int .i64 kd, .int .i64 x.f0, .int .i64 ack, .int .i64 mask, .bool x.f2, .slice B m d] 38) (hgc : gc ≠ g) (h : Lo HeldD.cels 3 w F A n els) (h2 : Bo w F2 P np l) (hzP : P = none → cp = 0) (hbm : Bs w B m x.f1) (hzB : B = none → d = 0)
    (hFl : ∀ b, F b → b < w.heap.size) (hF2l : ∀ b, F2 b → b < w.heap.size) (hFF : ∀ b, F b → ¬ F2 b) (hgF : ¬ F g) (hgF2 : ¬ F2 g) (hn : n ≤ 100) (hnp : np ≤ 200) (hm : m ≤ 32) (hb : ∀ e ∈ els, e.f1.length ≤ 32) (hb0 : 0 ≤ next) (hb1 : next ≤ 10000) (hc : canH next x.f0 els = true) :
    Calls Try.prog 38 #[.pointer (some ⟨g, o, none⟩), .pointer (some ⟨gc, 0, none⟩)] w fun e w' => (∃ vm s1 A' n' c' P' np' cp', ∃ FM FP : Nat → Prop, e = .returned vm ∧ w.heap.size ≤ s1 ∧ s1 ≤ w'.heap.size ∧ Stc w' g (set3 L o (.int .i64 (next + (waitN next (insH x els) : Nat))) (.slice A' n' c') (.slice P' np' cp')) T ∧ n' = ((insH x els).drop (waitN next (insH x els))).length ∧ Rm A' n' c' ∧ Lo HeldD.cels 3 w' (fun b => F b ∨ (w.heap.size ≤ b ∧ b < s1)) A' n' ((insH x els).drop (waitN next (insH x els))) ∧ np' = (putP l ((insH x els).take (waitN next (insH x els)))).length ∧ Bo w' FP P' np' (putP l ((insH x els).take (waitN next (insH x els)))) ∧ (P' = none → cp' = 0) ∧ As bytC 1 23 w' FM vm (putM l ((insH x els).take (waitN next (insH x els)))) ∧ (∀ b, FM b → s1 ≤ b ∧ b < w'.heap.size) ∧ (∀ b, FP b → F2 b ∨ (s1 ≤ b ∧ b < w'.heap.size)) ∧ (∀ b, FM b → ¬ FP b)) ∧ Tu (fun b => b = g) w w' := by
  have v0 := hS.cell (i := o) l0
  have v1 := hS.cell (i := o + 1) l1
  have c1 := hC.cell (i := 1) rfl
  have hg := hS.lt
  have hgcl := hC.lt
  have Hl := Shut.mk h.len
  have HL2 := Shut.mk h2.len
  have hoL : o + 2 < L.length := (List.getElem?_eq_some_iff.1 l2).1
  have L3 : Shut (set3 L o (.int .i64 next) (.slice A n c) (.slice P np cp) = L) := ⟨set3_self l0 l1 l2⟩
  obtain ⟨⟨q0, q1⟩, q2⟩ : (next ≤ x.f0 ∧ x.f0 ≤ next + 7) ∧ hasH x.f0 els = false := by
    unfold canH at hc
    simp only [Bool.and_eq_true, decide_eq_true_eq, Bool.not_eq_true'] at hc
    exact hc
  have t0 : decide (x.f0 < next) = false := by simp; omega
  have t1 : decide (x.f0 > next + 7) = false := by simp; omega
  have hno : Shut (∀ (j : Nat) (e : HeldD), els[j]? = some e → e.f0 ≠ x.f0) := ⟨fun j e he hx => by rw [hasH_true he hx] at q2; cases q2⟩
  obtain ⟨now, hnow⟩ : ∃ y, y = insH x els := ⟨_, rfl⟩
  have Hnl : Shut (now.length = n + 1) := ⟨by rw [hnow, insH_len, Hl.out]⟩
  have Hnow := Shut.mk hnow
  rw [← hnow]
  obtain ⟨q, hq⟩ : ∃ y, y = waitN next now := ⟨_, rfl⟩
  have Hq := Shut.mk hq
  rw [← hq]
  have hnb : Shut (∀ e ∈ now, e.f1.length ≤ 32) := ⟨by
    rw [hnow, insH_eq]
    intro e he
    rcases List.mem_append.1 he with h1 | h1
    · exact hb e (List.mem_of_mem_take h1)
    · rcases List.mem_cons.1 h1 with rfl | h1
      · rw [hbm.len]; exact hm
      · exact hb e (List.mem_of_mem_drop h1)⟩
  clear hc q2 hnow hq
  go_enter Try.func38, Try.ntmps38
  go_wp2
  go_quiet (fail)
  have bN := below_drewN (Below.refl w.heap.size w) nq
  go_wp2
  go_loopw [35] (fun i wr => ∃ k : Nat, k ≤ n ∧ i = .int .i64 k ∧ Below w.heap.size w wr) (fun i _ => n - (intOf i).toNat)
  case atStart => exact ⟨0, Nat.zero_le _, rfl, bN⟩
  case round =>
    obtain ⟨k, hk, rfl, hbel⟩ := hrel
    have hb' := bcell hbel
    by_cases hlt : k < n
    · obtain ⟨b, off, e, Be, me, ce, rfl, hbs, he, g0, g1, g2, hB, hz'⟩ := h.rows.getHeld hlt
      have t2 : (e.f0 == x.f0) = false := by simpa using hno.out k e he.out
      clear h hB
      go_wp2_with fail
      go_quiet (fail)
      replace hbel := ad hbel nq
      generalize wr.drewN nq = w5 at *
      go_wp2
      go_roundw
      case rel => exact ⟨k + 1, by omega, by go_num, hbel⟩
      case measure => simp [intOf]; omega
    · obtain rfl : k = n := by omega
      have hS5 := hS.below hbel hg
      have hC5 := hC.below hbel hgcl
      have h5 := h.below hbel (Nat.le_refl _)
      have h25 := h2.below hbel (Nat.le_refl _)
      have hbm5 := hbm.below hbel
      have hz5 := hbel.size
      clear h h2 hbm hS hC v0 v1 c1 hb'
      have v1 := hS5.cell (i := o + 1) l1
      have vf := hS5.frozen
      have c1 := hC5.cell (i := 1) rfl
      have c4 := hC5.cell (i := 4) rfl
      have c5 := hC5.cell (i := 5) rfl
      have hcp := fun W (hh : Below wr.heap.size wr W) => copy_own B m d x.f1 W (hbm5.below hh) hzB (by omega)
      have hgr : g < wr.heap.size := hS5.lt
      have v1d : wr.drew.cell? ⟨g, o + 1, none⟩ = some (.slice A k c) := v1
      go_wp2_with fail
      refine wp_region_noPanic ?_
      refine wp_region_held_drew (S := fun W => W.cell? ⟨gc, 1, none⟩ = some (.int .i64 x.f0) ∧ W.cell? ⟨gc, 4, none⟩ = some (.bool x.f2) ∧ W.cell? ⟨gc, 5, none⟩ = some (.slice B m d)) (by kernel_rfl) ?_ (fun hHeld => ?_)
      · exact ⟨c1, c4, c5⟩
      refine wpAnyH_take (i := 0) (oi := _) (v := .pointer (some ⟨g, o, none⟩)) rfl (by kernel_rfl) (by kernel_rfl) (by kernel_rfl) (fun _ _ _ h => h) (Or.inl ⟨by rfl, by intro W hSw; obtain ⟨z0, z1, z2⟩ := hSw; go_simp⟩) (by assumption) ?_
      refine wpAnyH_take (i := 1) (oi := _) (v := .pointer (some ⟨g, o, none⟩)) rfl (by kernel_rfl) (by kernel_rfl) (by kernel_rfl) (fun _ _ _ h => h) (Or.inl ⟨by rfl, by intro W hSw; obtain ⟨z0, z1, z2⟩ := hSw; go_simp⟩) (by assumption) ?_
      refine wpAnyH_take (i := 2) (oi := _) (v := .pointer (some ⟨g, o, none⟩)) rfl (by kernel_rfl) (by kernel_rfl) (by kernel_rfl) (fun _ _ _ h => h) (Or.inl ⟨by rfl, by intro W hSw; obtain ⟨z0, z1, z2⟩ := hSw; go_simp⟩) (by assumption) ?_
      refine wpAnyH_take (i := 3) (oi := _) (v := .pointer (some ⟨g, o + 1, none⟩)) rfl (by kernel_rfl) (by kernel_rfl) (by kernel_rfl) (fun _ _ _ h => h) (Or.inl ⟨by rfl, by intro W hSw; obtain ⟨z0, z1, z2⟩ := hSw; go_simp⟩) (by assumption) ?_
      refine wpAnyH_take (i := 5) (oi := _) (v := .pointer (some ⟨gc, 0, none⟩)) rfl (by kernel_rfl) (by kernel_rfl) (by kernel_rfl) (fun _ _ _ h => h) (Or.inl ⟨by rfl, by intro W hSw; obtain ⟨z0, z1, z2⟩ := hSw; go_simp⟩) (by assumption) ?_
      refine wpAnyH_take (i := 6) (oi := _) (v := .pointer (some ⟨gc, 0, none⟩)) rfl (by kernel_rfl) (by kernel_rfl) (by kernel_rfl) (fun _ _ _ h => h) (Or.inl ⟨by rfl, by intro W hSw; obtain ⟨z0, z1, z2⟩ := hSw; go_simp⟩) (by assumption) ?_
      refine wpAnyH_take (i := 7) (oi := _) (v := .pointer (some ⟨gc, 1, none⟩)) rfl (by kernel_rfl) (by kernel_rfl) (by kernel_rfl) (fun _ _ _ h => h) (Or.inl ⟨by rfl, by intro W hSw; obtain ⟨z0, z1, z2⟩ := hSw; go_simp⟩) (by assumption) ?_
      refine wpAnyH_take (i := 8) (oi := _) (v := .int .i64 x.f0) rfl (by kernel_rfl) (by kernel_rfl) (by kernel_rfl) (fun _ _ _ h => h) (Or.inl ⟨by rfl, by intro W hSw; obtain ⟨z0, z1, z2⟩ := hSw; go_simp⟩) (by assumption) ?_
      refine wpAnyH_take (i := 9) (oi := _) (v := .pointer (some ⟨gc, 0, none⟩)) rfl (by kernel_rfl) (by kernel_rfl) (by kernel_rfl) (fun _ _ _ h => h) (Or.inl ⟨by rfl, by intro W hSw; obtain ⟨z0, z1, z2⟩ := hSw; go_simp⟩) (by assumption) ?_
      refine wpAnyH_take (i := 10) (oi := _) (v := .pointer (some ⟨gc, 0, none⟩)) rfl (by kernel_rfl) (by kernel_rfl) (by kernel_rfl) (fun _ _ _ h => h) (Or.inl ⟨by rfl, by intro W hSw; obtain ⟨z0, z1, z2⟩ := hSw; go_simp⟩) (by assumption) ?_
      refine wpAnyH_take (i := 11) (oi := _) (v := .pointer (some ⟨gc, 5, none⟩)) rfl (by kernel_rfl) (by kernel_rfl) (by kernel_rfl) (fun _ _ _ h => h) (Or.inl ⟨by rfl, by intro W hSw; obtain ⟨z0, z1, z2⟩ := hSw; go_simp⟩) (by assumption) ?_
      refine wpAnyH_take (i := 12) (oi := _) (v := .slice B m d) rfl (by kernel_rfl) (by kernel_rfl) (by kernel_rfl) (fun _ _ _ h => h) (Or.inl ⟨by rfl, by intro W hSw; obtain ⟨z0, z1, z2⟩ := hSw; go_simp⟩) (by assumption) ?_
      refine wpAnyH_take (i := 14) (oi := _) (v := .pointer (some ⟨gc, 0, none⟩)) rfl (by kernel_rfl) (by kernel_rfl) (by kernel_rfl) (fun _ _ _ h => h) (Or.inl ⟨by rfl, by intro W hSw; obtain ⟨z0, z1, z2⟩ := hSw; go_simp⟩) (by assumption) ?_
      refine wpAnyH_take (i := 15) (oi := _) (v := .pointer (some ⟨gc, 0, none⟩)) rfl (by kernel_rfl) (by kernel_rfl) (by kernel_rfl) (fun _ _ _ h => h) (Or.inl ⟨by rfl, by intro W hSw; obtain ⟨z0, z1, z2⟩ := hSw; go_simp⟩) (by assumption) ?_
      refine wpAnyH_take (i := 16) (oi := _) (v := .pointer (some ⟨gc, 4, none⟩)) rfl (by kernel_rfl) (by kernel_rfl) (by kernel_rfl) (fun _ _ _ h => h) (Or.inl ⟨by rfl, by intro W hSw; obtain ⟨z0, z1, z2⟩ := hSw; go_simp⟩) (by assumption) ?_
      refine wpAnyH_take (i := 17) (oi := _) (v := .bool x.f2) rfl (by kernel_rfl) (by kernel_rfl) (by kernel_rfl) (fun _ _ _ h => h) (Or.inl ⟨by rfl, by intro W hSw; obtain ⟨z0, z1, z2⟩ := hSw; go_simp⟩) (by assumption) ?_
      refine wpAnyH_ready (rs := [4, 13]) (by kernel_rfl) (by simp) (AllReadyH.cons (o := _) rfl (fun K hK => ?_) (AllReadyH.cons (o := _) rfl (fun K hK => ?_) AllReadyH.nil))
      rw [if_pos (by rfl)]
      go_simp
      refine hK.out _ _ hHeld (fun _ => ?_)
      clear hK K
      refine wpAnyH_ready (rs := [13]) (by kernel_rfl) (by simp) (AllReadyH.cons (o := _) rfl (fun K hK => ?_) AllReadyH.nil)
      rw [if_pos (by rfl)]
      go_simp
      refine (hcp wr.drew (Below.refl wr.heap.size wr).drew).mono ?_
      rintro x1 w1 ⟨⟨A1, cc, rfl, ho1, hr1⟩, b1⟩
      have b1' := (Below.refl wr.heap.size wr).drew.trans b1
      have S6 := hS5.below b1' hS5.lt
      have C6 := hC5.below b1' hC5.lt
      have h6 := h5.below b1' (Nat.le_refl _)
      have bo6 : Bo w1 (fun b => wr.heap.size ≤ b ∧ b < w1.heap.size) A1 m x.f1 := Bo.ofOw ho1 (fun b _ _ p q => ⟨p, q⟩)
      have k1 := S6.cell (i := o + 1) l1
      have hs1 : w1.cell? ⟨gc, 1, none⟩ = some (.int .i64 x.f0) ∧ w1.cell? ⟨gc, 4, none⟩ = some (.bool x.f2) ∧ w1.cell? ⟨gc, 5, none⟩ = some (.slice B m d) := ⟨C6.cell (i := 1) rfl, C6.cell (i := 4) rfl, C6.cell (i := 5) rfl⟩
      refine hK.out _ _ hs1 (fun _ => ?_)
      clear hK K
      refine wpAnyH_take (i := 18) (oi := _) (v := .agg #[.int .i64 x.f0, .slice A1 m cc, .bool x.f2]) rfl (by kernel_rfl) (by kernel_rfl) (by kernel_rfl) (fun _ _ _ h => h) (Or.inl ⟨by rfl, by intro W hSw; obtain ⟨z0, z1, z2⟩ := hSw; go_simp⟩) (by assumption) ?_
      refine wpAnyH_ready (rs := [19]) (by kernel_rfl) (by simp) (AllReadyH.cons (o := _) rfl (fun K hK => ?_) AllReadyH.nil)
      rw [if_pos (by rfl)]
      go_simp
      refine (l8Hold_any A k c els x A1 m cc F (fun b => wr.heap.size ≤ b ∧ b < w1.heap.size) w1 h6 bo6 hr1.2 (fun b hb => by have := hFl b hb; have := b1'.size; omega) (fun b hb => hb.2) (fun b hb hF => by have := hFl b hF; omega) (by omega)).mono ?_
      rintro x2 w2 ⟨⟨A2, c2, rfl, hr2, hlo2⟩, b2⟩
      have S7 := S6.below b2 S6.lt
      have C7 := C6.below b2 C6.lt
      have k7 := S7.cell (i := o + 1) l1
      have kf := S7.frozen
      have hs2 : w2.cell? ⟨gc, 1, none⟩ = some (.int .i64 x.f0) ∧ w2.cell? ⟨gc, 4, none⟩ = some (.bool x.f2) ∧ w2.cell? ⟨gc, 5, none⟩ = some (.slice B m d) := ⟨C7.cell (i := 1) rfl, C7.cell (i := 4) rfl, C7.cell (i := 5) rfl⟩
      refine hK.out _ _ hs2 (fun _ => ?_)
      clear hK K
      refine wpAnyH_take (i := 20) (oi := _) (v := .pointer (some ⟨g, o, none⟩)) rfl (by kernel_rfl) (by kernel_rfl) (by kernel_rfl) (fun _ _ _ h => h) (Or.inl ⟨by rfl, by intro W hSw; obtain ⟨z0, z1, z2⟩ := hSw; go_simp⟩) (by assumption) ?_
      refine wpAnyH_take (i := 21) (oi := _) (v := .pointer (some ⟨g, o + 1, none⟩)) rfl (by kernel_rfl) (by kernel_rfl) (by kernel_rfl) (fun _ _ _ h => h) (Or.inl ⟨by rfl, by intro W hSw; obtain ⟨z0, z1, z2⟩ := hSw; go_simp⟩) (by assumption) ?_
      refine wpAnyH_ready (rs := [22]) (by kernel_rfl) (by simp) (AllReadyH.cons (o := _) rfl (fun K hK => ?_) AllReadyH.nil)
      rw [if_pos (by rfl)]
      go_simp
      have C8 := C7.far (p := ⟨g, o + 1, none⟩) (by exact hgc) (.slice A2 (k + 1) c2)
      refine hK.out _ _ ⟨C8.cell (i := 1) rfl, C8.cell (i := 4) rfl, C8.cell (i := 5) rfl⟩ (fun _ => ?_)
      clear hK K
      refine wpAnyH_done (by kernel_rfl) (NoPanic.normal ?_) _
      try simp only [List.getElem_toArray, List.getElem_cons_succ, List.getElem_cons_zero, Act.put, List.setIfInBounds_toArray, List.set_cons_zero, List.set_cons_succ]
      rotate_left
      rw [if_pos (by rfl)]
      go_simp
      refine (hcp wr.drew (Below.refl wr.heap.size wr).drew).mono ?_
      rintro x1 w1 ⟨⟨A1, cc, rfl, ho1, hr1⟩, b1⟩
      have b1' := (Below.refl wr.heap.size wr).drew.trans b1
      have S6 := hS5.below b1' hS5.lt
      have C6 := hC5.below b1' hC5.lt
      have h6 := h5.below b1' (Nat.le_refl _)
      have bo6 : Bo w1 (fun b => wr.heap.size ≤ b ∧ b < w1.heap.size) A1 m x.f1 := Bo.ofOw ho1 (fun b _ _ p q => ⟨p, q⟩)
      have k1 := S6.cell (i := o + 1) l1
      have hs1 : w1.cell? ⟨gc, 1, none⟩ = some (.int .i64 x.f0) ∧ w1.cell? ⟨gc, 4, none⟩ = some (.bool x.f2) ∧ w1.cell? ⟨gc, 5, none⟩ = some (.slice B m d) := ⟨C6.cell (i := 1) rfl, C6.cell (i := 4) rfl, C6.cell (i := 5) rfl⟩
      refine hK.out _ _ hs1 (fun _ => ?_)
      clear hK K
      refine wpAnyH_take (i := 18) (oi := _) (v := .agg #[.int .i64 x.f0, .slice A1 m cc, .bool x.f2]) rfl (by kernel_rfl) (by kernel_rfl) (by kernel_rfl) (fun _ _ _ h => h) (Or.inl ⟨by rfl, by intro W hSw; obtain ⟨z0, z1, z2⟩ := hSw; go_simp⟩) (by assumption) ?_
      refine wpAnyH_ready (rs := [4]) (by kernel_rfl) (by simp) (AllReadyH.cons (o := _) rfl (fun K hK => ?_) AllReadyH.nil)
      rw [if_pos (by rfl)]
      go_simp
      refine hK.out _ _ hs1 (fun _ => ?_)
      clear hK K
      refine wpAnyH_ready (rs := [19]) (by kernel_rfl) (by simp) (AllReadyH.cons (o := _) rfl (fun K hK => ?_) AllReadyH.nil)
      rw [if_pos (by rfl)]
      go_simp
      refine (l8Hold_any A k c els x A1 m cc F (fun b => wr.heap.size ≤ b ∧ b < w1.heap.size) w1 h6 bo6 hr1.2 (fun b hb => by have := hFl b hb; have := b1'.size; omega) (fun b hb => hb.2) (fun b hb hF => by have := hFl b hF; omega) (by omega)).mono ?_
      rintro x2 w2 ⟨⟨A2, c2, rfl, hr2, hlo2⟩, b2⟩
      have S7 := S6.below b2 S6.lt
      have C7 := C6.below b2 C6.lt
      have k7 := S7.cell (i := o + 1) l1
      have kf := S7.frozen
      have hs2 : w2.cell? ⟨gc, 1, none⟩ = some (.int .i64 x.f0) ∧ w2.cell? ⟨gc, 4, none⟩ = some (.bool x.f2) ∧ w2.cell? ⟨gc, 5, none⟩ = some (.slice B m d) := ⟨C7.cell (i := 1) rfl, C7.cell (i := 4) rfl, C7.cell (i := 5) rfl⟩
      refine hK.out _ _ hs2 (fun _ => ?_)
      clear hK K
      refine wpAnyH_take (i := 20) (oi := _) (v := .pointer (some ⟨g, o, none⟩)) rfl (by kernel_rfl) (by kernel_rfl) (by kernel_rfl) (fun _ _ _ h => h) (Or.inl ⟨by rfl, by intro W hSw; obtain ⟨z0, z1, z2⟩ := hSw; go_simp⟩) (by assumption) ?_
      refine wpAnyH_take (i := 21) (oi := _) (v := .pointer (some ⟨g, o + 1, none⟩)) rfl (by kernel_rfl) (by kernel_rfl) (by kernel_rfl) (fun _ _ _ h => h) (Or.inl ⟨by rfl, by intro W hSw; obtain ⟨z0, z1, z2⟩ := hSw; go_simp⟩) (by assumption) ?_
      refine wpAnyH_ready (rs := [22]) (by kernel_rfl) (by simp) (AllReadyH.cons (o := _) rfl (fun K hK => ?_) AllReadyH.nil)
      rw [if_pos (by rfl)]
      go_simp
      have C8 := C7.far (p := ⟨g, o + 1, none⟩) (by exact hgc) (.slice A2 (k + 1) c2)
      refine hK.out _ _ ⟨C8.cell (i := 1) rfl, C8.cell (i := 4) rfl, C8.cell (i := 5) rfl⟩ (fun _ => ?_)
      clear hK K
      refine wpAnyH_done (by kernel_rfl) (NoPanic.normal ?_) _
      try simp only [List.getElem_toArray, List.getElem_cons_succ, List.getElem_cons_zero, Act.put, List.setIfInBounds_toArray, List.set_cons_zero, List.set_cons_succ]
      all_goals
        have S8 := S7.set_ (i := o + 1) (.slice A2 (k + 1) c2)
        have e8 := set3_set1 L o (.int .i64 next) (.slice A k c) (.slice P np cp) (.slice A2 (k + 1) c2)
        rw [L3.out] at e8
        rw [e8] at S8
        clear e8
        have B2 : Below w.heap.size w w2 := (hbel.trans (b1'.mono hz5)).trans (b2.mono (by have := b1'.size; omega))
        have T8 := (Tu.ofBelow (F := fun b => b = g) B2).set_ (p := ⟨g, o + 1, none⟩) rfl (.slice A2 (k + 1) c2)
        have C8b := (C7.far (p := ⟨g, o + 1, none⟩) (by exact hgc) (.slice A2 (k + 1) c2))
        have TX := (Tu.refl (fun b => b = g) w2).set_ (p := ⟨g, o + 1, none⟩) rfl (.slice A2 (k + 1) c2)
        rw [← Hnow.out] at hlo2
        have hlo8 := (hlo2.tu TX (fun b hb e => by rcases hb with h | h | h; exact hgF (e ▸ h); have h3 : b = g := e; omega; have h3 : b = g := e; have := b1'.size; omega)).wider (H := fun b => F b ∨ (w.heap.size ≤ b ∧ b < w2.heap.size)) (fun b hb => by rcases hb with h | h | h; exact .inl h; exact .inr ⟨by omega, by have := b2.size; omega⟩; exact .inr ⟨by have := b1'.size; omega, h.2⟩)
        have h28 := ((h25.below b1' (Nat.le_refl _)).below b2 (Nat.le_refl _)).tu TX (fun b hb e => hgF2 (e ▸ hb))
        have z8 : (w2.setCell ⟨g, o + 1, none⟩ (.slice A2 (k + 1) c2)).heap.size = w2.heap.size := World.size_setCell _ _ _
        generalize hW8 : w2.setCell ⟨g, o + 1, none⟩ (.slice A2 (k + 1) c2) = W8 at *
        obtain ⟨s1, hs1e⟩ : ∃ y, y = w2.heap.size := ⟨_, rfl⟩
        rw [← hs1e] at hlo8 z8
        replace z8 := Shut.mk z8
        have hs1a : w.heap.size ≤ s1 := by have := B2.size; omega
        have HR2 := Shut.mk hr2
        clear hW8 TX S7 C7 S6 C6 h6 bo6 ho1 hr1 h5 h25 hbm5 k7 kf k1 hs1 hs2 C8 hHeld b1' b2 B2 hlo2 hr2 v1 vf c1 c4 c5 v1d hcp hS5 hC5 b1 hbel
        have hs1b := Shut.mk hs1e
        clear hs1e
        go_wp2
        go_loopw [6] (fun vm wr2 => ∃ (j : Nat) (A' : Option Addr) (n' c' : Nat) (P' : Option Addr) (np' cp' : Nat) (FM FP : Nat → Prop), Shut (q = j + waitN (next + (j : Int)) (now.drop j)) ∧ j + n' = k + 1 ∧ Stc wr2 g (set3 L o (.int .i64 (next + (j : Int))) (.slice A' n' c') (.slice P' np' cp')) T ∧ Lo HeldD.cels 3 wr2 (fun b => F b ∨ (w.heap.size ≤ b ∧ b < s1)) A' n' (now.drop j) ∧ Shut (Rm A' n' c') ∧ np' = (putP l (now.take j)).length ∧ Bo wr2 FP P' np' (putP l (now.take j)) ∧ Shut (P' = none → cp' = 0) ∧ As bytC 1 23 wr2 FM vm (putM l (now.take j)) ∧ (∀ b, FM b → s1 ≤ b ∧ b < wr2.heap.size) ∧ (∀ b, FP b → F2 b ∨ (s1 ≤ b ∧ b < wr2.heap.size)) ∧ (∀ b, FM b → ¬ FP b) ∧ Tu (fun b => b = g) w wr2 ∧ s1 ≤ wr2.heap.size) (fun _ wr2 => cntD g o wr2)
        case atStart =>
          have BA := ab (Below.refl W8.heap.size W8) (.cells #[] 23)
          refine ⟨0, A2, k + 1, c2, P, np, cp, fun b => b = W8.heap.size, F2, ?_, by omega, ?_, ?_, HR2, ?_, ?_, ⟨hzP⟩, ?_, ?_, ?_, ?_, ?_, ?_⟩
          · exact ⟨by rw [Hq.out]; simp⟩
          · simpa using S8.below BA S8.lt
          · simpa using hlo8.below BA (Nat.le_refl _)
          · simpa [putP] using h28.len.symm
          · simpa [putP] using h28.below BA (Nat.le_refl _)
          · simpa [putM] using As.made0 (cels := bytC) (sz := 1) W8 (fun b => b = W8.heap.size) rfl
          · intro b hb; have := z8.out; have hb' : b = W8.heap.size := hb; simp; omega
          · intro b hb; exact .inl hb
          · intro b hb hF; have := hF2l b hF; have := z8.out; have hb' : b = W8.heap.size := hb; omega
          · exact T8.trans (Tu.ofBelow BA)
          · have := z8.out; simp; omega
        case round =>
          obtain ⟨j, A', n', c', P', np', cp', FM, FP, hE, hjn, SR, hlo, hrm, hnp', hbo, hzp, has, hFM, hFP, hdis, htu, hsr⟩ := hrel
          clear S8 hlo8 h28 T8 HR2 C8b
          have gl := SR.lt
          have u0 := SR.cell (i := o) (set3_0 hoL)
          have u1 := SR.cell (i := o + 1) (set3_1 hoL)
          have uf := SR.frozen
          have hcnt : cntD g o wr = n' := by unfold cntD; rw [u1]
          have hpl : l.length ≤ 200 := by rw [HL2.out]; exact hnp
          have hpj := putP_len hpl (now.take j)
          rcases Nat.eq_zero_or_pos n' with h0 | h0
          · subst h0
            have hd : now.drop j = [] := List.drop_of_length_le (by rw [Hnl.out]; omega)
            have hE2 : Shut (q = j) := ⟨by rw [hE.out, hd]; rfl⟩
            clear hd
            go_wp2_with fail
            go_quiet (fail)
            go_wp2
            go_ret
            refine ⟨⟨_, s1, A', 0, c', P', np', cp', FM, FP, rfl, hs1a, hsr, ?_, ?_, hrm.out, ?_, ?_, ?_, hzp.out, ?_, hFM, hFP, hdis⟩, htu.drewN _⟩
            · rw [hE2.out]; exact SR.drewN _
            · rw [hE2.out, List.length_drop, Hnl.out]; omega
            · rw [hE2.out]; exact hlo.tu (H := fun _ => False) ((Tu.refl _ _).drewN _) (fun _ _ h => h)
            · rw [hE2.out]; exact hnp'
            · rw [hE2.out]; exact hbo.tu (H := fun _ => False) ((Tu.refl _ _).drewN _) (fun _ _ h => h)
            · rw [hE2.out]; exact has.tu (H := fun _ => False) ((Tu.refl _ _).drewN _) (fun _ _ h => h)
          · obtain ⟨m', rfl⟩ : ∃ m', n' = m' + 1 := ⟨n' - 1, by omega⟩
            obtain ⟨b, off, e, Be, me, ce, rfl, hbl, he, d0, d1, d2, hBe, hz9⟩ := hlo.rows.getHeld (k := 0) (by omega)
            have he2 : now[j]? = some e := by have := he.out; rw [List.getElem?_drop] at this; simpa using this
            simp only [Nat.zero_mul, Nat.add_zero] at d0 d1 d2
            have hgt : decide (((m' + 1 : Nat) : Int) > 0) = true := by simp
            cases hf : (e.f0 == next + (j : Int))
            · have hE2 : Shut (q = j) := ⟨by rw [hE.out, waitN_miss he2 (by simpa using hf)]; rfl⟩
              clear he2 he
              go_wp2_with fail
              go_quiet (fail)
              go_wp2
              go_ret
              refine ⟨⟨_, s1, _, m' + 1, c', P', np', cp', FM, FP, rfl, hs1a, hsr, ?_, ?_, hrm.out, ?_, ?_, ?_, hzp.out, ?_, hFM, hFP, hdis⟩, htu.drewN _⟩
              · rw [hE2.out]; exact SR.drewN _
              · rw [hE2.out, List.length_drop, Hnl.out]; omega
              · rw [hE2.out]; exact hlo.tu (H := fun _ => False) ((Tu.refl _ _).drewN _) (fun _ _ h => h)
              · rw [hE2.out]; exact hnp'
              · rw [hE2.out]; exact hbo.tu (H := fun _ => False) ((Tu.refl _ _).drewN _) (fun _ _ h => h)
              · rw [hE2.out]; exact has.tu (H := fun _ => False) ((Tu.refl _ _).drewN _) (fun _ _ h => h)
            · have hE2 : Shut (q = (j + 1) + waitN (next + ((j + 1 : Nat) : Int)) (now.drop (j + 1))) := ⟨by
                rw [hE.out, waitN_hit he2 (by simpa using hf), show next + (j : Int) + 1 = next + ((j + 1 : Nat) : Int) by push_cast; omega]; omega⟩
              have hem := hnb.out e (List.mem_of_getElem? he2)
              have EP := Shut.mk (putP_snoc l (now.take j) e)
              have EM := Shut.mk (putM_snoc l (now.take j) e)
              rw [← take_snocM he2] at EP EM
              rw [drop_cons he2] at hlo
              have hBe : Bo wr (fun b => F b ∨ (w.heap.size ≤ b ∧ b < s1)) Be me e.f1 := by
                obtain ⟨_, _, B3, m3, c3, _, q1, _, hB3, _⟩ := hlo.headH
                rw [d1] at q1
                injection q1 with q1
                injection q1 with q2 q3 q4
                subst q2 q3
                exact hB3
              have hml := (putM_len hpl (now.take j)).1
              have hmk : (putM l (now.take j)).length ≤ 200 := by rw [List.length_take] at hml; omega
              generalize putP l (now.take j) = LP at *
              generalize putM l (now.take j) = LM at *
              have hFb : F b ∨ (w.heap.size ≤ b ∧ b < s1) := by
                obtain ⟨b2, off2, _, e2, qq, _⟩ := hlo.at_ (by omega)
                injection e2 with e2
                injection e2 with e3 _ _
                exact e3 ▸ qq
              have hbg : b ≠ g := fun e => by rcases hFb with h | h; exact hgF (e ▸ h); omega
              have hbg2 : g ≠ b := fun e => hbg e.symm
              clear he hE he2 hml
              obtain ⟨N, hN⟩ : ∃ N, N = (LP ++ e.f1).length := ⟨_, rfl⟩
              have hBl := hBe.len
              have hNe : N = np' + me := by rw [hN, List.length_append, ← hnp', hBl]
              rw [← hN] at EP EM
              replace hN := Shut.mk hN.symm
              have hnpb : np' ≤ 200 := by omega
              replace hnp' := Shut.mk hnp'
              replace hNe := Shut.mk hNe
              go_wp2_with fail
              go_quiet (fail)
              replace SR := SR.drewN nq
              replace hlo := hlo.tu (H := fun _ => False) ((Tu.refl _ _).drewN nq) (fun _ _ h => h)
              replace hbo := hbo.tu (H := fun _ => False) ((Tu.refl _ _).drewN nq) (fun _ _ h => h)
              replace has := has.tu (H := fun _ => False) ((Tu.refl _ _).drewN nq) (fun _ _ h => h)
              replace htu := htu.drewN nq
              replace hBe := hBe.tu (H := fun _ => False) ((Tu.refl _ _).drewN nq) (fun _ _ h => h)
              replace d0 : (wr.drewN nq).cell? _ = _ := d0
              replace d1 : (wr.drewN nq).cell? _ = _ := d1
              replace d2 : (wr.drewN nq).cell? _ = _ := d2
              replace hsr : s1 ≤ (wr.drewN nq).heap.size := hsr
              replace hFM : ∀ b, FM b → s1 ≤ b ∧ b < (wr.drewN nq).heap.size := hFM
              replace hFP : ∀ b, FP b → F2 b ∨ (s1 ≤ b ∧ b < (wr.drewN nq).heap.size) := hFP
              replace gl : g < (wr.drewN nq).heap.size := gl
              replace hbl : b < (wr.drewN nq).heap.size := hbl
              clear u0 u1 uf
              have u0 := SR.cell (i := o) (set3_0 hoL)
              have u1 := SR.cell (i := o + 1) (set3_1 hoL)
              have u2 := SR.cell (i := o + 2) (set3_2 hoL)
              have uf := SR.frozen
              have he1 : IntKind.i64.wrap (next + (j : Int) + 1) = next + (j : Int) + 1 := by rw [IntKind.wrap_i64]; omega
              have hr2' := hrm.out.1
              replace hcnt := Shut.mk hcnt
              generalize hw5 : wr.drewN nq = w5 at *
              replace hw5 := Shut.mk hw5
              go_upto_region 15 with fail
              generalize hA9 : (if c' = 1 then (some ⟨b, off, none⟩ : Option Addr) else some ⟨b, off + 3, none⟩) = A9
              replace hA9 := Shut.mk hA9
              have TX := ((Tu.refl (fun b => b = g) w5).set_ (p := ⟨g, o + 1, none⟩) rfl (.slice A9 m' (c' - 1))).set_ (p := ⟨g, o, none⟩) rfl (.int .i64 (next + (j : Int) + 1))
              have BX := ab (Below.refl ((w5.setCell ⟨g, o + 1, none⟩ (.slice A9 m' (c' - 1))).setCell ⟨g, o, none⟩ (.int .i64 (next + (j : Int) + 1))).heap.size ((w5.setCell ⟨g, o + 1, none⟩ (.slice A9 m' (c' - 1))).setCell ⟨g, o, none⟩ (.int .i64 (next + (j : Int) + 1)))) (.cells #[.int .i64 e.f0, .slice Be me ce, .bool e.f2] 84)
              have z5_ : ((w5.setCell ⟨g, o + 1, none⟩ (.slice A9 m' (c' - 1))).setCell ⟨g, o, none⟩ (.int .i64 (next + (j : Int) + 1))).heap.size = w5.heap.size := by simp
              have HB := Stc.new ((w5.setCell ⟨g, o + 1, none⟩ (.slice A9 m' (c' - 1))).setCell ⟨g, o, none⟩ (.int .i64 (next + (j : Int) + 1))) 84 [.int .i64 e.f0, .slice Be me ce, .bool e.f2] _ rfl
              have SA := ((SR.set_ (i := o + 1) (.slice A9 m' (c' - 1))).set_ (i := o) (.int .i64 (next + (j : Int) + 1))).alloc (.cells #[.int .i64 e.f0, .slice Be me ce, .bool e.f2] 84)
              rw [set3_set1, set3_set0] at SA
              have hloA := (hlo.tu TX (fun q hq e => by have h3 : q = g := e; rcases hq with h | h; exact hgF (h3 ▸ h); omega)).below BX (Nat.le_refl _)
              have hBeA := (hBe.tu TX (fun q hq e => by have h3 : q = g := e; rcases hq with h | h; exact hgF (h3 ▸ h); omega)).below BX (Nat.le_refl _)
              have hboA := (hbo.tu TX (fun q hq e => by have h3 : q = g := e; rcases hFP q hq with h | h; exact hgF2 (h3 ▸ h); omega)).below BX (Nat.le_refl _)
              have hasA := (has.tu TX (fun q hq e => by have h3 : q = g := e; have := hFM q hq; omega)).below BX (Nat.le_refl _)
              have htuA := (htu.trans TX).trans (Tu.ofBelow BX)
              have zA : (((w5.setCell ⟨g, o + 1, none⟩ (.slice A9 m' (c' - 1))).setCell ⟨g, o, none⟩ (.int .i64 (next + (j : Int) + 1))).alloc (.cells #[.int .i64 e.f0, .slice Be me ce, .bool e.f2] 84)).heap.size = w5.heap.size + 1 := by simp
              rw [z5_] at HB
              generalize hWA : ((w5.setCell ⟨g, o + 1, none⟩ (.slice A9 m' (c' - 1))).setCell ⟨g, o, none⟩ (.int .i64 (next + (j : Int) + 1))).alloc (.cells #[.int .i64 e.f0, .slice Be me ce, .bool e.f2] 84) = wA at *
              obtain ⟨hb9, hhb9⟩ : ∃ y, y = w5.heap.size := ⟨_, rfl⟩
              have hbg9 : hb9 ≠ g := by omega
              have hs9 : s1 ≤ hb9 := by omega
              rw [← hhb9] at HB zA ⊢
              rw [← hhb9] at hFM hFP
              have HhB := Shut.mk hhb9
              replace zA := Shut.mk zA
              clear hhb9 hWA TX BX z5_ u0 u1 u2 uf d0 d1 d2 SR hlo hbo has htu hw5 hBe gl hbl hFb hsr hgt hf
              have y2 := SA.cell (i := o + 2) (set3_2 hoL)
              have k1 := HB.cell (i := 1) rfl
              have k2 := HB.cell (i := 2) rfl
              have hNi : (np' : Int) + (me : Int) = (N : Int) := by have := hNe.out; omega
              have hN2 : N ≤ 300 := by have := hNe.out; omega
              have hLP : Shut (LP.length = np') := ⟨hnp'.out.symm⟩
              go_wp2_with fail
              go_quiet (fail)
              generalize hwh : decide ((N : Int) ≤ 200) = wh
              replace hwh := Shut.mk hwh
              replace SA := SA.drewN nq
              replace HB := HB.drewN nq
              replace hloA := hloA.tu (H := fun _ => False) ((Tu.refl _ _).drewN nq) (fun _ _ h => h)
              replace hBeA := hBeA.tu (H := fun _ => False) ((Tu.refl _ _).drewN nq) (fun _ _ h => h)
              replace hboA := hboA.tu (H := fun _ => False) ((Tu.refl _ _).drewN nq) (fun _ _ h => h)
              replace hasA := hasA.tu (H := fun _ => False) ((Tu.refl _ _).drewN nq) (fun _ _ h => h)
              replace htuA := htuA.drewN nq
              replace zA : Shut ((wA.drewN nq).heap.size = hb9 + 1) := zA
              clear y2 k1 k2
              generalize wA.drewN nq = wB at *
              have hcpP := fun W (hh : Below wB.heap.size wB W) => copyb_any P' np' cp' LP W (hboA.bs.below hh) hzp.out (by omega)
              have y2 := SA.cell (i := o + 2) (set3_2 hoL)
              have k1 := HB.cell (i := 1) rfl
              go_wp2_with fail
              refine wp_region_noPanic ?_
              refine wp_region_held_drew (S := fun W => W.cell? ⟨hb9, 1, none⟩ = some (.slice Be me ce)) (by kernel_rfl) ?_ (fun hHeld => ?_)
              · exact k1
              refine wpAnyH_take (i := 0) (oi := _) (v := .pointer (some ⟨g, o, none⟩)) rfl (by kernel_rfl) (by kernel_rfl) (by kernel_rfl) (fun _ _ _ h => h) (Or.inl ⟨by rfl, by intro W hSw; go_simp⟩) (by assumption) ?_
              refine wpAnyH_take (i := 1) (oi := _) (v := .pointer (some ⟨g, o, none⟩)) rfl (by kernel_rfl) (by kernel_rfl) (by kernel_rfl) (fun _ _ _ h => h) (Or.inl ⟨by rfl, by intro W hSw; go_simp⟩) (by assumption) ?_
              refine wpAnyH_take (i := 2) (oi := _) (v := .pointer (some ⟨g, o, none⟩)) rfl (by kernel_rfl) (by kernel_rfl) (by kernel_rfl) (fun _ _ _ h => h) (Or.inl ⟨by rfl, by intro W hSw; go_simp⟩) (by assumption) ?_
              refine wpAnyH_take (i := 3) (oi := _) (v := .pointer (some ⟨g, o + 2, none⟩)) rfl (by kernel_rfl) (by kernel_rfl) (by kernel_rfl) (fun _ _ _ h => h) (Or.inl ⟨by rfl, by intro W hSw; go_simp⟩) (by assumption) ?_
              refine wpAnyH_take (i := 6) (oi := _) (v := .pointer (some ⟨hb9, 1, none⟩)) rfl (by kernel_rfl) (by kernel_rfl) (by kernel_rfl) (fun _ _ _ h => h) (Or.inl ⟨by rfl, by intro W hSw; go_simp⟩) (by assumption) ?_
              refine wpAnyH_take (i := 7) (oi := _) (v := .slice Be me ce) rfl (by kernel_rfl) (by kernel_rfl) (by kernel_rfl) (fun _ _ _ h => h) (Or.inl ⟨by rfl, by intro W hSw; go_simp⟩) (by assumption) ?_
              refine wpAnyH_ready (rs := [4]) (by kernel_rfl) (by simp) (AllReadyH.cons (o := _) rfl (fun K hK => ?_) AllReadyH.nil)
              rw [if_pos (by rfl)]
              go_simp
              refine hK.out _ _ hHeld (fun _ => ?_)
              clear hK K
              refine wpAnyH_ready (rs := [5]) (by kernel_rfl) (by simp) (AllReadyH.cons (o := _) rfl (fun K hK => ?_) AllReadyH.nil)
              rw [if_pos (by rfl)]
              go_simp
              refine (hcpP wB.drew (Below.refl wB.heap.size wB).drew).mono ?_
              rintro x1 w3 ⟨⟨A5, c5, rfl, hr5⟩, b3⟩
              have b3' := (Below.refl wB.heap.size wB).drew.trans b3
              have HB3 := HB.below b3' HB.lt
              have k3 := HB3.cell (i := 1) rfl
              refine hK.out _ _ k3 (fun _ => ?_)
              clear hK K
              refine wpAnyH_ready (rs := [8]) (by kernel_rfl) (by simp) (AllReadyH.cons (o := _) rfl (fun K hK => ?_) AllReadyH.nil)
              refine step_row_joinL rfl _ _ rfl w3 wB.heap.size (.slice A5 np' c5) LP e.f1 rfl hr5 b3'.size Be me ce rfl (hBeA.bs.below b3') hz9.out (by rw [hLP.out]; omega) ?_
              intro v4 w4 hr4 hb4 hs4 hlay4 helse4
              obtain ⟨A4, c4, rfl, ho4⟩ := hr4.ow hN.out
              have b4' : Below wB.heap.size wB w4 := b3'.trans hb4
              have HB4 := HB.below b4' HB.lt
              have k4 := HB4.cell (i := 1) rfl
              have SA4 := SA.below b4' SA.lt
              have y2 := SA4.cell (i := o + 2) (set3_2 hoL)
              have yf := SA4.frozen
              refine hK.out _ _ k4 (fun _ => ?_)
              clear hK K
              refine wpAnyH_take (i := 9) (oi := _) (v := .pointer (some ⟨g, o, none⟩)) rfl (by kernel_rfl) (by kernel_rfl) (by kernel_rfl) (fun _ _ _ h => h) (Or.inl ⟨by rfl, by intro W hSw; go_simp⟩) (by assumption) ?_
              refine wpAnyH_take (i := 10) (oi := _) (v := .pointer (some ⟨g, o + 2, none⟩)) rfl (by kernel_rfl) (by kernel_rfl) (by kernel_rfl) (fun _ _ _ h => h) (Or.inl ⟨by rfl, by intro W hSw; go_simp⟩) (by assumption) ?_
              refine wpAnyH_ready (rs := [11]) (by kernel_rfl) (by simp) (AllReadyH.cons (o := _) rfl (fun K hK => ?_) AllReadyH.nil)
              rw [if_pos (by rfl)]
              go_simp
              have HB5 := HB4.far (p := ⟨g, o + 2, none⟩) (by exact hbg9) (.slice A4 N c4)
              refine hK.out _ _ (HB5.cell (i := 1) rfl) (fun _ => ?_)
              clear hK K
              refine wpAnyH_done (by kernel_rfl) (NoPanic.normal ?_) _
              try simp only [List.getElem_toArray, List.getElem_cons_succ, List.getElem_cons_zero, Act.put, List.setIfInBounds_toArray, List.set_cons_zero, List.set_cons_succ]
              have TY := (Tu.refl (fun b => b = g) w4).set_ (p := ⟨g, o + 2, none⟩) rfl (.slice A4 N c4)
              have S6 := SA4.set_ (i := o + 2) (.slice A4 N c4)
              rw [set3_set2] at S6
              have hbO : Bo w4 (fun b => (Value.slice A4 N c4).ownBlock = some b) A4 N (LP ++ e.f1) := by
                obtain ⟨A, cX, e1, h1, h2⟩ := hr4.bo hN.out
                injection e1 with e1 e2 e3
                subst e1
                exact h1
              have hrm4 := hr4.rm hN.out
              have hown : ∀ q, (Value.slice A4 N c4).ownBlock = some q → hb9 < q ∧ q < w4.heap.size := fun q hq => by have := hr4.ownlt hq; have := zA.out; omega
              have hlo6 := (hloA.below b4' (Nat.le_refl _)).tu TY (fun q hq e => by have h3 : q = g := e; rcases hq with h | h; exact hgF (h3 ▸ h); omega)
              have has6 := (hasA.below b4' (Nat.le_refl _)).tu TY (fun q hq e => by have h3 : q = g := e; have := hFM q hq; omega)
              have hbo6 := hbO.tu TY (fun q hq e => by have h3 : q = g := e; have := hown q hq; omega)
              have htu6 := (htuA.trans (Tu.ofBelow b4')).trans TY
              have HB6 := HB5
              have z6 : Shut ((w4.setCell ⟨g, o + 2, none⟩ (.slice A4 N c4)).heap.size = w4.heap.size) := ⟨World.size_setCell _ _ _⟩
              have s46 : Shut (hb9 + 1 ≤ w4.heap.size) := ⟨by have := b4'.size; have := zA.out; omega⟩
              have HRM : Shut (Rm A9 m' (c' - 1)) := ⟨by have := hrm.out.1; omega, fun h => by have e9 := hA9.out; rw [h] at e9; split at e9 <;> cases e9⟩
              have HLT : Shut (∀ W : World, Lo HeldD.cels 3 W (fun b => F b ∨ (w.heap.size ≤ b ∧ b < s1)) (some ⟨b, off, none⟩) (m' + 1) (e :: now.drop (j + 1)) → Lo HeldD.cels 3 W (fun b => F b ∨ (w.heap.size ≤ b ∧ b < s1)) A9 m' (now.drop (j + 1))) := ⟨fun W hW => by
                have hW2 := hW.tail
                rw [← hA9.out]
                by_cases hc1 : c' = 1
                · have hm0 : m' = 0 := by have := hrm.out.1; omega
                  have hr0 : now.drop (j + 1) = [] := List.drop_of_length_le (by rw [Hnl.out]; omega)
                  rw [hm0, hr0]
                  exact Lo.nil_ _ _ _
                · rw [if_neg hc1]; exact hW2⟩
              clear TY hbO hloA hBeA hboA hasA htuA SA SA4 HB HB3 HB4 HB5 hr4 hr5 ho4 helse4 hlay4 b3 b3' hb4 hs4 k3 k4 yf y2 k1 hcpP
              generalize w4.setCell ⟨g, o + 2, none⟩ (.slice A4 N c4) = w6 at *
              have k6 := HB6.cell (i := 2) rfl
              have y6 := S6.cell (i := o + 2) (set3_2 hoL)
              have yf6 := S6.frozen
              have gl6 := S6.lt
              by_cases h200 : 200 < N
              · have hw2 : wh = false := by rw [← hwh.out]; simp; omega
                have EPX : Shut (putP l (now.take (j + 1)) = []) := ⟨by rw [EP.out, if_pos (Or.inl h200)]⟩
                have EMX : Shut (putM l (now.take (j + 1)) = LM) := ⟨by rw [EM.out, if_pos h200, List.append_nil]⟩
                subst hw2
                clear EP EM hwh
                cases hl : e.f2
                all_goals
                  rw [hl] at k6
                  go_wp2_with fail
                  go_roundw
                  case rel =>
                    have TZ := (Tu.refl (fun b => b = g) w6).set_ (p := ⟨g, o + 2, none⟩) rfl (.slice (some ⟨w6.heap.size, 0, none⟩) 0 0)
                    have BZ := ab (Below.refl (w6.setCell ⟨g, o + 2, none⟩ (.slice (some ⟨w6.heap.size, 0, none⟩) 0 0)).heap.size (w6.setCell ⟨g, o + 2, none⟩ (.slice (some ⟨w6.heap.size, 0, none⟩) 0 0))) (.cells #[] 5)
                    have zz : (w6.setCell ⟨g, o + 2, none⟩ (.slice (some ⟨w6.heap.size, 0, none⟩) 0 0)).heap.size = w6.heap.size := by simp
                    have sz := (show s1 ≤ w6.heap.size by have := z6.out; have := s46.out; omega)
                    refine ⟨j + 1, A9, m', c' - 1, some ⟨w6.heap.size, 0, none⟩, 0, 0, FM, fun b => b = w6.heap.size, hE2, by omega, ?_, ?_, HRM, ?_, ?_, ⟨fun h => by cases h⟩, ?_, ?_, ?_, ?_, ?_, ?_⟩
                    · have S9 := (S6.set_ (i := o + 2) (.slice (some ⟨w6.heap.size, 0, none⟩) 0 0)).alloc (.cells #[] 5)
                      rw [set3_set2] at S9
                      rw [show next + ((j + 1 : Nat) : Int) = next + (j : Int) + 1 by push_cast; omega]
                      exact S9
                    · exact HLT.out _ ((hlo6.tu TZ (fun q hq e => by have h3 : q = g := e; rcases hq with h | h; exact hgF (h3 ▸ h); omega)).below BZ (Nat.le_refl _))
                    · rw [EPX.out]; rfl
                    · rw [EPX.out]; exact Bo.nil_ _ _ _
                    · rw [EMX.out]; exact (has6.tu TZ (fun q hq e => by have h3 : q = g := e; have := (fun q hq => by have := hFM q hq; have := z6.out; have := s46.out; exact (show s1 ≤ q ∧ q < w6.heap.size by omega)) q hq; omega)).below BZ (Nat.le_refl _)
                    · intro q hq; have := (fun q hq => by have := hFM q hq; have := z6.out; have := s46.out; exact (show s1 ≤ q ∧ q < w6.heap.size by omega)) q hq; rw [World.size_alloc, zz]; omega
                    · intro q hq; have h3 : q = w6.heap.size := hq; rw [World.size_alloc, zz]; right; omega
                    · intro q hq h3; have h4 : q = w6.heap.size := h3; have := (fun q hq => by have := hFM q hq; have := z6.out; have := s46.out; exact (show s1 ≤ q ∧ q < w6.heap.size by omega)) q hq; omega
                    · exact (htu6.trans TZ).trans (Tu.ofBelow BZ)
                    · rw [World.size_alloc, zz]; omega
                  case measure =>
                    have S9 := (S6.set_ (i := o + 2) (.slice (some ⟨w6.heap.size, 0, none⟩) 0 0)).alloc (.cells #[] 5)
                    rw [set3_set2] at S9
                    have hq := S9.cell (i := o + 1) (set3_1 hoL)
                    rw [hcnt.out]
                    unfold cntD
                    rw [hq]
                    exact Nat.lt_succ_self m'
              · have hw2 : wh = true := by rw [← hwh.out]; simp; omega
                subst hw2
                clear hwh
                cases hl : e.f2
                · have EPX : Shut (putP l (now.take (j + 1)) = LP ++ e.f1) := ⟨by rw [EP.out, if_neg (by simp [h200, hl])]⟩
                  have EMX : Shut (putM l (now.take (j + 1)) = LM) := ⟨by rw [EM.out, if_neg h200, if_neg (by simp [hl]), List.append_nil]⟩
                  clear EP EM
                  rw [hl] at k6
                  go_wp2_with fail
                  go_roundw
                  case rel =>
                    refine ⟨j + 1, A9, m', c' - 1, A4, N, c4, FM, fun b => (Value.slice A4 N c4).ownBlock = some b, hE2, by omega, ?_, HLT.out _ hlo6, HRM, ?_, ?_, ⟨hrm4.2⟩, ?_, ?_, ?_, ?_, htu6, by have := z6.out; have := s46.out; omega⟩
                    · rw [show next + ((j + 1 : Nat) : Int) = next + (j : Int) + 1 by push_cast; omega]; exact S6
                    · rw [EPX.out]; exact hN.out.symm
                    · rw [EPX.out]; exact hbo6
                    · rw [EMX.out]; exact has6
                    · intro q hq; have := hFM q hq; have := z6.out; have := s46.out; omega
                    · intro q hq; have := hown q hq; have := z6.out; right; omega
                    · intro q hq h3; have := hFM q hq; have := hown q h3; omega
                  case measure =>
                    have hq := S6.cell (i := o + 1) (set3_1 hoL)
                    rw [hcnt.out]
                    unfold cntD
                    rw [hq]
                    exact Nat.lt_succ_self m'
                · have EPX : Shut (putP l (now.take (j + 1)) = []) := ⟨by rw [EP.out, if_pos (Or.inr hl)]⟩
                  have EMX : Shut (putM l (now.take (j + 1)) = LM ++ [LP ++ e.f1]) := ⟨by rw [EM.out, if_neg h200, if_pos hl]⟩
                  clear EP EM
                  rw [hl] at k6 HB6
                  go_wp2_with (at_builtin; refine wpList_as_append (cels := bytC) Try.underlying33 info_Byt rfl (by decide) (by decide) (fun _ => rfl) rfl _ _ rfl (w6.alloc (.cells #[.slice A4 N c4] 23)) FM (fun b => (Value.slice A4 N c4).ownBlock = some b) (fun b => FM b ∨ (Value.slice A4 N c4).ownBlock = some b ∨ b = w6.heap.size + 1) u6 LM (has6.below (ab (Below.refl w6.heap.size w6) _) (Nat.le_refl _)) (by omega) rfl _ _ [.slice A4 N c4] rfl rfl (cells_new (by simp) _ _) (by simp [Value.oneCell']) (LP ++ e.f1) (fun j b => j = 0 ∧ (Value.slice A4 N c4).ownBlock = some b) (fun j b h => h.2) (fun j j' b h1 h2 => by rw [h1.1, h2.1]) (fun b hb hF => by have := hown b hb; have := hFM b hF; omega) (fun b hb => by have := hown b hb; have := z6.out; simp; omega) (fun b hb => .inl hb) (fun b hb => .inr (.inl hb)) (.inr (.inr (by simp))) ?hnew ?_; (case hnew => (intro j dd hj; rcases j with _ | j <;> simp [bytC] at hj; subst hj; exact ⟨_, rfl, A4, N, c4, rfl, (hbo6.wider (fun b h => ⟨rfl, h⟩)).below (ab (Below.refl w6.heap.size w6) (.cells #[.slice A4 N c4] 23)) (Nat.le_refl _), hrm4.2⟩)); intro v7 w7 has7 tu7 lay7 else7; have B67 := ab (Below.refl w6.heap.size w6) (.cells #[.slice A4 N c4] 23); have S7 := (S6.below B67 S6.lt).tu tu7 (fun h => by have := hFM _ h; omega); have HB7 := (HB6.below B67 HB6.lt).tu tu7 (fun h => by have := hFM _ h; omega); have hlo7 := (hlo6.below B67 (Nat.le_refl _)).tu tu7 (fun q hq h => by have h5 := hFM _ h; rcases hq with h4 | h4; have := hFl _ h4; omega; omega); have htu7 := Tu.more htu6 B67 tu7 (fun q hq => by have := hFM q hq; omega); have z7 := tu7.size; have y7 := S7.cell (i := o + 2) (set3_2 hoL); have yf7 := S7.frozen; have gl7 := S7.lt; have k7 := HB7.cell (i := 2) rfl)
                  have hFM7 : ∀ b, (FM b ∨ (Value.slice A4 N c4).ownBlock = some b ∨ b = w6.heap.size + 1) ∧ b < w7.heap.size → s1 ≤ b ∧ b < w7.heap.size := fun b hb => ⟨by rcases hb.1 with h | h | h; have := hFM b h; omega; have := hown b h; omega; have := z6.out; have := s46.out; omega, hb.2⟩
                  have has7t := has7.trim
                  have s7 : s1 ≤ w7.heap.size := by have := z6.out; have := s46.out; rw [World.size_alloc] at z7; omega
                  go_roundw
                  case rel =>
                    have TZ := (Tu.refl (fun b => b = g) w7).set_ (p := ⟨g, o + 2, none⟩) rfl (.slice (some ⟨w7.heap.size, 0, none⟩) 0 0)
                    have BZ := ab (Below.refl (w7.setCell ⟨g, o + 2, none⟩ (.slice (some ⟨w7.heap.size, 0, none⟩) 0 0)).heap.size (w7.setCell ⟨g, o + 2, none⟩ (.slice (some ⟨w7.heap.size, 0, none⟩) 0 0))) (.cells #[] 5)
                    have zz : (w7.setCell ⟨g, o + 2, none⟩ (.slice (some ⟨w7.heap.size, 0, none⟩) 0 0)).heap.size = w7.heap.size := by simp
                    have sz := s7
                    refine ⟨j + 1, A9, m', c' - 1, some ⟨w7.heap.size, 0, none⟩, 0, 0, (fun b => (FM b ∨ (Value.slice A4 N c4).ownBlock = some b ∨ b = w6.heap.size + 1) ∧ b < w7.heap.size), fun b => b = w7.heap.size, hE2, by omega, ?_, ?_, HRM, ?_, ?_, ⟨fun h => by cases h⟩, ?_, ?_, ?_, ?_, ?_, ?_⟩
                    · have S9 := (S7.set_ (i := o + 2) (.slice (some ⟨w7.heap.size, 0, none⟩) 0 0)).alloc (.cells #[] 5)
                      rw [set3_set2] at S9
                      rw [show next + ((j + 1 : Nat) : Int) = next + (j : Int) + 1 by push_cast; omega]
                      exact S9
                    · exact HLT.out _ ((hlo7.tu TZ (fun q hq e => by have h3 : q = g := e; rcases hq with h | h; exact hgF (h3 ▸ h); omega)).below BZ (Nat.le_refl _))
                    · rw [EPX.out]; rfl
                    · rw [EPX.out]; exact Bo.nil_ _ _ _
                    · rw [EMX.out]; exact (has7t.tu TZ (fun q hq e => by have h3 : q = g := e; have := hFM7 q hq; omega)).below BZ (Nat.le_refl _)
                    · intro q hq; have := hFM7 q hq; rw [World.size_alloc, zz]; omega
                    · intro q hq; have h3 : q = w7.heap.size := hq; rw [World.size_alloc, zz]; right; omega
                    · intro q hq h3; have h4 : q = w7.heap.size := h3; have := hFM7 q hq; omega
                    · exact (htu7.trans TZ).trans (Tu.ofBelow BZ)
                    · rw [World.size_alloc, zz]; omega
                  case measure =>
                    have S9 := (S7.set_ (i := o + 2) (.slice (some ⟨w7.heap.size, 0, none⟩) 0 0)).alloc (.cells #[] 5)
                    rw [set3_set2] at S9
                    have hq := S9.cell (i := o + 1) (set3_1 hoL)
                    rw [hcnt.out]
                    unfold cntD
                    rw [hq]
                    exact Nat.lt_succ_self m'
end Go.Proofs.Ytpaemmoopjkppaa
