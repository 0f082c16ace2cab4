/- Messages put together of what goes on, of the program. -/
import Derived.Test.YtpaemmoopjkppaaApsX
import Derived.Test.YtpaemmoopjkppaaHwnP
import Derived.Test.YtpaemmoopjkppaaHdtF
namespace Go.Proofs.Ytpaemmoopjkppaa
open Go.RowKit

set_option maxRecDepth 100000 in
theorem wpList_row_joinL {ops : Array Oper} {rest : List Oper} {o : Oper} {a : Act} {Q : Exit → Act → World → Prop} (hgd : o.guard = none) (s x : Operand)
    (ho : o.op = .call { callee := .builtin .append, args := #[s, x], argTypes := #[23, 23] })
    (w : World) (B : Nat) (v : Value) (l r : List Int) (hs : a.eval s = v) (hrow : Row w B v l) (hB : B ≤ w.heap.size)
    (A : Option Addr) (n c : Nat) (hx : a.eval x = .slice A n c) (hbs : Bs w A n r) (hcap : A = none → c = 0) (hlen : l.length + n ≤ 140737488351232)
    (h : ∀ v' w', Row w' B v' (l ++ r) → Below B w w' → w.heap.size ≤ w'.heap.size → Lay w v v' → Else v w w' → wpList Try.prog ops Q rest (a.put o.dst v') w') : wpList Try.prog ops Q (o :: rest) a w := by
  obtain ⟨i0, hi, hz0, hz1, hz2⟩ := info_parts info_u8
  have hrl := hbs.len
  cases A with
  | none =>
    have hn0 : n = 0 := by
      rcases Nat.eq_zero_or_pos n with h0 | h0
      · exact h0
      · obtain ⟨b, off, e, _⟩ := hbs.at_ h0
        cases e
    have hc0 := hcap rfl
    subst hn0 hc0
    obtain rfl : r = [] := List.eq_nil_of_length_eq_zero hrl
    refine wpList_append_own_none hgd s x 23 ho B 5 i0 1 Try.underlying23 hi v _ _ hs hrow.own hx ?_
    exact h v w (by rw [List.append_nil]; exact hrow) (Below.refl _ _) (Nat.le_refl _) (.inl rfl) (fun _ _ _ => rfl)
  | some ad =>
    have hcell : ∀ j u, (r.map (Value.int .u8))[j]? = some u → w.cell? (ad.add j) = some u := by
      intro j u hu
      have hj : j < r.length := by
        rcases Nat.lt_or_ge j r.length with h1 | h1
        · exact h1
        · rw [List.getElem?_eq_none (by simpa using h1)] at hu; cases hu
      obtain ⟨b, off, e, _, hc⟩ := hbs.at_ (by omega)
      injection e with e
      subst e
      have hadd : (⟨b, off, none⟩ : Addr).add j = ⟨b, off + j, none⟩ := by unfold Addr.add; split <;> simp_all
      rw [hadd, hc j (by omega)]
      rw [List.getElem?_map, List.getElem?_eq_getElem hj] at hu
      simpa [List.getD, List.getElem?_eq_getElem hj] using hu
    refine wpList_append_own_at _ hgd s x 23 ho B 5 i0 (.int .u8 0) 1 1 Try.underlying23 hi hz0 hz1 hz2 rfl (by decide) v l.length _ hs hrow.own ad n c (r.map (Value.int .u8)) hx (by simp [hrl]) hcell
      (fun u hu => by obtain ⟨y, _, rfl⟩ := List.mem_map.1 hu; rfl) (by unfold maxLen; omega) (by omega) hB ?_
    intro v' w' hown hgrow _ hat
    refine h v' w' ⟨hrow.byte.append hbs.byte, ?_⟩ ⟨hgrow.os, hgrow.tape, hgrow.output, hgrow.size, fun k hk => hgrow.block k (by omega) (fun e => ?_)⟩ hgrow.size hat (fun g hg hne => hgrow.block g hg (fun e => hne e.symm))
    · rw [List.length_append, List.map_append, hrl]; exact hown
    · have := (hrow.own.lt k e.symm).1
      omega

theorem Row.nilP (w : World) (B : Nat) : Row w B (.slice none 0 0) [] := ⟨By.nil, ⟨rfl, .inl ⟨rfl, rfl⟩⟩⟩
theorem Row.belP {w w' : World} {B C : Nat} {v : Value} {l : List Int} (h : Row w B v l) (hb : Below C w w') (hC : w.heap.size ≤ C) : Row w' B v l := h.keep (fun g _ h2 => hb.block g (by omega))
theorem Row.elseP {w w' : World} {B : Nat} {v u : Value} {l : List Int} (h : Row w B v l) (he : Else u w w') (hne : ∀ g, v.ownBlock = some g → u.ownBlock ≠ some g) : Row w' B v l := by
  refine ⟨h.byte, h.own.1, ?_⟩
  rcases h.own.2 with h0 | ⟨g, cap, cur, e, hB, hg, r⟩
  · exact .inl h0
  · exact .inr ⟨g, cap, cur, e, hB, (he g (Array.getElem?_eq_some_iff.1 hg).1 (hne g (by rw [e]; rfl))).trans hg, r⟩
theorem Row.farP {w : World} {B : Nat} {v : Value} {l : List Int} (h : Row w B v l) {p : Addr} (hp : p.block < B) (u : Value) : Row (w.setCell p u) B v l := h.keep (fun g h1 _ => Below.heap_setCell w p u g (by omega))
/-- a row as a run in the one block that it has -/
theorem Row.bo {w : World} {B : Nat} {v : Value} {l : List Int} (h : Row w B v l) {n : Nat} (hn : l.length = n) : ∃ A c, v = .slice A n c ∧ Bo w (fun b => v.ownBlock = some b) A n l ∧ (A = none → c = 0) := by
  obtain ⟨A, c, rfl, ho⟩ := h.ow hn
  refine ⟨A, c, rfl, Bo.ofOw ho fun b _ e _ _ => by rw [e]; rfl, (h.rm hn).2⟩

set_option maxRecDepth 100000 in
set_option maxHeartbeats 1000000 in
theorem cloneR_any (A : Option Addr) (n c : Nat) (l : List Int) (w : World) (h : Bs w A n l) (hd : A = none → c = 0) (hn : n ≤ 100000000) :
    Calls Try.prog 46 #[.slice A n c] w fun e w' => (∃ v, e = .returned v ∧ Row w' w.heap.size v l) ∧ Below w.heap.size w w' := by
  have q22 : ∀ (w : World) (a : Option Addr) (n c n' c' : Nat), (binOp .eql 23 (.slice a n c) (.slice none n' c')).run Try.prog w = .ok (.bool a.isNone) w := fun w a n c n' c' => Lib.run_eql_slice_nil w _ _ a n c n' c' Try.underlying23
  have Hl := Shut.mk h.len
  cases A with
  | none =>
    have h0 : n = 0 := by
      rcases Nat.eq_zero_or_pos n with h0 | h0
      · exact h0
      · obtain ⟨b, off, e, _⟩ := h.at_ h0; cases e
    subst h0
    have hl : l = [] := List.eq_nil_of_length_eq_zero Hl.out
    subst hl
    go_enter Try.func46, Try.ntmps46
    go_wp2
    go_ret
    exact ⟨⟨_, rfl, Row.nilP _ _⟩, Below.refl _ _⟩
  | some a =>
    have e0 : Row (w.alloc (.cells #[] 5)) w.heap.size (.slice (some ⟨w.heap.size, 0, none⟩) 0 0) [] := Row.empty w #[] (Nat.le_refl _) rfl
    have h1 := h.below (ab (Below.refl _ w) (.cells #[] 5))
    clear hd
    go_enter Try.func46, Try.ntmps46
    go_wp2_with (at_builtin; refine wpList_row_join rfl _ _ rfl _ w.heap.size (.slice (some ⟨w.heap.size, 0, none⟩) 0 0) _ _ rfl e0 (by simp) (some a) n c rfl h1 (fun e => by cases e) (by simp; omega) ?_; intro v4 w4 hr4 hb4 hs4)
    go_ret
    exact ⟨⟨_, rfl, hr4⟩, (ab (Below.refl _ w) _).trans hb4⟩

/-- only old blocks count -/
theorem As.trim {E : Type} {cels : E → List Cel} {sz : Nat} {t : TypeId} {w : World} {F : Nat → Prop} {v : Value} {els : List E} (h : As cels sz t w F v els) : As cels sz t w (fun b => F b ∧ b < w.heap.size) v els := by
  obtain ⟨xs, ho, hv, G, hG, hD, hc⟩ := h.own
  refine ⟨xs, ho, fun b e => ⟨hv b e, (ho.lt b e).2⟩, fun i j b => G i j b ∧ b < w.heap.size, fun i j b hb => ⟨⟨(hG i j b hb.1).1, hb.2⟩, (hG i j b hb.1).2⟩, fun i j i' j' b h1 h2 => hD i j i' j' b h1.1 h2.1, fun i e hi j d hj => ?_⟩
  obtain ⟨x, hx, hr⟩ := hc i e hi j d hj
  refine ⟨x, hx, ?_⟩
  cases d with
  | v y => exact hr
  | b l =>
    obtain ⟨A, n, c, e1, hb, hz⟩ := hr
    refine ⟨A, n, c, e1, ⟨hb.len, hb.byte, fun hn => ?_⟩, hz⟩
    obtain ⟨b, e2, hF, hlt, r⟩ := hb.at_ hn
    exact ⟨b, e2, ⟨hF, hlt⟩, hlt, r⟩

theorem take_snocP {E : Type} {l : List E} {k : Nat} {e : E} (h : l[k]? = some e) : l.take (k + 1) = l.take k ++ [e] := by rw [List.take_add_one, h]; rfl
theorem in_len {p : List Int} (h : p.length ≤ 200) (tk : List HeldD) (k : Nat) : (putP p (tk.take k)).length ≤ 200 := putP_len h _

set_option linter.unusedVariables false in
set_option maxRecDepth 100000 in
set_option maxHeartbeats 8000000 in
theorem putTogether_any (P : Option Addr) (np cp : Nat) (l : List Int) (T : Option Addr) (t q : Nat) (tk : List HeldD) (w : World) (h : Bs w P np l) (hz : P = none → cp = 0) (hnp : np ≤ 200) (hT : Lst HeldD.cels 3 w T t tk) (ht : t ≤ 1000) (hb : ∀ e ∈ tk, e.f1.length ≤ 32) :
    Calls Try.prog 47 #[.slice P np cp, .slice T t q] w fun x w' => (∃ vm vl, x = .returned (.tuple #[vm, vl]) ∧ ∃ Fm Fl : Nat → Prop, (∀ b, Fm b → w.heap.size ≤ b ∧ b < w'.heap.size) ∧ (∀ b, Fl b → w.heap.size ≤ b ∧ b < w'.heap.size) ∧ (∀ b, Fm b → ¬ Fl b) ∧ As bytC 1 23 w' Fm vm (putM l tk) ∧ (∃ A n c, vl = .slice A n c ∧ n = (putP l tk).length ∧ Bo w' Fl A n (putP l tk) ∧ Rm A n c)) ∧ Below w.heap.size w w' := by
  have hpl : l.length ≤ 200 := by rw [h.len]; exact hnp
  have Hl := Shut.mk hT.len
  have hcl := cloneR_any P np cp l w h hz (by omega)
  obtain ⟨RM, hRM⟩ : ∃ x, x = putM l tk := ⟨_, rfl⟩
  obtain ⟨RP, hRP⟩ : ∃ x, x = putP l tk := ⟨_, rfl⟩
  rw [← hRM, ← hRP]
  have HRM := Shut.mk hRM
  have HRP := Shut.mk hRP
  clear hRM hRP h
  go_enter Try.func47, Try.ntmps47
  go_wp2_with fail
  refine hcl.mono ?_
  rintro x w1 ⟨⟨v1, rfl, hrow⟩, b1⟩
  clear hcl
  go_wp2
  go_loopw [4, 5, 12] (fun ms lf i wr => ∃ (k : Nat) (Fm : Nat → Prop), k ≤ t ∧ i = .int .i64 k ∧ (∀ b, Fm b → w.heap.size ≤ b ∧ b < wr.heap.size) ∧ As bytC 1 23 wr Fm ms (putM l (tk.take k)) ∧ Row wr w.heap.size lf (putP l (tk.take k)) ∧ (∀ g, lf.ownBlock = some g → ¬ Fm g) ∧ Below w.heap.size w wr) (fun _ _ i _ => t - (intOf i).toNat)
  case atStart => exact ⟨0, fun _ => False, Nat.zero_le _, rfl, (fun b h => h.elim), As.nil_ _ _, hrow, (fun _ _ h => h), b1⟩
  case round =>
    obtain ⟨k, Fm, hk, rfl, hFm, has, hrow2, hap, hbel⟩ := hrel
    clear hrow
    by_cases hlt : k < t
    · obtain ⟨b, off, e, B, m, d, rfl, hbs, he, g0, g1, g2, hB, hz'⟩ := hT.getHeld hlt
      have he' := he.out
      have hem := hb e (List.mem_of_getElem? he')
      have hb' := bcell hbel
      have hwr := hbel.size
      have hpk : (putP l (tk.take k)).length ≤ 200 := putP_len hpl _
      have hmk : (putM l (tk.take k)).length ≤ 1000 := by have := (putM_len hpl (tk.take k)).1; rw [List.length_take] at this; omega
      have EP := Shut.mk (putP_snoc l (tk.take k) e)
      have EM := Shut.mk (putM_snoc l (tk.take k) e)
      rw [← take_snocP he'] at EP EM
      have S0 := Stc.new wr 84 [.int .i64 e.f0, .slice B m d, .bool e.f2] _ rfl
      have B0 := ab hbel (.cells #[.int .i64 e.f0, .slice B m d, .bool e.f2] 84)
      have has0 := has.below (ab (Below.refl wr.heap.size wr) (.cells #[.int .i64 e.f0, .slice B m d, .bool e.f2] 84)) (Nat.le_refl _)
      have hul : ∀ g, u5.ownBlock = some g → g < wr.heap.size := fun g hg => (hrow2.ownlt hg).2
      have hBb := hB.below B0
      have hBl := hB.len
      clear hT hB he has
      generalize hPK : putP l (tk.take k) = PK at *
      generalize hMK : putM l (tk.take k) = MK at *
      obtain ⟨N, hN⟩ : ∃ N, N = (PK ++ e.f1).length := ⟨_, rfl⟩
      have hNb : N ≤ 300 := by rw [hN, List.length_append]; omega
      rw [← hN] at EP EM
      replace hN := Shut.mk hN.symm
      clear hPK hMK
      by_cases h200 : 200 < N
      · have t2 : decide ((N : Int) > 200) = true := by simp; omega
        have EP2 : Shut (putP l (tk.take (k + 1)) = []) := ⟨by rw [EP.out, if_pos (Or.inl h200)]⟩
        have EM2 : Shut (putM l (tk.take (k + 1)) = MK) := ⟨by rw [EM.out, if_pos h200, List.append_nil]⟩
        clear EP EM
        go_wp2_with (at_builtin; refine wpList_row_joinL rfl _ _ rfl _ w.heap.size u5 PK e.f1 rfl (hrow2.alloc _) (by simp; omega) B m d rfl hBb hz'.out (by omega) ?_; intro v4 w4 hr4 hb4 hs4 hlay helse; obtain ⟨A4, c4, rfl, ho4⟩ := hr4.ow hN.out; have S4 : Stc w4 wr.heap.size [.int .i64 e.f0, .slice B m d, .bool e.f2] 84 := (helse wr.heap.size (by simp) (fun h => by have := hul _ h; omega)).trans S0; have x2 := S4.cell (i := 2) rfl; have has4 := has0.keep hs4 (fun b hF hl => helse b hl (fun h => hap b h hF)); have hbo : Bo w4 (fun b => (Value.slice A4 N c4).ownBlock = some b) A4 N (PK ++ e.f1) ∧ (A4 = none → c4 = 0) := (by obtain ⟨A, c, e1, h1, h2⟩ := hr4.bo hN.out; injection e1 with e1 e2 e3; subst e1 e3; exact ⟨h1, h2⟩); have B1 := B0.trans hb4; have hs5 : wr.heap.size + 1 ≤ w4.heap.size := (by simpa using hs4); have hdis : ∀ g, (Value.slice A4 N c4).ownBlock = some g → ¬ Fm g := (fun g hg hF => by have h5 := hFm g hF; rcases hlay with h6 | h6; exact hap g (h6.symm.trans hg) hF; rw [h6] at hg; injection hg with hg; rw [World.size_alloc] at hg; omega); have hvl : ∀ g, (Value.slice A4 N c4).ownBlock = some g → w.heap.size ≤ g ∧ g < w4.heap.size := (fun g hg => hr4.ownlt hg))
        go_roundw
        case rel =>
          refine ⟨k + 1, Fm, by omega, by go_num, fun b hF => ⟨(hFm b hF).1, by have := (hFm b hF).2; omega⟩, ?_, ?_, (fun _ h => by cases h), B1⟩
          · rw [EM2.out]; exact has4
          · rw [EP2.out]; exact Row.nilP _ _
        case measure => simp [intOf]; omega
      · have t2 : decide ((N : Int) > 200) = false := by simp; omega
        cases hf : e.f2
        · have EP2 : Shut (putP l (tk.take (k + 1)) = PK ++ e.f1) := ⟨by rw [EP.out, if_neg (by simp [h200, hf])]⟩
          have EM2 : Shut (putM l (tk.take (k + 1)) = MK) := ⟨by rw [EM.out, if_neg h200, if_neg (by simp [hf]), List.append_nil]⟩
          rw [hf] at S0 B0 has0 hBb g2
          clear EP EM
          go_wp2_with (at_builtin; refine wpList_row_joinL rfl _ _ rfl _ w.heap.size u5 PK e.f1 rfl (hrow2.alloc _) (by simp; omega) B m d rfl hBb hz'.out (by omega) ?_; intro v4 w4 hr4 hb4 hs4 hlay helse; obtain ⟨A4, c4, rfl, ho4⟩ := hr4.ow hN.out; have S4 : Stc w4 wr.heap.size [.int .i64 e.f0, .slice B m d, .bool false] 84 := (helse wr.heap.size (by simp) (fun h => by have := hul _ h; omega)).trans S0; have x2 := S4.cell (i := 2) rfl; have has4 := has0.keep hs4 (fun b hF hl => helse b hl (fun h => hap b h hF)); have hbo : Bo w4 (fun b => (Value.slice A4 N c4).ownBlock = some b) A4 N (PK ++ e.f1) ∧ (A4 = none → c4 = 0) := (by obtain ⟨A, c, e1, h1, h2⟩ := hr4.bo hN.out; injection e1 with e1 e2 e3; subst e1 e3; exact ⟨h1, h2⟩); have B1 := B0.trans hb4; have hs5 : wr.heap.size + 1 ≤ w4.heap.size := (by simpa using hs4); have hdis : ∀ g, (Value.slice A4 N c4).ownBlock = some g → ¬ Fm g := (fun g hg hF => by have h5 := hFm g hF; rcases hlay with h6 | h6; exact hap g (h6.symm.trans hg) hF; rw [h6] at hg; injection hg with hg; rw [World.size_alloc] at hg; omega); have hvl : ∀ g, (Value.slice A4 N c4).ownBlock = some g → w.heap.size ≤ g ∧ g < w4.heap.size := (fun g hg => hr4.ownlt hg))
          go_roundw
          case rel =>
            refine ⟨k + 1, Fm, by omega, by go_num, fun b hF => ⟨(hFm b hF).1, by have := (hFm b hF).2; omega⟩, ?_, ?_, hdis, B1⟩
            · rw [EM2.out]; exact has4
            · rw [EP2.out]; exact hr4
          case measure => simp [intOf]; omega
        · have EP2 : Shut (putP l (tk.take (k + 1)) = []) := ⟨by rw [EP.out, if_pos (Or.inr hf)]⟩
          have EM2 : Shut (putM l (tk.take (k + 1)) = MK ++ [PK ++ e.f1]) := ⟨by rw [EM.out, if_neg h200, if_pos hf]⟩
          rw [hf] at S0 B0 has0 hBb g2
          clear EP EM
          go_wp2_with (first | (at_builtin; refine wpList_as_append (cels := bytC) Try.underlying33 info_Byt rfl (by decide) (by decide) (fun _ => rfl) rfl _ _ rfl (w4.alloc (.cells #[.slice A4 N c4] 23)) Fm (fun b => (Value.slice A4 N c4).ownBlock = some b) (fun b => Fm b ∨ (Value.slice A4 N c4).ownBlock = some b ∨ b = w4.heap.size + 1) u4 MK (has4.below (ab (Below.refl w4.heap.size w4) _) (Nat.le_refl _)) (by omega) rfl _ _ [.slice A4 N c4] rfl rfl (cells_new (by simp) _ _) (by simp [Value.oneCell']) (PK ++ e.f1) (fun j b => j = 0 ∧ (Value.slice A4 N c4).ownBlock = some b) (fun j b h => h.2) (fun j j' b h1 h2 => by rw [h1.1, h2.1]) (fun b hb hF => hdis b hb hF) (fun b hb => by have := hvl b hb; simp; omega) (fun b hb => .inl hb) (fun b hb => .inr (.inl hb)) (.inr (.inr (by simp))) ?hnew ?_; (case hnew => (intro j dd hj; rcases j with _ | j <;> simp [bytC] at hj; subst hj; exact ⟨_, rfl, A4, N, c4, rfl, (hbo.1.wider (fun b h => ⟨rfl, h⟩)).below (ab (Below.refl w4.heap.size w4) (.cells #[.slice A4 N c4] 23)) (Nat.le_refl _), hbo.2⟩)); intro v6 w6 has6 tu6 lay6 else6) | (at_builtin; refine wpList_row_joinL rfl _ _ rfl _ w.heap.size u5 PK e.f1 rfl (hrow2.alloc _) (by simp; omega) B m d rfl hBb hz'.out (by omega) ?_; intro v4 w4 hr4 hb4 hs4 hlay helse; obtain ⟨A4, c4, rfl, ho4⟩ := hr4.ow hN.out; have S4 : Stc w4 wr.heap.size [.int .i64 e.f0, .slice B m d, .bool true] 84 := (helse wr.heap.size (by simp) (fun h => by have := hul _ h; omega)).trans S0; have x2 := S4.cell (i := 2) rfl; have has4 := has0.keep hs4 (fun b hF hl => helse b hl (fun h => hap b h hF)); have hbo : Bo w4 (fun b => (Value.slice A4 N c4).ownBlock = some b) A4 N (PK ++ e.f1) ∧ (A4 = none → c4 = 0) := (by obtain ⟨A, c, e1, h1, h2⟩ := hr4.bo hN.out; injection e1 with e1 e2 e3; subst e1 e3; exact ⟨h1, h2⟩); have B1 := B0.trans hb4; have hs5 : wr.heap.size + 1 ≤ w4.heap.size := (by simpa using hs4); have hdis : ∀ g, (Value.slice A4 N c4).ownBlock = some g → ¬ Fm g := (fun g hg hF => by have h5 := hFm g hF; rcases hlay with h6 | h6; exact hap g (h6.symm.trans hg) hF; rw [h6] at hg; injection hg with hg; rw [World.size_alloc] at hg; omega); have hvl : ∀ g, (Value.slice A4 N c4).ownBlock = some g → w.heap.size ≤ g ∧ g < w4.heap.size := (fun g hg => hr4.ownlt hg)))
          go_roundw
          case rel =>
            have z6 := tu6.size
            rw [World.size_alloc] at z6
            refine ⟨k + 1, _, by omega, by go_num, ?_, by rw [EM2.out]; exact has6.trim, by rw [EP2.out]; exact Row.nilP _ _, (fun _ h => by cases h), ?_⟩
            · intro b hb
              refine ⟨?_, hb.2⟩
              rcases hb.1 with h | h | h
              · exact (hFm b h).1
              · exact (hvl b h).1
              · have := B1.size; omega
            · exact (ab B1 _).trans (tu6.below (by have := B1.size; simp; omega) (fun b hF => (hFm b hF).1))
          case measure => simp [intOf]; omega
    · obtain rfl : k = t := by omega
      have htk : tk.take k = tk := List.take_of_length_le (by rw [Hl.out]; exact Nat.le_refl _)
      rw [htk, ← HRM.out] at has
      rw [htk, ← HRP.out] at hrow2
      obtain ⟨A5, c5, rfl, hb5, hz5⟩ := hrow2.bo rfl
      have hrm := hrow2.rm rfl
      have hlt5 : ∀ g, (Value.slice A5 RP.length c5).ownBlock = some g → w.heap.size ≤ g ∧ g < wr.heap.size := fun g hg => hrow2.ownlt hg
      clear hT
      go_wp2
      refine bodyPost_ret (v := .tuple #[u4, .slice A5 RP.length c5]) (by simp [results, Try.results47, go_sem]) rfl ?_
      exact ⟨⟨_, _, rfl, Fm, fun b => (Value.slice A5 RP.length c5).ownBlock = some b, hFm, hlt5, fun b hF h => hap b h hF, has, _, _, _, rfl, rfl, hb5, hrm⟩, hbel⟩
end Go.Proofs.Ytpaemmoopjkppaa
