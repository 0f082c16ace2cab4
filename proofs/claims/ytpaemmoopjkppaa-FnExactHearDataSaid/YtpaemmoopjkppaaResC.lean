/- What ends' answers lie in, and what a right end holds. -/
import Derived.Test.YtpaemmoopjkppaaCpyE
import Derived.Test.YtpaemmoopjkppaaEndF
namespace Go.Proofs.Ytpaemmoopjkppaa
open Go.RowKit

/-- an end's answer as the law reads it -/
def EndB (A0 : Option Addr) (n0 : Nat) (els : List PartD) (A1 : Option Addr) (n1 : Nat) (hs : List HeldD) (A2 : Option Addr) (n2 : Nat) (l : List Int) (A3 : Option Addr) (n3 : Nat) (got : List (List Int)) : Thing := Thing.sep (tP A0 n0 els) (Thing.sep (Thing.sep (tH A1 n1 hs) (tR A2 n2 l)) (tB A3 n3 got))
theorem okEndB (A0 : Option Addr) (n0 : Nat) (els : List PartD) (A1 : Option Addr) (n1 : Nat) (hs : List HeldD) (A2 : Option Addr) (n2 : Nat) (l : List Int) (A3 : Option Addr) (n3 : Nat) (got : List (List Int)) : (EndB A0 n0 els A1 n1 hs A2 n2 l A3 n3 got).Ok := (okP _ _ _).sep (((okH _ _ _).sep (okR _ _ _)).sep (okB _ _ _))
theorem okEndT (A0 : Option Addr) (n0 : Nat) (els : List PartD) (A1 : Option Addr) (n1 : Nat) (hs : List HeldD) (A2 : Option Addr) (n2 : Nat) (l : List Int) (v : Value) (got : List (List Int)) : (EndT A0 n0 els A1 n1 hs A2 n2 l v got).Ok := (okP _ _ _).sep (((okH _ _ _).sep (okR _ _ _)).sep (okG _ _))
theorem tG_lo {w : World} {F : Nat → Prop} {A : Option Addr} {n c : Nat} {got : List (List Int)} (h : tG (.slice A n c) got w F) (hn : got.length = n) : tB A n got w F := by
  obtain ⟨A', c', e, _, hlo⟩ := As.lo h hn
  injection e with e1 e2 e3
  subst e1
  exact hlo
theorem EndT.toB {A0 : Option Addr} {n0 : Nat} {els : List PartD} {A1 : Option Addr} {n1 : Nat} {hs : List HeldD} {A2 : Option Addr} {n2 : Nat} {l : List Int} {A3 : Option Addr} {n3 c3 : Nat} {got : List (List Int)} {w : World} {F : Nat → Prop} (h : EndT A0 n0 els A1 n1 hs A2 n2 l (.slice A3 n3 c3) got w F) (hn : got.length = n3) : EndB A0 n0 els A1 n1 hs A2 n2 l A3 n3 got w F := by
  obtain ⟨G, H, i, j, k, a, G2, H2, i2, j2, k2, b, c⟩ := h
  exact ⟨G, H, i, j, k, a, G2, H2, i2, j2, k2, b, tG_lo c hn⟩
set_option linter.unusedVariables false in
/-- with another sender, which lies elsewhere -/
theorem EndB.sender {A0 : Option Addr} {n0 : Nat} {els : List PartD} {A1 : Option Addr} {n1 : Nat} {hs : List HeldD} {A2 : Option Addr} {n2 : Nat} {l : List Int} {A3 : Option Addr} {n3 : Nat} {got : List (List Int)} {w : World} {lo mid hi : Nat} {B0 : Option Addr} {m0 : Nat} {els' : List PartD} (h : EndB A0 n0 els A1 n1 hs A2 n2 l A3 n3 got w (rng mid hi)) (k : tP B0 m0 els' w (rng lo mid)) (h1 : lo ≤ mid) (h2 : mid ≤ hi) : EndB B0 m0 els' A1 n1 hs A2 n2 l A3 n3 got w (rng lo hi) := by
  obtain ⟨G, H, i, j, d, a, r⟩ := h
  exact ⟨rng lo mid, H, fun b hb => by unfold rng at *; omega, fun b hb => by have := j b hb; unfold rng at *; omega, fun b hb hb' => by have := j b hb'; unfold rng at *; omega, k, r⟩
theorem none_RF (w : World) (F : Nat → Prop) (A : Option Addr) : (tR A 0 []) w F := Bo.nil_ _ _ _
theorem endF_zero {slot base next bad : Int} {els : List PartD} {hs : List HeldD} {np : Nat} {got : List (List Int)} (h : endF slot base els next hs np got bad = 0) : (0 ≤ slot ∧ slot ≤ 401 ∧ 0 ≤ bad ∧ bad ≤ 100000) ∧ senF base els = 0 ∧ recF next hs np = 0 ∧ gotF got = 0 := by
  by_cases h1 : 0 ≤ slot ∧ slot ≤ 401 ∧ 0 ≤ bad ∧ bad ≤ 100000
  · by_cases h2 : senF base els = 0
    · by_cases h3 : recF next hs np = 0
      · rw [endF_got h1 h2 h3] at h; exact ⟨h1, h2, h3, h⟩
      · rw [endF_rec h1 h2 h3] at h; exact absurd h h3
    · rw [endF_sen h1 h2] at h; exact absurd h h2
  · rw [endF_num h1] at h; omega
/-- an answer with no cell and no wire -/
def ResB (A0 : Option Addr) (n0 : Nat) (els : List PartD) (A1 : Option Addr) (n1 : Nat) (hs : List HeldD) (A2 : Option Addr) (n2 : Nat) (l : List Int) (A3 : Option Addr) (n3 : Nat) (got : List (List Int)) (A4 : Option Addr) (n4 : Nat) (bo : List Int) (A5 : Option Addr) (n5 : Nat) (wi : List Int) : Thing := Thing.sep (EndB A0 n0 els A1 n1 hs A2 n2 l A3 n3 got) (Thing.sep (tR A4 n4 bo) (tR A5 n5 wi))
set_option linter.unusedVariables false in
theorem ResB.bare {A0 : Option Addr} {n0 : Nat} {els : List PartD} {A1 : Option Addr} {n1 : Nat} {hs : List HeldD} {A2 : Option Addr} {n2 : Nat} {l : List Int} {A3 : Option Addr} {n3 : Nat} {got : List (List Int)} {w : World} {F : Nat → Prop} (h : EndB A0 n0 els A1 n1 hs A2 n2 l A3 n3 got w F) : ResB A0 n0 els A1 n1 hs A2 n2 l A3 n3 got none 0 [] none 0 [] w F :=
  ⟨F, fun _ => False, fun b hb => hb, fun b hb => hb.elim, fun b _ hb => hb, h, fun _ => False, fun _ => False, fun b hb => hb.elim, fun b hb => hb.elim, fun b hb _ => hb, none_RF _ _ _, none_RF _ _ _⟩
set_option linter.unusedVariables false in
theorem ResB.none_ (w : World) (F : Nat → Prop) : ResB none 0 [] none 0 [] none 0 [] none 0 [] none 0 [] none 0 [] w F :=
  ResB.bare (A0 := none) (A1 := none) (A2 := none) (A3 := none) ⟨fun _ => False, fun _ => False, fun b hb => hb.elim, fun b hb => hb.elim, fun b hb _ => hb, Lo.nil_ _ _ _, fun _ => False, fun _ => False, fun b hb => hb.elim, fun b hb => hb.elim, fun b hb _ => hb, ⟨fun _ => False, fun _ => False, fun b hb => hb.elim, fun b hb => hb.elim, fun b hb _ => hb, Lo.nil_ _ _ _, none_RF _ _ _⟩, Lo.nil_ _ _ _⟩

theorem stcR {W : World} {g : Nat} {u0 u1 u2 u3 u4 u5 u6 u7 u8 u9 u10 u11 u12 u13 u14 u15 : Value} {t : TypeId} (h : Stc W g [u0, u1, u2, u3, u4, u5, u6, u7, u8, u9, u10, u11, u12, u13, u14, u15] t) (v0 v1 v2 v3 v4 v5 v6 v7 v8 v9 v10 v11 v12 v13 v14 v15 : Value) : Stc (((((((((((((((((W).setCell ⟨g, 0, none⟩ v0).setCell ⟨g, 1, none⟩ v1).setCell ⟨g, 2, none⟩ v2).setCell ⟨g, 3, none⟩ v3).setCell ⟨g, 4, none⟩ v4).setCell ⟨g, 5, none⟩ v5).setCell ⟨g, 6, none⟩ v6).setCell ⟨g, 7, none⟩ v7).setCell ⟨g, 8, none⟩ v8).setCell ⟨g, 9, none⟩ v9).setCell ⟨g, 10, none⟩ v10).setCell ⟨g, 11, none⟩ v11).setCell ⟨g, 12, none⟩ v12).setCell ⟨g, 13, none⟩ v13).setCell ⟨g, 14, none⟩ v14).setCell ⟨g, 15, none⟩ v15) g [v0, v1, v2, v3, v4, v5, v6, v7, v8, v9, v10, v11, v12, v13, v14, v15] t :=
  ((((((((((((((((h.set_ (i := 0) v0).set_ (i := 1) v1).set_ (i := 2) v2).set_ (i := 3) v3).set_ (i := 4) v4).set_ (i := 5) v5).set_ (i := 6) v6).set_ (i := 7) v7).set_ (i := 8) v8).set_ (i := 9) v9).set_ (i := 10) v10).set_ (i := 11) v11).set_ (i := 12) v12).set_ (i := 13) v13).set_ (i := 14) v14).set_ (i := 15) v15)
theorem tuR (W : World) (g : Nat) (v0 v1 v2 v3 v4 v5 v6 v7 v8 v9 v10 v11 v12 v13 v14 v15 : Value) : Tu (fun b => b = g) W (((((((((((((((((W).setCell ⟨g, 0, none⟩ v0).setCell ⟨g, 1, none⟩ v1).setCell ⟨g, 2, none⟩ v2).setCell ⟨g, 3, none⟩ v3).setCell ⟨g, 4, none⟩ v4).setCell ⟨g, 5, none⟩ v5).setCell ⟨g, 6, none⟩ v6).setCell ⟨g, 7, none⟩ v7).setCell ⟨g, 8, none⟩ v8).setCell ⟨g, 9, none⟩ v9).setCell ⟨g, 10, none⟩ v10).setCell ⟨g, 11, none⟩ v11).setCell ⟨g, 12, none⟩ v12).setCell ⟨g, 13, none⟩ v13).setCell ⟨g, 14, none⟩ v14).setCell ⟨g, 15, none⟩ v15) :=
  (((((((((((((((((Tu.refl (fun b => b = g) W).set_ (p := ⟨g, 0, none⟩) rfl v0).set_ (p := ⟨g, 1, none⟩) rfl v1).set_ (p := ⟨g, 2, none⟩) rfl v2).set_ (p := ⟨g, 3, none⟩) rfl v3).set_ (p := ⟨g, 4, none⟩) rfl v4).set_ (p := ⟨g, 5, none⟩) rfl v5).set_ (p := ⟨g, 6, none⟩) rfl v6).set_ (p := ⟨g, 7, none⟩) rfl v7).set_ (p := ⟨g, 8, none⟩) rfl v8).set_ (p := ⟨g, 9, none⟩) rfl v9).set_ (p := ⟨g, 10, none⟩) rfl v10).set_ (p := ⟨g, 11, none⟩) rfl v11).set_ (p := ⟨g, 12, none⟩) rfl v12).set_ (p := ⟨g, 13, none⟩) rfl v13).set_ (p := ⟨g, 14, none⟩) rfl v14).set_ (p := ⟨g, 15, none⟩) rfl v15)

/-- what an end's answer with no cell gives -/
structure EndZ (Z0 Z1 Z2 Z4 Z8 Z9 Z10 Z11 Z12 : Int) (Z13 : Bool) (N0 : Nat) (D0 : List PartD) (N1 : Nat) (D1 : List HeldD) (N2 : Nat) (D2 : List Int) (N3 : Nat) (D3 : List (List Int)) (N4 : Nat) (D4 : List Int) (N5 : Nat) (D5 : List Int) : Prop where
  hN0 : N0 ≤ 2000000
  hS0 : sumE PartD.wd D0 ≤ 2000000
  hB0 : ∀ e ∈ D0, e.f0.length ≤ 100000000
  hN1 : N1 ≤ 2000000
  hS1 : sumE HeldD.wd D1 ≤ 2000000
  hB1 : ∀ e ∈ D1, e.f1.length ≤ 100000000
  hN2 : N2 ≤ 2000000
  hN3 : N3 ≤ 2000000
  hS3 : sumE List.length D3 ≤ 2000000
  hB3 : ∀ e ∈ D3, e.length ≤ 100000000
  hN4 : N4 ≤ 2000000
  hN5 : N5 ≤ 2000000
theorem EndZ.none_ (Z0 Z1 Z2 Z4 Z8 Z9 Z10 Z11 Z12 : Int) (Z13 : Bool) : EndZ Z0 Z1 Z2 Z4 Z8 Z9 Z10 Z11 Z12 Z13 0 [] 0 [] 0 [] 0 [] 0 [] 0 [] :=
  ⟨by omega, by simp [sumE], (fun e he => by cases he), by omega, by simp [sumE], (fun e he => by cases he), by omega, by omega, by simp [sumE], (fun e he => by cases he), by omega, by omega⟩
theorem sumH_le : ∀ l : List HeldD, (∀ e ∈ l, e.f1.length ≤ 32) → sumE HeldD.wd l ≤ 34 * l.length := by
  intro l
  induction l with
  | nil => intro _; simp [sumE]
  | cons x r ih =>
    intro hh
    have a1 := hh x (by simp)
    have a2 := ih fun e he => hh e (by simp [he])
    simp only [sumE, List.length_cons]
    unfold HeldD.wd at *
    omega
theorem sumB_le (N : Nat) : ∀ l : List (List Int), (∀ e ∈ l, e.length ≤ N) → sumE List.length l ≤ N * l.length := by
  intro l
  induction l with
  | nil => intro _; simp [sumE]
  | cons x r ih =>
    intro hh
    have a1 := hh x (by simp)
    have a2 := ih fun e he => hh e (by simp [he])
    simp only [sumE, List.length_cons, Nat.mul_add, Nat.mul_one]
    omega
theorem firstF_all {E : Type} (f : E → Int) {els : List E} (h : firstF f els = 0) : ∀ e ∈ els, f e = 0 := by
  induction els with
  | nil => intro e he; cases he
  | cons x r ih =>
    intro e he
    simp only [firstF] at h
    by_cases hx : f x = 0
    · rw [if_neg (by simp [hx])] at h
      rcases List.mem_cons.1 he with rfl | he
      · exact hx
      · exact ih h e he
    · rw [if_pos hx] at h; exact absurd h hx
/-- what a right receiver holds -/
theorem recF_zero {next : Int} {hs : List HeldD} {np : Nat} (h : recF next hs np = 0) : (0 ≤ next ∧ next ≤ 10000) ∧ np ≤ 200 ∧ firstF (heldF next) hs = 0 ∧ allAt (upB hs) 0 hs = true := by
  by_cases h1 : 0 ≤ next ∧ next ≤ 10000
  · by_cases h2 : 200 < np
    · rw [recF_many h1 h2] at h; omega
    · by_cases h3 : firstF (heldF next) hs = 0
      · cases h4 : allAt (upB hs) 0 hs
        · rw [recF_form h1 h2 h3 h4] at h; omega
        · exact ⟨h1, by omega, h3, rfl⟩
      · rw [recF_held h1 h2 h3] at h; exact absurd h h3
  · rw [recF_num h1] at h; omega
theorem heldF_zero {next : Int} {e : HeldD} (h : heldF next e = 0) : (next + 1 ≤ e.f0 ∧ e.f0 ≤ next + 7 ∧ e.f0 ≤ 9999) ∧ e.f1.length ≤ 32 := by
  unfold heldF at h
  by_cases h1 : aheadB next e.f0 = false
  · rw [if_pos h1] at h; omega
  · rw [if_neg h1] at h
    have h2 : aheadB next e.f0 = true := by simpa using h1
    have h3 := of_decide_eq_true h2
    by_cases h4 : 32 < e.f1.length
    · rw [if_pos h4] at h; omega
    · exact ⟨h3, by omega⟩
theorem allAt_get {E : Type} (g : Nat → E → Bool) : ∀ (els : List E) (i : Nat), allAt g i els = true → ∀ k e, els[k]? = some e → g (i + k) e = true
  | [], _, _, k, e, h => by simp at h
  | x :: r, i, h, k, e, he => by
    simp only [allAt, Bool.and_eq_true] at h
    cases k with
    | zero => simp at he; subst he; exact h.1
    | succ k =>
      have := allAt_get g r (i + 1) h.2 k e (by simpa using he)
      rw [show i + (k + 1) = i + 1 + k by omega]; exact this
/-- it holds seven at most -/
theorem recF_len {next : Int} {hs : List HeldD} {np : Nat} (h : recF next hs np = 0) : hs.length ≤ 7 := by
  obtain ⟨_, _, h3, h4⟩ := recF_zero h
  have key : ∀ (k : Nat) (e : HeldD), hs[k]? = some e → next + 1 + (k : Int) ≤ e.f0 := by
    intro k
    induction k with
    | zero => intro e he; have := (heldF_zero (firstF_all _ h3 e (List.mem_of_getElem? he))).1; omega
    | succ k ih =>
      intro e he
      have hk : k < hs.length := by have := (List.getElem?_eq_some_iff.1 he).1; omega
      have hp : hs[k]? = some (hs[k]) := List.getElem?_eq_getElem hk
      have h5 := allAt_get _ _ _ h4 (k + 1) e he
      rw [Nat.zero_add] at h5
      have h6 : upB hs (k + 1) e = decide (hs[k].f0 < e.f0) := by
        show (match hs[k]? with | some p => decide (p.f0 < e.f0) | none => true) = _
        rw [hp]
      rw [h6] at h5
      have h7 := of_decide_eq_true h5
      have := ih _ hp
      push_cast
      omega
  rcases Nat.lt_or_ge 7 hs.length with h5 | h5
  · have hp : hs[7]? = some (hs[7]) := List.getElem?_eq_getElem h5
    have h6 := key 7 _ hp
    have := (heldF_zero (firstF_all _ h3 _ (List.mem_of_getElem? hp))).1
    omega
  · omega
theorem gotF_zero {got : List (List Int)} (h : gotF got = 0) : got.length ≤ 200 ∧ ∀ e ∈ got, 0 < e.length ∧ e.length ≤ 200 := by
  by_cases h1 : 200 < got.length
  · rw [gotF_many h1] at h; omega
  · rw [gotF_few h1] at h
    refine ⟨by omega, fun e he => ?_⟩
    have := firstF_all gotE h e he
    unfold gotE at this
    by_cases h2 : mesL e.length = true
    · exact of_decide_eq_true h2
    · rw [if_neg h2] at this; omega

theorem okResB (A0 : Option Addr) (n0 : Nat) (els : List PartD) (A1 : Option Addr) (n1 : Nat) (hs : List HeldD) (A2 : Option Addr) (n2 : Nat) (l : List Int) (A3 : Option Addr) (n3 : Nat) (got : List (List Int)) (A4 : Option Addr) (n4 : Nat) (bo : List Int) (A5 : Option Addr) (n5 : Nat) (wi : List Int) : (ResB A0 n0 els A1 n1 hs A2 n2 l A3 n3 got A4 n4 bo A5 n5 wi).Ok := (okEndB _ _ _ _ _ _ _ _ _ _ _ _).sep ((okR _ _ _).sep (okR _ _ _))

end Go.Proofs.Ytpaemmoopjkppaa
