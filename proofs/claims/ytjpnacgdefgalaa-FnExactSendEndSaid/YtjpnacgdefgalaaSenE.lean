/- A message said to an end: SendEnd of both. -/
import Derived.Test.YtjpnacgdefgalaaCpyP
import Derived.Test.YtjpnacgdefgalaaEndF
import Derived.Test.YtjpnacgdefgalaaSdmZ
namespace Go.Proofs.Ytjpnacgdefgalaa
open Go.RowKit

/-- an end's answer as the law reads it -/
def EndB (A0 : Option Addr) (n0 : Nat) (els : List PartD) (A1 : Option Addr) (n1 : Nat) (hs : List HeldD) (A2 : Option Addr) (n2 : Nat) (l : List Int) (A3 : Option Addr) (n3 : Nat) (got : List (List Int)) : Thing := Thing.sep (tP A0 n0 els) (Thing.sep (Thing.sep (tH A1 n1 hs) (tR A2 n2 l)) (tB A3 n3 got))
theorem okEndB (A0 : Option Addr) (n0 : Nat) (els : List PartD) (A1 : Option Addr) (n1 : Nat) (hs : List HeldD) (A2 : Option Addr) (n2 : Nat) (l : List Int) (A3 : Option Addr) (n3 : Nat) (got : List (List Int)) : (EndB A0 n0 els A1 n1 hs A2 n2 l A3 n3 got).Ok := (okP _ _ _).sep (((okH _ _ _).sep (okR _ _ _)).sep (okB _ _ _))
theorem okEndT (A0 : Option Addr) (n0 : Nat) (els : List PartD) (A1 : Option Addr) (n1 : Nat) (hs : List HeldD) (A2 : Option Addr) (n2 : Nat) (l : List Int) (v : Value) (got : List (List Int)) : (EndT A0 n0 els A1 n1 hs A2 n2 l v got).Ok := (okP _ _ _).sep (((okH _ _ _).sep (okR _ _ _)).sep (okG _ _))
theorem tG_lo {w : World} {F : Nat → Prop} {A : Option Addr} {n c : Nat} {got : List (List Int)} (h : tG (.slice A n c) got w F) (hn : got.length = n) : tB A n got w F := by
  obtain ⟨A', c', e, _, hlo⟩ := As.lo h hn
  injection e with e1 e2 e3
  subst e1
  exact hlo
theorem EndT.toB {A0 : Option Addr} {n0 : Nat} {els : List PartD} {A1 : Option Addr} {n1 : Nat} {hs : List HeldD} {A2 : Option Addr} {n2 : Nat} {l : List Int} {A3 : Option Addr} {n3 c3 : Nat} {got : List (List Int)} {w : World} {F : Nat → Prop} (h : EndT A0 n0 els A1 n1 hs A2 n2 l (.slice A3 n3 c3) got w F) (hn : got.length = n3) : EndB A0 n0 els A1 n1 hs A2 n2 l A3 n3 got w F := by
  obtain ⟨G, H, i, j, k, a, G2, H2, i2, j2, k2, b, c⟩ := h
  exact ⟨G, H, i, j, k, a, G2, H2, i2, j2, k2, b, tG_lo c hn⟩
set_option linter.unusedVariables false in
/-- with another sender, which lies elsewhere -/
theorem EndB.sender {A0 : Option Addr} {n0 : Nat} {els : List PartD} {A1 : Option Addr} {n1 : Nat} {hs : List HeldD} {A2 : Option Addr} {n2 : Nat} {l : List Int} {A3 : Option Addr} {n3 : Nat} {got : List (List Int)} {w : World} {lo mid hi : Nat} {B0 : Option Addr} {m0 : Nat} {els' : List PartD} (h : EndB A0 n0 els A1 n1 hs A2 n2 l A3 n3 got w (rng mid hi)) (k : tP B0 m0 els' w (rng lo mid)) (h1 : lo ≤ mid) (h2 : mid ≤ hi) : EndB B0 m0 els' A1 n1 hs A2 n2 l A3 n3 got w (rng lo hi) := by
  obtain ⟨G, H, i, j, d, a, r⟩ := h
  exact ⟨rng lo mid, H, fun b hb => by unfold rng at *; omega, fun b hb => by have := j b hb; unfold rng at *; omega, fun b hb hb' => by have := j b hb'; unfold rng at *; omega, k, r⟩
theorem none_RF (w : World) (F : Nat → Prop) (A : Option Addr) : (tR A 0 []) w F := Bo.nil_ _ _ _
theorem endF_zero {slot base next bad : Int} {els : List PartD} {hs : List HeldD} {np : Nat} {got : List (List Int)} (h : endF slot base els next hs np got bad = 0) : (0 ≤ slot ∧ slot ≤ 401 ∧ 0 ≤ bad ∧ bad ≤ 100000) ∧ senF base els = 0 ∧ recF next hs np = 0 ∧ gotF got = 0 := by
  by_cases h1 : 0 ≤ slot ∧ slot ≤ 401 ∧ 0 ≤ bad ∧ bad ≤ 100000
  · by_cases h2 : senF base els = 0
    · by_cases h3 : recF next hs np = 0
      · rw [endF_got h1 h2 h3] at h; exact ⟨h1, h2, h3, h⟩
      · rw [endF_rec h1 h2 h3] at h; exact absurd h h3
    · rw [endF_sen h1 h2] at h; exact absurd h h2
  · rw [endF_num h1] at h; omega
/-- an answer with no cell and no wire -/
def ResB (A0 : Option Addr) (n0 : Nat) (els : List PartD) (A1 : Option Addr) (n1 : Nat) (hs : List HeldD) (A2 : Option Addr) (n2 : Nat) (l : List Int) (A3 : Option Addr) (n3 : Nat) (got : List (List Int)) (A4 : Option Addr) (n4 : Nat) (bo : List Int) (A5 : Option Addr) (n5 : Nat) (wi : List Int) : Thing := Thing.sep (EndB A0 n0 els A1 n1 hs A2 n2 l A3 n3 got) (Thing.sep (tR A4 n4 bo) (tR A5 n5 wi))
set_option linter.unusedVariables false in
theorem ResB.bare {A0 : Option Addr} {n0 : Nat} {els : List PartD} {A1 : Option Addr} {n1 : Nat} {hs : List HeldD} {A2 : Option Addr} {n2 : Nat} {l : List Int} {A3 : Option Addr} {n3 : Nat} {got : List (List Int)} {w : World} {F : Nat → Prop} (h : EndB A0 n0 els A1 n1 hs A2 n2 l A3 n3 got w F) : ResB A0 n0 els A1 n1 hs A2 n2 l A3 n3 got none 0 [] none 0 [] w F :=
  ⟨F, fun _ => False, fun b hb => hb, fun b hb => hb.elim, fun b _ hb => hb, h, fun _ => False, fun _ => False, fun b hb => hb.elim, fun b hb => hb.elim, fun b hb _ => hb, none_RF _ _ _, none_RF _ _ _⟩
set_option linter.unusedVariables false in
theorem ResB.none_ (w : World) (F : Nat → Prop) : ResB none 0 [] none 0 [] none 0 [] none 0 [] none 0 [] none 0 [] w F :=
  ResB.bare (A0 := none) (A1 := none) (A2 := none) (A3 := none) ⟨fun _ => False, fun _ => False, fun b hb => hb.elim, fun b hb => hb.elim, fun b hb _ => hb, Lo.nil_ _ _ _, fun _ => False, fun _ => False, fun b hb => hb.elim, fun b hb => hb.elim, fun b hb _ => hb, ⟨fun _ => False, fun _ => False, fun b hb => hb.elim, fun b hb => hb.elim, fun b hb _ => hb, Lo.nil_ _ _ _, none_RF _ _ _⟩, Lo.nil_ _ _ _⟩

theorem stcR {W : World} {g : Nat} {u0 u1 u2 u3 u4 u5 u6 u7 u8 u9 u10 u11 u12 u13 u14 u15 : Value} {t : TypeId} (h : Stc W g [u0, u1, u2, u3, u4, u5, u6, u7, u8, u9, u10, u11, u12, u13, u14, u15] t) (v0 v1 v2 v3 v4 v5 v6 v7 v8 v9 v10 v11 v12 v13 v14 v15 : Value) : Stc (((((((((((((((((W).setCell ⟨g, 0, none⟩ v0).setCell ⟨g, 1, none⟩ v1).setCell ⟨g, 2, none⟩ v2).setCell ⟨g, 3, none⟩ v3).setCell ⟨g, 4, none⟩ v4).setCell ⟨g, 5, none⟩ v5).setCell ⟨g, 6, none⟩ v6).setCell ⟨g, 7, none⟩ v7).setCell ⟨g, 8, none⟩ v8).setCell ⟨g, 9, none⟩ v9).setCell ⟨g, 10, none⟩ v10).setCell ⟨g, 11, none⟩ v11).setCell ⟨g, 12, none⟩ v12).setCell ⟨g, 13, none⟩ v13).setCell ⟨g, 14, none⟩ v14).setCell ⟨g, 15, none⟩ v15) g [v0, v1, v2, v3, v4, v5, v6, v7, v8, v9, v10, v11, v12, v13, v14, v15] t :=
  ((((((((((((((((h.set_ (i := 0) v0).set_ (i := 1) v1).set_ (i := 2) v2).set_ (i := 3) v3).set_ (i := 4) v4).set_ (i := 5) v5).set_ (i := 6) v6).set_ (i := 7) v7).set_ (i := 8) v8).set_ (i := 9) v9).set_ (i := 10) v10).set_ (i := 11) v11).set_ (i := 12) v12).set_ (i := 13) v13).set_ (i := 14) v14).set_ (i := 15) v15)
theorem tuR (W : World) (g : Nat) (v0 v1 v2 v3 v4 v5 v6 v7 v8 v9 v10 v11 v12 v13 v14 v15 : Value) : Tu (fun b => b = g) W (((((((((((((((((W).setCell ⟨g, 0, none⟩ v0).setCell ⟨g, 1, none⟩ v1).setCell ⟨g, 2, none⟩ v2).setCell ⟨g, 3, none⟩ v3).setCell ⟨g, 4, none⟩ v4).setCell ⟨g, 5, none⟩ v5).setCell ⟨g, 6, none⟩ v6).setCell ⟨g, 7, none⟩ v7).setCell ⟨g, 8, none⟩ v8).setCell ⟨g, 9, none⟩ v9).setCell ⟨g, 10, none⟩ v10).setCell ⟨g, 11, none⟩ v11).setCell ⟨g, 12, none⟩ v12).setCell ⟨g, 13, none⟩ v13).setCell ⟨g, 14, none⟩ v14).setCell ⟨g, 15, none⟩ v15) :=
  (((((((((((((((((Tu.refl (fun b => b = g) W).set_ (p := ⟨g, 0, none⟩) rfl v0).set_ (p := ⟨g, 1, none⟩) rfl v1).set_ (p := ⟨g, 2, none⟩) rfl v2).set_ (p := ⟨g, 3, none⟩) rfl v3).set_ (p := ⟨g, 4, none⟩) rfl v4).set_ (p := ⟨g, 5, none⟩) rfl v5).set_ (p := ⟨g, 6, none⟩) rfl v6).set_ (p := ⟨g, 7, none⟩) rfl v7).set_ (p := ⟨g, 8, none⟩) rfl v8).set_ (p := ⟨g, 9, none⟩) rfl v9).set_ (p := ⟨g, 10, none⟩) rfl v10).set_ (p := ⟨g, 11, none⟩) rfl v11).set_ (p := ⟨g, 12, none⟩) rfl v12).set_ (p := ⟨g, 13, none⟩) rfl v13).set_ (p := ⟨g, 14, none⟩) rfl v14).set_ (p := ⟨g, 15, none⟩) rfl v15)

set_option linter.unusedVariables false in
set_option maxRecDepth 100000 in
set_option maxHeartbeats 8000000 in
theorem implSendEndFault_any (slot base next bad : Int) (A0 : Option Addr) (n0 c0 : Nat) (els : List PartD) (A1 : Option Addr) (n1 c1 : Nat) (hs : List HeldD) (A2 : Option Addr) (n2 c2 : Nat) (l : List Int) (A3 : Option Addr) (n3 c3 : Nat) (got : List (List Int)) (Bm : Option Addr) (m d : Nat) (ms : List Int) (w : World)
    (h0 : Lst PartD.cels 4 w A0 n0 els) (h1 : Lst HeldD.cels 3 w A1 n1 hs) (h2 : Bs w A2 n2 l) (hz2 : A2 = none → c2 = 0) (h3 : Lst bytC 1 w A3 n3 got) (hm : Bs w Bm m ms) (hmd : m ≤ d) (hn0 : n0 ≤ 1048576) (hn1 : n1 ≤ 1048576) (hb1 : ∀ e ∈ hs, e.f1.length ≤ 1048576) (hn2 : n2 ≤ 1048576) (hn3 : n3 ≤ 1048576) (hb3 : ∀ e ∈ got, e.length ≤ 1048576) (hmm : m ≤ 1048576) (z : Int) (hz : endF slot base els next hs n2 got bad = z) (hz0 : z ≠ 0) :
    Calls Try.prog 19 #[.agg #[.int .i64 slot, .int .i64 base, .slice A0 n0 c0, .int .i64 next, .slice A1 n1 c1, .slice A2 n2 c2, .slice A3 n3 c3, .int .i64 bad], .slice Bm m d] w fun x w' => x = .returned (.agg #[.int .i64 z, .int .i64 0, .int .i64 0, .slice none 0 0, .int .i64 0, .slice none 0 0, .slice none 0 0, .slice none 0 0, .int .i64 0, .int .i64 0, .int .i64 0, .int .i64 0, .int .i64 0, .bool false, .slice none 0 0, .slice none 0 0]) ∧ Below w.heap.size w w' := by
  have hef := fun W L M N => implEndFault_any slot base next bad A0 n0 c0 els A1 n1 c1 hs A2 n2 c2 A3 n3 c3 got W L M N hn0 hn1 hn2 hn3 hb3
  rw [hz] at hef
  have t0 : (z != 0) = true := by simpa using hz0
  clear hz
  have S0 := (Stc.new w 41 [.int .i64 slot, .int .i64 base, .slice A0 n0 c0, .int .i64 next, .slice A1 n1 c1, .slice A2 n2 c2, .slice A3 n3 c3, .int .i64 bad] _ rfl).alloc (.cells #[.int .i64 0, .int .i64 0, .int .i64 0, .slice none 0 0, .int .i64 0, .slice none 0 0, .slice none 0 0, .slice none 0 0, .int .i64 0, .int .i64 0, .int .i64 0, .int .i64 0, .int .i64 0, .bool false, .slice none 0 0, .slice none 0 0] 48)
  have Z0_ := (Stc.new (w.alloc (.cells #[.int .i64 slot, .int .i64 base, .slice A0 n0 c0, .int .i64 next, .slice A1 n1 c1, .slice A2 n2 c2, .slice A3 n3 c3, .int .i64 bad] 41)) 48 [.int .i64 0, .int .i64 0, .int .i64 0, .slice none 0 0, .int .i64 0, .slice none 0 0, .slice none 0 0, .slice none 0 0, .int .i64 0, .int .i64 0, .int .i64 0, .int .i64 0, .int .i64 0, .bool false, .slice none 0 0, .slice none 0 0] _ rfl)
  have B0 := ab (ab (Below.refl _ w) (.cells #[.int .i64 slot, .int .i64 base, .slice A0 n0 c0, .int .i64 next, .slice A1 n1 c1, .slice A2 n2 c2, .slice A3 n3 c3, .int .i64 bad] 41)) (.cells #[.int .i64 0, .int .i64 0, .int .i64 0, .slice none 0 0, .int .i64 0, .slice none 0 0, .slice none 0 0, .slice none 0 0, .int .i64 0, .int .i64 0, .int .i64 0, .int .i64 0, .int .i64 0, .bool false, .slice none 0 0, .slice none 0 0] 48)
  simp only [World.size_alloc] at Z0_
  have s0 := S0.cell (i := 0) rfl
  have s1 := S0.cell (i := 1) rfl
  have s2 := S0.cell (i := 2) rfl
  have s3 := S0.cell (i := 3) rfl
  have s4 := S0.cell (i := 4) rfl
  have s5 := S0.cell (i := 5) rfl
  have s6 := S0.cell (i := 6) rfl
  have s7 := S0.cell (i := 7) rfl
  go_enter Try.func19, Try.ntmps19
  go_wp2_with fail
  refine (hef _ (h0.below B0) (h1.below B0) (h3.below B0)).mono ?_
  rintro x w1 ⟨rfl, b1⟩
  have z1 := b1.size
  simp only [World.size_alloc] at z1
  replace S0 := S0.below b1 S0.lt
  have ZZ := Z0_.below b1 Z0_.lt
  have B1 := ac B0 b1
  clear s0 s1 s2 s3 s4 s5 s6 s7
  have ZA := ZZ
  have q0 := ZA.cell (i := 0) rfl
  have q1 := ZA.cell (i := 1) rfl
  have q2 := ZA.cell (i := 2) rfl
  have q3 := ZA.cell (i := 3) rfl
  have q4 := ZA.cell (i := 4) rfl
  have q5 := ZA.cell (i := 5) rfl
  have q6 := ZA.cell (i := 6) rfl
  have q7 := ZA.cell (i := 7) rfl
  have q8 := ZA.cell (i := 8) rfl
  have q9 := ZA.cell (i := 9) rfl
  have q10 := ZA.cell (i := 10) rfl
  have q11 := ZA.cell (i := 11) rfl
  have q12 := ZA.cell (i := 12) rfl
  have q13 := ZA.cell (i := 13) rfl
  have q14 := ZA.cell (i := 14) rfl
  have q15 := ZA.cell (i := 15) rfl
  have qf := ZA.frozen
  go_wp2
  have J := stcR ZA (.int .i64 z) (.int .i64 0) (.int .i64 0) (.slice none 0 0) (.int .i64 0) (.slice none 0 0) (.slice none 0 0) (.slice none 0 0) (.int .i64 0) (.int .i64 0) (.int .i64 0) (.int .i64 0) (.int .i64 0) (.bool false) (.slice none 0 0) (.slice none 0 0)
  have r0 := J.cell (i := 0) rfl
  have r1 := J.cell (i := 1) rfl
  have r2 := J.cell (i := 2) rfl
  have r3 := J.cell (i := 3) rfl
  have r4 := J.cell (i := 4) rfl
  have r5 := J.cell (i := 5) rfl
  have r6 := J.cell (i := 6) rfl
  have r7 := J.cell (i := 7) rfl
  have r8 := J.cell (i := 8) rfl
  have r9 := J.cell (i := 9) rfl
  have r10 := J.cell (i := 10) rfl
  have r11 := J.cell (i := 11) rfl
  have r12 := J.cell (i := 12) rfl
  have r13 := J.cell (i := 13) rfl
  have r14 := J.cell (i := 14) rfl
  have r15 := J.cell (i := 15) rfl
  refine bodyPost_ret (v := .agg #[.int .i64 z, .int .i64 0, .int .i64 0, .slice none 0 0, .int .i64 0, .slice none 0 0, .slice none 0 0, .slice none 0 0, .int .i64 0, .int .i64 0, .int .i64 0, .int .i64 0, .int .i64 0, .bool false, .slice none 0 0, .slice none 0 0]) (by simp [results, Try.results19, go_sem, r0, r1, r2, r3, r4, r5, r6, r7, r8, r9, r10, r11, r12, r13, r14, r15]) rfl ?_
  exact ⟨rfl, B1.trans ((tuR w1 (w.heap.size + 1) (.int .i64 z) (.int .i64 0) (.int .i64 0) (.slice none 0 0) (.int .i64 0) (.slice none 0 0) (.slice none 0 0) (.slice none 0 0) (.int .i64 0) (.int .i64 0) (.int .i64 0) (.int .i64 0) (.int .i64 0) (.bool false) (.slice none 0 0) (.slice none 0 0)).below (by have := B1.size; omega) (fun b e => by omega))⟩

set_option linter.unusedVariables false in
set_option maxRecDepth 100000 in
set_option maxHeartbeats 8000000 in
theorem implSendEndNo_any (slot base next bad : Int) (A0 : Option Addr) (n0 c0 : Nat) (els : List PartD) (A1 : Option Addr) (n1 c1 : Nat) (hs : List HeldD) (A2 : Option Addr) (n2 c2 : Nat) (l : List Int) (A3 : Option Addr) (n3 c3 : Nat) (got : List (List Int)) (Bm : Option Addr) (m d : Nat) (ms : List Int) (w : World)
    (h0 : Lst PartD.cels 4 w A0 n0 els) (h1 : Lst HeldD.cels 3 w A1 n1 hs) (h2 : Bs w A2 n2 l) (hz2 : A2 = none → c2 = 0) (h3 : Lst bytC 1 w A3 n3 got) (hm : Bs w Bm m ms) (hmd : m ≤ d) (hn0 : n0 ≤ 1048576) (hn1 : n1 ≤ 1048576) (hb1 : ∀ e ∈ hs, e.f1.length ≤ 1048576) (hn2 : n2 ≤ 1048576) (hn3 : n3 ≤ 1048576) (hb3 : ∀ e ∈ got, e.length ≤ 1048576) (hmm : m ≤ 1048576) (hz : endF slot base els next hs n2 got bad = 0) {Z0 Z1 : Int} {N0 : Nat} {D0 : List PartD} (H : SendOut base els ms Z0 Z1 N0 D0) (hz0 : Z0 ≠ 0) :
    Calls Try.prog 19 #[.agg #[.int .i64 slot, .int .i64 base, .slice A0 n0 c0, .int .i64 next, .slice A1 n1 c1, .slice A2 n2 c2, .slice A3 n3 c3, .int .i64 bad], .slice Bm m d] w fun x w' => x = .returned (.agg #[.int .i64 Z0, .int .i64 0, .int .i64 0, .slice none 0 0, .int .i64 0, .slice none 0 0, .slice none 0 0, .slice none 0 0, .int .i64 0, .int .i64 0, .int .i64 0, .int .i64 0, .int .i64 0, .bool false, .slice none 0 0, .slice none 0 0]) ∧ Below w.heap.size w w' := by
  have hef := fun W L M N => implEndFault_any slot base next bad A0 n0 c0 els A1 n1 c1 hs A2 n2 c2 A3 n3 c3 got W L M N hn0 hn1 hn2 hn3 hb3
  rw [hz] at hef
  have hsm := fun W L M => implSendMessage_any base A0 n0 c0 els Bm m d ms W L M hmd hn0 hmm H
  have t0 : (Z0 != 0) = true := by simpa using hz0
  clear hz H
  have S0 := (Stc.new w 41 [.int .i64 slot, .int .i64 base, .slice A0 n0 c0, .int .i64 next, .slice A1 n1 c1, .slice A2 n2 c2, .slice A3 n3 c3, .int .i64 bad] _ rfl).alloc (.cells #[.int .i64 0, .int .i64 0, .int .i64 0, .slice none 0 0, .int .i64 0, .slice none 0 0, .slice none 0 0, .slice none 0 0, .int .i64 0, .int .i64 0, .int .i64 0, .int .i64 0, .int .i64 0, .bool false, .slice none 0 0, .slice none 0 0] 48)
  have Z0_ := (Stc.new (w.alloc (.cells #[.int .i64 slot, .int .i64 base, .slice A0 n0 c0, .int .i64 next, .slice A1 n1 c1, .slice A2 n2 c2, .slice A3 n3 c3, .int .i64 bad] 41)) 48 [.int .i64 0, .int .i64 0, .int .i64 0, .slice none 0 0, .int .i64 0, .slice none 0 0, .slice none 0 0, .slice none 0 0, .int .i64 0, .int .i64 0, .int .i64 0, .int .i64 0, .int .i64 0, .bool false, .slice none 0 0, .slice none 0 0] _ rfl)
  have B0 := ab (ab (Below.refl _ w) (.cells #[.int .i64 slot, .int .i64 base, .slice A0 n0 c0, .int .i64 next, .slice A1 n1 c1, .slice A2 n2 c2, .slice A3 n3 c3, .int .i64 bad] 41)) (.cells #[.int .i64 0, .int .i64 0, .int .i64 0, .slice none 0 0, .int .i64 0, .slice none 0 0, .slice none 0 0, .slice none 0 0, .int .i64 0, .int .i64 0, .int .i64 0, .int .i64 0, .int .i64 0, .bool false, .slice none 0 0, .slice none 0 0] 48)
  simp only [World.size_alloc] at Z0_
  have s0 := S0.cell (i := 0) rfl
  have s1 := S0.cell (i := 1) rfl
  have s2 := S0.cell (i := 2) rfl
  have s3 := S0.cell (i := 3) rfl
  have s4 := S0.cell (i := 4) rfl
  have s5 := S0.cell (i := 5) rfl
  have s6 := S0.cell (i := 6) rfl
  have s7 := S0.cell (i := 7) rfl
  go_enter Try.func19, Try.ntmps19
  go_wp2_with fail
  refine (hef _ (h0.below B0) (h1.below B0) (h3.below B0)).mono ?_
  rintro x w1 ⟨rfl, b1⟩
  have z1 := b1.size
  simp only [World.size_alloc] at z1
  replace S0 := S0.below b1 S0.lt
  have ZZ := Z0_.below b1 Z0_.lt
  have B1 := ac B0 b1
  clear s0 s1 s2 s3 s4 s5 s6 s7
  have s1 := S0.cell (i := 1) rfl
  have s2 := S0.cell (i := 2) rfl
  go_wp2_with fail
  refine (hsm _ (h0.below B1) (hm.below B1)).mono ?_
  rintro x w2 ⟨⟨P0, p0, rfl, R0⟩, b2⟩
  have z2 := b2.size
  replace S0 := S0.below b2 S0.lt
  replace ZZ := ZZ.below b2 ZZ.lt
  have B2 := ac B1 b2
  clear s1 s2
  have ZA := ZZ.alloc (.cells #[.int .i64 Z0, .int .i64 Z1, .slice P0 N0 p0] 61)
  have q0 := ZA.cell (i := 0) rfl
  have q1 := ZA.cell (i := 1) rfl
  have q2 := ZA.cell (i := 2) rfl
  have q3 := ZA.cell (i := 3) rfl
  have q4 := ZA.cell (i := 4) rfl
  have q5 := ZA.cell (i := 5) rfl
  have q6 := ZA.cell (i := 6) rfl
  have q7 := ZA.cell (i := 7) rfl
  have q8 := ZA.cell (i := 8) rfl
  have q9 := ZA.cell (i := 9) rfl
  have q10 := ZA.cell (i := 10) rfl
  have q11 := ZA.cell (i := 11) rfl
  have q12 := ZA.cell (i := 12) rfl
  have q13 := ZA.cell (i := 13) rfl
  have q14 := ZA.cell (i := 14) rfl
  have q15 := ZA.cell (i := 15) rfl
  have qf := ZA.frozen
  go_wp2
  have J := stcR ZA (.int .i64 Z0) (.int .i64 0) (.int .i64 0) (.slice none 0 0) (.int .i64 0) (.slice none 0 0) (.slice none 0 0) (.slice none 0 0) (.int .i64 0) (.int .i64 0) (.int .i64 0) (.int .i64 0) (.int .i64 0) (.bool false) (.slice none 0 0) (.slice none 0 0)
  have r0 := J.cell (i := 0) rfl
  have r1 := J.cell (i := 1) rfl
  have r2 := J.cell (i := 2) rfl
  have r3 := J.cell (i := 3) rfl
  have r4 := J.cell (i := 4) rfl
  have r5 := J.cell (i := 5) rfl
  have r6 := J.cell (i := 6) rfl
  have r7 := J.cell (i := 7) rfl
  have r8 := J.cell (i := 8) rfl
  have r9 := J.cell (i := 9) rfl
  have r10 := J.cell (i := 10) rfl
  have r11 := J.cell (i := 11) rfl
  have r12 := J.cell (i := 12) rfl
  have r13 := J.cell (i := 13) rfl
  have r14 := J.cell (i := 14) rfl
  have r15 := J.cell (i := 15) rfl
  refine bodyPost_ret (v := .agg #[.int .i64 Z0, .int .i64 0, .int .i64 0, .slice none 0 0, .int .i64 0, .slice none 0 0, .slice none 0 0, .slice none 0 0, .int .i64 0, .int .i64 0, .int .i64 0, .int .i64 0, .int .i64 0, .bool false, .slice none 0 0, .slice none 0 0]) (by simp [results, Try.results19, go_sem, r0, r1, r2, r3, r4, r5, r6, r7, r8, r9, r10, r11, r12, r13, r14, r15]) rfl ?_
  exact ⟨rfl, (ab B2 (.cells #[.int .i64 Z0, .int .i64 Z1, .slice P0 N0 p0] 61)).trans ((tuR (w2.alloc (.cells #[.int .i64 Z0, .int .i64 Z1, .slice P0 N0 p0] 61)) (w.heap.size + 1) (.int .i64 Z0) (.int .i64 0) (.int .i64 0) (.slice none 0 0) (.int .i64 0) (.slice none 0 0) (.slice none 0 0) (.slice none 0 0) (.int .i64 0) (.int .i64 0) (.int .i64 0) (.int .i64 0) (.int .i64 0) (.bool false) (.slice none 0 0) (.slice none 0 0)).below (by have := (ab B2 (.cells #[.int .i64 Z0, .int .i64 Z1, .slice P0 N0 p0] 61)).size; omega) (fun b e => by omega))⟩

set_option linter.unusedVariables false in
set_option maxRecDepth 100000 in
set_option maxHeartbeats 8000000 in
theorem implSendEndOk_any (slot base next bad : Int) (A0 : Option Addr) (n0 c0 : Nat) (els : List PartD) (A1 : Option Addr) (n1 c1 : Nat) (hs : List HeldD) (A2 : Option Addr) (n2 c2 : Nat) (l : List Int) (A3 : Option Addr) (n3 c3 : Nat) (got : List (List Int)) (Bm : Option Addr) (m d : Nat) (ms : List Int) (w : World)
    (h0 : Lst PartD.cels 4 w A0 n0 els) (h1 : Lst HeldD.cels 3 w A1 n1 hs) (h2 : Bs w A2 n2 l) (hz2 : A2 = none → c2 = 0) (h3 : Lst bytC 1 w A3 n3 got) (hm : Bs w Bm m ms) (hmd : m ≤ d) (hn0 : n0 ≤ 1048576) (hn1 : n1 ≤ 1048576) (hb1 : ∀ e ∈ hs, e.f1.length ≤ 1048576) (hn2 : n2 ≤ 1048576) (hn3 : n3 ≤ 1048576) (hb3 : ∀ e ∈ got, e.length ≤ 1048576) (hmm : m ≤ 1048576) (hz : endF slot base els next hs n2 got bad = 0) {Z1 : Int} {N0 : Nat} {D0 : List PartD} (H : SendOut base els ms 0 Z1 N0 D0) :
    Calls Try.prog 19 #[.agg #[.int .i64 slot, .int .i64 base, .slice A0 n0 c0, .int .i64 next, .slice A1 n1 c1, .slice A2 n2 c2, .slice A3 n3 c3, .int .i64 bad], .slice Bm m d] w fun x w' => (∃ P0 p0 P1 p1 P2 p2 P3 p3, x = .returned (.agg #[.int .i64 0, .int .i64 slot, .int .i64 Z1, .slice P0 N0 p0, .int .i64 next, .slice P1 n1 p1, .slice P2 n2 p2, .slice P3 n3 p3, .int .i64 bad, .int .i64 0, .int .i64 0, .int .i64 0, .int .i64 0, .bool false, .slice none 0 0, .slice none 0 0]) ∧ EndB P0 N0 D0 P1 n1 hs P2 n2 l P3 n3 got w' (rng w.heap.size w'.heap.size)) ∧ Below w.heap.size w w' := by
  have hef := fun W L M N => implEndFault_any slot base next bad A0 n0 c0 els A1 n1 c1 hs A2 n2 c2 A3 n3 c3 got W L M N hn0 hn1 hn2 hn3 hb3
  rw [hz] at hef
  have hsm := fun W L M => implSendMessage_any base A0 n0 c0 els Bm m d ms W L M hmd hn0 hmm H
  have hb0 : ∀ e ∈ els, e.f0.length ≤ 1048576 := fun e he => by have := ((senF_zero (endF_zero hz).2.1).2.2.2 e he).1; omega
  have Hl3 := Shut.mk h3.len
  have hcp := fun W L M N O => endCopied_any slot base next bad A0 n0 c0 els A1 n1 c1 hs A2 n2 c2 l A3 n3 c3 got W L M N hz2 O hn0 hb0 hn1 hb1 hn2 hn3 hb3
  clear hz H
  have S0 := (Stc.new w 41 [.int .i64 slot, .int .i64 base, .slice A0 n0 c0, .int .i64 next, .slice A1 n1 c1, .slice A2 n2 c2, .slice A3 n3 c3, .int .i64 bad] _ rfl).alloc (.cells #[.int .i64 0, .int .i64 0, .int .i64 0, .slice none 0 0, .int .i64 0, .slice none 0 0, .slice none 0 0, .slice none 0 0, .int .i64 0, .int .i64 0, .int .i64 0, .int .i64 0, .int .i64 0, .bool false, .slice none 0 0, .slice none 0 0] 48)
  have Z0_ := (Stc.new (w.alloc (.cells #[.int .i64 slot, .int .i64 base, .slice A0 n0 c0, .int .i64 next, .slice A1 n1 c1, .slice A2 n2 c2, .slice A3 n3 c3, .int .i64 bad] 41)) 48 [.int .i64 0, .int .i64 0, .int .i64 0, .slice none 0 0, .int .i64 0, .slice none 0 0, .slice none 0 0, .slice none 0 0, .int .i64 0, .int .i64 0, .int .i64 0, .int .i64 0, .int .i64 0, .bool false, .slice none 0 0, .slice none 0 0] _ rfl)
  have B0 := ab (ab (Below.refl _ w) (.cells #[.int .i64 slot, .int .i64 base, .slice A0 n0 c0, .int .i64 next, .slice A1 n1 c1, .slice A2 n2 c2, .slice A3 n3 c3, .int .i64 bad] 41)) (.cells #[.int .i64 0, .int .i64 0, .int .i64 0, .slice none 0 0, .int .i64 0, .slice none 0 0, .slice none 0 0, .slice none 0 0, .int .i64 0, .int .i64 0, .int .i64 0, .int .i64 0, .int .i64 0, .bool false, .slice none 0 0, .slice none 0 0] 48)
  simp only [World.size_alloc] at Z0_
  have s0 := S0.cell (i := 0) rfl
  have s1 := S0.cell (i := 1) rfl
  have s2 := S0.cell (i := 2) rfl
  have s3 := S0.cell (i := 3) rfl
  have s4 := S0.cell (i := 4) rfl
  have s5 := S0.cell (i := 5) rfl
  have s6 := S0.cell (i := 6) rfl
  have s7 := S0.cell (i := 7) rfl
  go_enter Try.func19, Try.ntmps19
  go_wp2_with fail
  refine (hef _ (h0.below B0) (h1.below B0) (h3.below B0)).mono ?_
  rintro x w1 ⟨rfl, b1⟩
  have z1 := b1.size
  simp only [World.size_alloc] at z1
  replace S0 := S0.below b1 S0.lt
  have ZZ := Z0_.below b1 Z0_.lt
  have B1 := ac B0 b1
  clear s0 s1 s2 s3 s4 s5 s6 s7
  have s1 := S0.cell (i := 1) rfl
  have s2 := S0.cell (i := 2) rfl
  go_wp2_with fail
  refine (hsm _ (h0.below B1) (hm.below B1)).mono ?_
  rintro x w2 ⟨⟨P0, p0, rfl, R0⟩, b2⟩
  have z2 := b2.size
  replace S0 := S0.below b2 S0.lt
  replace ZZ := ZZ.below b2 ZZ.lt
  have B2 := ac B1 b2
  clear s1 s2
  have RB := Stc.new w2 61 [.int .i64 0, .int .i64 Z1, .slice P0 N0 p0] _ rfl
  have BR := ab (Below.refl w2.heap.size w2) (.cells #[.int .i64 0, .int .i64 Z1, .slice P0 N0 p0] 61)
  have B3 := ac B2 BR
  replace S0 := S0.below BR S0.lt
  replace ZZ := ZZ.below BR ZZ.lt
  have s0 := S0.cell (i := 0) rfl
  have s1 := S0.cell (i := 1) rfl
  have s2 := S0.cell (i := 2) rfl
  have s3 := S0.cell (i := 3) rfl
  have s4 := S0.cell (i := 4) rfl
  have s5 := S0.cell (i := 5) rfl
  have s6 := S0.cell (i := 6) rfl
  have s7 := S0.cell (i := 7) rfl
  go_wp2_with fail
  refine (hcp _ (h0.below B3) (h1.below B3) (h2.below B3) (h3.below B3)).mono ?_
  rintro x w4 ⟨⟨A0', c0', P1, p1, P2, p2, P3, p3, rfl, _, _, _, RE⟩, b4⟩
  have z4 := b4.size
  simp only [World.size_alloc] at z4 RE
  clear s0 s1 s2 s3 s4 s5 s6 s7
  have REB := RE.toB Hl3.out
  have R0b := (okP P0 N0 D0).below ((okP P0 N0 D0).below R0 BR) b4
  replace RB := RB.below b4 RB.lt
  replace ZZ := ZZ.below b4 ZZ.lt
  have B4 := ac B3 b4
  have REC := (okEndB _ _ _ _ _ _ _ _ _ _ _ _).widen REB (lo' := w2.heap.size) (hi' := w4.heap.size) (by omega) (Nat.le_refl _)
  have RES := REC.sender R0b z2 (by omega)
  have BE := ab (Below.refl w4.heap.size w4) (.cells #[.int .i64 slot, .int .i64 base, .slice A0' n0 c0', .int .i64 next, .slice P1 n1 p1, .slice P2 n2 p2, .slice P3 n3 p3, .int .i64 bad] 41)
  have EBX := Stc.new w4 41 [.int .i64 slot, .int .i64 base, .slice A0' n0 c0', .int .i64 next, .slice P1 n1 p1, .slice P2 n2 p2, .slice P3 n3 p3, .int .i64 bad] _ rfl
  have RBa := RB.alloc (.cells #[.int .i64 slot, .int .i64 base, .slice A0' n0 c0', .int .i64 next, .slice P1 n1 p1, .slice P2 n2 p2, .slice P3 n3 p3, .int .i64 bad] 41)
  have ZZa := ZZ.alloc (.cells #[.int .i64 slot, .int .i64 base, .slice A0' n0 c0', .int .i64 next, .slice P1 n1 p1, .slice P2 n2 p2, .slice P3 n3 p3, .int .i64 bad] 41)
  have k1 := RBa.cell (i := 1) rfl
  have k2 := RBa.cell (i := 2) rfl
  go_upto_region 9 with fail
  clear k1 k2 RBa ZZa BE
  have BE := ab (Below.refl w4.heap.size w4) (.cells #[.int .i64 slot, .int .i64 Z1, .slice P0 N0 p0, .int .i64 next, .slice P1 n1 p1, .slice P2 n2 p2, .slice P3 n3 p3, .int .i64 bad] 41)
  have ZZb := ZZ.alloc (.cells #[.int .i64 slot, .int .i64 Z1, .slice P0 N0 p0, .int .i64 next, .slice P1 n1 p1, .slice P2 n2 p2, .slice P3 n3 p3, .int .i64 bad] 41)
  have q0 := ZZb.cell (i := 0) rfl
  have q1 := ZZb.cell (i := 1) rfl
  have q2 := ZZb.cell (i := 2) rfl
  have q3 := ZZb.cell (i := 3) rfl
  have q4 := ZZb.cell (i := 4) rfl
  have q5 := ZZb.cell (i := 5) rfl
  have q6 := ZZb.cell (i := 6) rfl
  have q7 := ZZb.cell (i := 7) rfl
  have q8 := ZZb.cell (i := 8) rfl
  have q9 := ZZb.cell (i := 9) rfl
  have q10 := ZZb.cell (i := 10) rfl
  have q11 := ZZb.cell (i := 11) rfl
  have q12 := ZZb.cell (i := 12) rfl
  have q13 := ZZb.cell (i := 13) rfl
  have q14 := ZZb.cell (i := 14) rfl
  have q15 := ZZb.cell (i := 15) rfl
  have qf := ZZb.frozen
  go_wp2
  have J := stcR ZZb (.int .i64 0) (.int .i64 slot) (.int .i64 Z1) (.slice P0 N0 p0) (.int .i64 next) (.slice P1 n1 p1) (.slice P2 n2 p2) (.slice P3 n3 p3) (.int .i64 bad) (.int .i64 0) (.int .i64 0) (.int .i64 0) (.int .i64 0) (.bool false) (.slice none 0 0) (.slice none 0 0)
  have r0 := J.cell (i := 0) rfl
  have r1 := J.cell (i := 1) rfl
  have r2 := J.cell (i := 2) rfl
  have r3 := J.cell (i := 3) rfl
  have r4 := J.cell (i := 4) rfl
  have r5 := J.cell (i := 5) rfl
  have r6 := J.cell (i := 6) rfl
  have r7 := J.cell (i := 7) rfl
  have r8 := J.cell (i := 8) rfl
  have r9 := J.cell (i := 9) rfl
  have r10 := J.cell (i := 10) rfl
  have r11 := J.cell (i := 11) rfl
  have r12 := J.cell (i := 12) rfl
  have r13 := J.cell (i := 13) rfl
  have r14 := J.cell (i := 14) rfl
  have r15 := J.cell (i := 15) rfl
  refine bodyPost_ret (v := .agg #[.int .i64 0, .int .i64 slot, .int .i64 Z1, .slice P0 N0 p0, .int .i64 next, .slice P1 n1 p1, .slice P2 n2 p2, .slice P3 n3 p3, .int .i64 bad, .int .i64 0, .int .i64 0, .int .i64 0, .int .i64 0, .bool false, .slice none 0 0, .slice none 0 0]) (by simp [results, Try.results19, go_sem, r0, r1, r2, r3, r4, r5, r6, r7, r8, r9, r10, r11, r12, r13, r14, r15]) rfl ?_
  have TF := tuR (w4.alloc (.cells #[.int .i64 slot, .int .i64 Z1, .slice P0 N0 p0, .int .i64 next, .slice P1 n1 p1, .slice P2 n2 p2, .slice P3 n3 p3, .int .i64 bad] 41)) (w.heap.size + 1) (.int .i64 0) (.int .i64 slot) (.int .i64 Z1) (.slice P0 N0 p0) (.int .i64 next) (.slice P1 n1 p1) (.slice P2 n2 p2) (.slice P3 n3 p3) (.int .i64 bad) (.int .i64 0) (.int .i64 0) (.int .i64 0) (.int .i64 0) (.bool false) (.slice none 0 0) (.slice none 0 0)
  have OK := okEndB P0 N0 D0 P1 n1 hs P2 n2 l P3 n3 got
  have RF := OK.tu (OK.below RES BE) TF (fun b hF e => by unfold rng at hF; omega)
  refine ⟨⟨P0, p0, P1, p1, P2, p2, P3, p3, rfl, ?_⟩, (ac B4 BE).trans (TF.below (by simp; omega) (fun b e => by omega))⟩
  exact OK.widen RF (by omega) (by simp only [World.size_setCell, World.size_alloc]; omega)

set_option linter.unusedVariables false in
set_option maxRecDepth 100000 in
set_option maxHeartbeats 8000000 in
theorem specSendEndFault_any (slot base next bad : Int) (A0 : Option Addr) (n0 c0 : Nat) (els : List PartD) (A1 : Option Addr) (n1 c1 : Nat) (hs : List HeldD) (A2 : Option Addr) (n2 c2 : Nat) (l : List Int) (A3 : Option Addr) (n3 c3 : Nat) (got : List (List Int)) (Bm : Option Addr) (m d : Nat) (ms : List Int) (w : World)
    (h0 : Lst PartD.cels 4 w A0 n0 els) (h1 : Lst HeldD.cels 3 w A1 n1 hs) (h2 : Bs w A2 n2 l) (hz2 : A2 = none → c2 = 0) (h3 : Lst bytC 1 w A3 n3 got) (hm : Bs w Bm m ms) (hmd : m ≤ d) (hn0 : n0 ≤ 1048576) (hn1 : n1 ≤ 1048576) (hb1 : ∀ e ∈ hs, e.f1.length ≤ 1048576) (hn2 : n2 ≤ 1048576) (hn3 : n3 ≤ 1048576) (hb3 : ∀ e ∈ got, e.length ≤ 1048576) (hmm : m ≤ 1048576) (z : Int) (hz : endF slot base els next hs n2 got bad = z) (hz0 : z ≠ 0) :
    Calls Try.prog 17 #[.agg #[.int .i64 slot, .int .i64 base, .slice A0 n0 c0, .int .i64 next, .slice A1 n1 c1, .slice A2 n2 c2, .slice A3 n3 c3, .int .i64 bad], .slice Bm m d] w fun x w' => x = .returned (.agg #[.int .i64 z, .int .i64 0, .int .i64 0, .slice none 0 0, .int .i64 0, .slice none 0 0, .slice none 0 0, .slice none 0 0, .int .i64 0, .int .i64 0, .int .i64 0, .int .i64 0, .int .i64 0, .bool false, .slice none 0 0, .slice none 0 0]) ∧ Below w.heap.size w w' := by
  have hef := fun W L M N => specEndFault_any slot base next bad A0 n0 c0 els A1 n1 c1 hs A2 n2 c2 A3 n3 c3 got W L M N hn0 hn1 hn2 hn3 hb3
  rw [hz] at hef
  have t0 : (z != 0) = true := by simpa using hz0
  clear hz
  have S0 := (Stc.new w 41 [.int .i64 slot, .int .i64 base, .slice A0 n0 c0, .int .i64 next, .slice A1 n1 c1, .slice A2 n2 c2, .slice A3 n3 c3, .int .i64 bad] _ rfl).alloc (.cells #[.int .i64 0, .int .i64 0, .int .i64 0, .slice none 0 0, .int .i64 0, .slice none 0 0, .slice none 0 0, .slice none 0 0, .int .i64 0, .int .i64 0, .int .i64 0, .int .i64 0, .int .i64 0, .bool false, .slice none 0 0, .slice none 0 0] 48)
  have Z0_ := (Stc.new (w.alloc (.cells #[.int .i64 slot, .int .i64 base, .slice A0 n0 c0, .int .i64 next, .slice A1 n1 c1, .slice A2 n2 c2, .slice A3 n3 c3, .int .i64 bad] 41)) 48 [.int .i64 0, .int .i64 0, .int .i64 0, .slice none 0 0, .int .i64 0, .slice none 0 0, .slice none 0 0, .slice none 0 0, .int .i64 0, .int .i64 0, .int .i64 0, .int .i64 0, .int .i64 0, .bool false, .slice none 0 0, .slice none 0 0] _ rfl)
  have B0 := ab (ab (Below.refl _ w) (.cells #[.int .i64 slot, .int .i64 base, .slice A0 n0 c0, .int .i64 next, .slice A1 n1 c1, .slice A2 n2 c2, .slice A3 n3 c3, .int .i64 bad] 41)) (.cells #[.int .i64 0, .int .i64 0, .int .i64 0, .slice none 0 0, .int .i64 0, .slice none 0 0, .slice none 0 0, .slice none 0 0, .int .i64 0, .int .i64 0, .int .i64 0, .int .i64 0, .int .i64 0, .bool false, .slice none 0 0, .slice none 0 0] 48)
  simp only [World.size_alloc] at Z0_
  have s0 := S0.cell (i := 0) rfl
  have s1 := S0.cell (i := 1) rfl
  have s2 := S0.cell (i := 2) rfl
  have s3 := S0.cell (i := 3) rfl
  have s4 := S0.cell (i := 4) rfl
  have s5 := S0.cell (i := 5) rfl
  have s6 := S0.cell (i := 6) rfl
  have s7 := S0.cell (i := 7) rfl
  go_enter Try.func17, Try.ntmps17
  go_wp2_with fail
  refine (hef _ (h0.below B0) (h1.below B0) (h3.below B0)).mono ?_
  rintro x w1 ⟨rfl, b1⟩
  have z1 := b1.size
  simp only [World.size_alloc] at z1
  replace S0 := S0.below b1 S0.lt
  have ZZ := Z0_.below b1 Z0_.lt
  have B1 := ac B0 b1
  clear s0 s1 s2 s3 s4 s5 s6 s7
  have ZA := ZZ
  have q0 := ZA.cell (i := 0) rfl
  have q1 := ZA.cell (i := 1) rfl
  have q2 := ZA.cell (i := 2) rfl
  have q3 := ZA.cell (i := 3) rfl
  have q4 := ZA.cell (i := 4) rfl
  have q5 := ZA.cell (i := 5) rfl
  have q6 := ZA.cell (i := 6) rfl
  have q7 := ZA.cell (i := 7) rfl
  have q8 := ZA.cell (i := 8) rfl
  have q9 := ZA.cell (i := 9) rfl
  have q10 := ZA.cell (i := 10) rfl
  have q11 := ZA.cell (i := 11) rfl
  have q12 := ZA.cell (i := 12) rfl
  have q13 := ZA.cell (i := 13) rfl
  have q14 := ZA.cell (i := 14) rfl
  have q15 := ZA.cell (i := 15) rfl
  have qf := ZA.frozen
  go_wp2
  have J := stcR ZA (.int .i64 z) (.int .i64 0) (.int .i64 0) (.slice none 0 0) (.int .i64 0) (.slice none 0 0) (.slice none 0 0) (.slice none 0 0) (.int .i64 0) (.int .i64 0) (.int .i64 0) (.int .i64 0) (.int .i64 0) (.bool false) (.slice none 0 0) (.slice none 0 0)
  have r0 := J.cell (i := 0) rfl
  have r1 := J.cell (i := 1) rfl
  have r2 := J.cell (i := 2) rfl
  have r3 := J.cell (i := 3) rfl
  have r4 := J.cell (i := 4) rfl
  have r5 := J.cell (i := 5) rfl
  have r6 := J.cell (i := 6) rfl
  have r7 := J.cell (i := 7) rfl
  have r8 := J.cell (i := 8) rfl
  have r9 := J.cell (i := 9) rfl
  have r10 := J.cell (i := 10) rfl
  have r11 := J.cell (i := 11) rfl
  have r12 := J.cell (i := 12) rfl
  have r13 := J.cell (i := 13) rfl
  have r14 := J.cell (i := 14) rfl
  have r15 := J.cell (i := 15) rfl
  refine bodyPost_ret (v := .agg #[.int .i64 z, .int .i64 0, .int .i64 0, .slice none 0 0, .int .i64 0, .slice none 0 0, .slice none 0 0, .slice none 0 0, .int .i64 0, .int .i64 0, .int .i64 0, .int .i64 0, .int .i64 0, .bool false, .slice none 0 0, .slice none 0 0]) (by simp [results, Try.results17, go_sem, r0, r1, r2, r3, r4, r5, r6, r7, r8, r9, r10, r11, r12, r13, r14, r15]) rfl ?_
  exact ⟨rfl, B1.trans ((tuR w1 (w.heap.size + 1) (.int .i64 z) (.int .i64 0) (.int .i64 0) (.slice none 0 0) (.int .i64 0) (.slice none 0 0) (.slice none 0 0) (.slice none 0 0) (.int .i64 0) (.int .i64 0) (.int .i64 0) (.int .i64 0) (.int .i64 0) (.bool false) (.slice none 0 0) (.slice none 0 0)).below (by have := B1.size; omega) (fun b e => by omega))⟩

set_option linter.unusedVariables false in
set_option maxRecDepth 100000 in
set_option maxHeartbeats 8000000 in
theorem specSendEndNo_any (slot base next bad : Int) (A0 : Option Addr) (n0 c0 : Nat) (els : List PartD) (A1 : Option Addr) (n1 c1 : Nat) (hs : List HeldD) (A2 : Option Addr) (n2 c2 : Nat) (l : List Int) (A3 : Option Addr) (n3 c3 : Nat) (got : List (List Int)) (Bm : Option Addr) (m d : Nat) (ms : List Int) (w : World)
    (h0 : Lst PartD.cels 4 w A0 n0 els) (h1 : Lst HeldD.cels 3 w A1 n1 hs) (h2 : Bs w A2 n2 l) (hz2 : A2 = none → c2 = 0) (h3 : Lst bytC 1 w A3 n3 got) (hm : Bs w Bm m ms) (hmd : m ≤ d) (hn0 : n0 ≤ 1048576) (hn1 : n1 ≤ 1048576) (hb1 : ∀ e ∈ hs, e.f1.length ≤ 1048576) (hn2 : n2 ≤ 1048576) (hn3 : n3 ≤ 1048576) (hb3 : ∀ e ∈ got, e.length ≤ 1048576) (hmm : m ≤ 1048576) (hz : endF slot base els next hs n2 got bad = 0) {Z0 Z1 : Int} {N0 : Nat} {D0 : List PartD} (H : SendOut base els ms Z0 Z1 N0 D0) (hz0 : Z0 ≠ 0) :
    Calls Try.prog 17 #[.agg #[.int .i64 slot, .int .i64 base, .slice A0 n0 c0, .int .i64 next, .slice A1 n1 c1, .slice A2 n2 c2, .slice A3 n3 c3, .int .i64 bad], .slice Bm m d] w fun x w' => x = .returned (.agg #[.int .i64 Z0, .int .i64 0, .int .i64 0, .slice none 0 0, .int .i64 0, .slice none 0 0, .slice none 0 0, .slice none 0 0, .int .i64 0, .int .i64 0, .int .i64 0, .int .i64 0, .int .i64 0, .bool false, .slice none 0 0, .slice none 0 0]) ∧ Below w.heap.size w w' := by
  have hef := fun W L M N => specEndFault_any slot base next bad A0 n0 c0 els A1 n1 c1 hs A2 n2 c2 A3 n3 c3 got W L M N hn0 hn1 hn2 hn3 hb3
  rw [hz] at hef
  have hsm := fun W L M => specSendMessage_any base A0 n0 c0 els Bm m d ms W L M hmd hn0 hmm H
  have t0 : (Z0 != 0) = true := by simpa using hz0
  clear hz H
  have S0 := (Stc.new w 41 [.int .i64 slot, .int .i64 base, .slice A0 n0 c0, .int .i64 next, .slice A1 n1 c1, .slice A2 n2 c2, .slice A3 n3 c3, .int .i64 bad] _ rfl).alloc (.cells #[.int .i64 0, .int .i64 0, .int .i64 0, .slice none 0 0, .int .i64 0, .slice none 0 0, .slice none 0 0, .slice none 0 0, .int .i64 0, .int .i64 0, .int .i64 0, .int .i64 0, .int .i64 0, .bool false, .slice none 0 0, .slice none 0 0] 48)
  have Z0_ := (Stc.new (w.alloc (.cells #[.int .i64 slot, .int .i64 base, .slice A0 n0 c0, .int .i64 next, .slice A1 n1 c1, .slice A2 n2 c2, .slice A3 n3 c3, .int .i64 bad] 41)) 48 [.int .i64 0, .int .i64 0, .int .i64 0, .slice none 0 0, .int .i64 0, .slice none 0 0, .slice none 0 0, .slice none 0 0, .int .i64 0, .int .i64 0, .int .i64 0, .int .i64 0, .int .i64 0, .bool false, .slice none 0 0, .slice none 0 0] _ rfl)
  have B0 := ab (ab (Below.refl _ w) (.cells #[.int .i64 slot, .int .i64 base, .slice A0 n0 c0, .int .i64 next, .slice A1 n1 c1, .slice A2 n2 c2, .slice A3 n3 c3, .int .i64 bad] 41)) (.cells #[.int .i64 0, .int .i64 0, .int .i64 0, .slice none 0 0, .int .i64 0, .slice none 0 0, .slice none 0 0, .slice none 0 0, .int .i64 0, .int .i64 0, .int .i64 0, .int .i64 0, .int .i64 0, .bool false, .slice none 0 0, .slice none 0 0] 48)
  simp only [World.size_alloc] at Z0_
  have s0 := S0.cell (i := 0) rfl
  have s1 := S0.cell (i := 1) rfl
  have s2 := S0.cell (i := 2) rfl
  have s3 := S0.cell (i := 3) rfl
  have s4 := S0.cell (i := 4) rfl
  have s5 := S0.cell (i := 5) rfl
  have s6 := S0.cell (i := 6) rfl
  have s7 := S0.cell (i := 7) rfl
  go_enter Try.func17, Try.ntmps17
  go_wp2_with fail
  refine (hef _ (h0.below B0) (h1.below B0) (h3.below B0)).mono ?_
  rintro x w1 ⟨rfl, b1⟩
  have z1 := b1.size
  simp only [World.size_alloc] at z1
  replace S0 := S0.below b1 S0.lt
  have ZZ := Z0_.below b1 Z0_.lt
  have B1 := ac B0 b1
  clear s0 s1 s2 s3 s4 s5 s6 s7
  have s1 := S0.cell (i := 1) rfl
  have s2 := S0.cell (i := 2) rfl
  go_wp2_with fail
  refine (hsm _ (h0.below B1) (hm.below B1)).mono ?_
  rintro x w2 ⟨⟨P0, p0, rfl, R0⟩, b2⟩
  have z2 := b2.size
  replace S0 := S0.below b2 S0.lt
  replace ZZ := ZZ.below b2 ZZ.lt
  have B2 := ac B1 b2
  clear s1 s2
  have ZA := ZZ.alloc (.cells #[.int .i64 Z0, .int .i64 Z1, .slice P0 N0 p0] 61)
  have q0 := ZA.cell (i := 0) rfl
  have q1 := ZA.cell (i := 1) rfl
  have q2 := ZA.cell (i := 2) rfl
  have q3 := ZA.cell (i := 3) rfl
  have q4 := ZA.cell (i := 4) rfl
  have q5 := ZA.cell (i := 5) rfl
  have q6 := ZA.cell (i := 6) rfl
  have q7 := ZA.cell (i := 7) rfl
  have q8 := ZA.cell (i := 8) rfl
  have q9 := ZA.cell (i := 9) rfl
  have q10 := ZA.cell (i := 10) rfl
  have q11 := ZA.cell (i := 11) rfl
  have q12 := ZA.cell (i := 12) rfl
  have q13 := ZA.cell (i := 13) rfl
  have q14 := ZA.cell (i := 14) rfl
  have q15 := ZA.cell (i := 15) rfl
  have qf := ZA.frozen
  go_wp2
  have J := stcR ZA (.int .i64 Z0) (.int .i64 0) (.int .i64 0) (.slice none 0 0) (.int .i64 0) (.slice none 0 0) (.slice none 0 0) (.slice none 0 0) (.int .i64 0) (.int .i64 0) (.int .i64 0) (.int .i64 0) (.int .i64 0) (.bool false) (.slice none 0 0) (.slice none 0 0)
  have r0 := J.cell (i := 0) rfl
  have r1 := J.cell (i := 1) rfl
  have r2 := J.cell (i := 2) rfl
  have r3 := J.cell (i := 3) rfl
  have r4 := J.cell (i := 4) rfl
  have r5 := J.cell (i := 5) rfl
  have r6 := J.cell (i := 6) rfl
  have r7 := J.cell (i := 7) rfl
  have r8 := J.cell (i := 8) rfl
  have r9 := J.cell (i := 9) rfl
  have r10 := J.cell (i := 10) rfl
  have r11 := J.cell (i := 11) rfl
  have r12 := J.cell (i := 12) rfl
  have r13 := J.cell (i := 13) rfl
  have r14 := J.cell (i := 14) rfl
  have r15 := J.cell (i := 15) rfl
  refine bodyPost_ret (v := .agg #[.int .i64 Z0, .int .i64 0, .int .i64 0, .slice none 0 0, .int .i64 0, .slice none 0 0, .slice none 0 0, .slice none 0 0, .int .i64 0, .int .i64 0, .int .i64 0, .int .i64 0, .int .i64 0, .bool false, .slice none 0 0, .slice none 0 0]) (by simp [results, Try.results17, go_sem, r0, r1, r2, r3, r4, r5, r6, r7, r8, r9, r10, r11, r12, r13, r14, r15]) rfl ?_
  exact ⟨rfl, (ab B2 (.cells #[.int .i64 Z0, .int .i64 Z1, .slice P0 N0 p0] 61)).trans ((tuR (w2.alloc (.cells #[.int .i64 Z0, .int .i64 Z1, .slice P0 N0 p0] 61)) (w.heap.size + 1) (.int .i64 Z0) (.int .i64 0) (.int .i64 0) (.slice none 0 0) (.int .i64 0) (.slice none 0 0) (.slice none 0 0) (.slice none 0 0) (.int .i64 0) (.int .i64 0) (.int .i64 0) (.int .i64 0) (.int .i64 0) (.bool false) (.slice none 0 0) (.slice none 0 0)).below (by have := (ab B2 (.cells #[.int .i64 Z0, .int .i64 Z1, .slice P0 N0 p0] 61)).size; omega) (fun b e => by omega))⟩

set_option linter.unusedVariables false in
set_option maxRecDepth 100000 in
set_option maxHeartbeats 8000000 in
theorem specSendEndOk_any (slot base next bad : Int) (A0 : Option Addr) (n0 c0 : Nat) (els : List PartD) (A1 : Option Addr) (n1 c1 : Nat) (hs : List HeldD) (A2 : Option Addr) (n2 c2 : Nat) (l : List Int) (A3 : Option Addr) (n3 c3 : Nat) (got : List (List Int)) (Bm : Option Addr) (m d : Nat) (ms : List Int) (w : World)
    (h0 : Lst PartD.cels 4 w A0 n0 els) (h1 : Lst HeldD.cels 3 w A1 n1 hs) (h2 : Bs w A2 n2 l) (hz2 : A2 = none → c2 = 0) (h3 : Lst bytC 1 w A3 n3 got) (hm : Bs w Bm m ms) (hmd : m ≤ d) (hn0 : n0 ≤ 1048576) (hn1 : n1 ≤ 1048576) (hb1 : ∀ e ∈ hs, e.f1.length ≤ 1048576) (hn2 : n2 ≤ 1048576) (hn3 : n3 ≤ 1048576) (hb3 : ∀ e ∈ got, e.length ≤ 1048576) (hmm : m ≤ 1048576) (hz : endF slot base els next hs n2 got bad = 0) {Z1 : Int} {N0 : Nat} {D0 : List PartD} (H : SendOut base els ms 0 Z1 N0 D0) :
    Calls Try.prog 17 #[.agg #[.int .i64 slot, .int .i64 base, .slice A0 n0 c0, .int .i64 next, .slice A1 n1 c1, .slice A2 n2 c2, .slice A3 n3 c3, .int .i64 bad], .slice Bm m d] w fun x w' => (∃ P0 p0 P1 p1 P2 p2 P3 p3, x = .returned (.agg #[.int .i64 0, .int .i64 slot, .int .i64 Z1, .slice P0 N0 p0, .int .i64 next, .slice P1 n1 p1, .slice P2 n2 p2, .slice P3 n3 p3, .int .i64 bad, .int .i64 0, .int .i64 0, .int .i64 0, .int .i64 0, .bool false, .slice none 0 0, .slice none 0 0]) ∧ EndB P0 N0 D0 P1 n1 hs P2 n2 l P3 n3 got w' (rng w.heap.size w'.heap.size)) ∧ Below w.heap.size w w' := by
  have hef := fun W L M N => specEndFault_any slot base next bad A0 n0 c0 els A1 n1 c1 hs A2 n2 c2 A3 n3 c3 got W L M N hn0 hn1 hn2 hn3 hb3
  rw [hz] at hef
  have hsm := fun W L M => specSendMessage_any base A0 n0 c0 els Bm m d ms W L M hmd hn0 hmm H
  have hb0 : ∀ e ∈ els, e.f0.length ≤ 1048576 := fun e he => by have := ((senF_zero (endF_zero hz).2.1).2.2.2 e he).1; omega
  have Hl3 := Shut.mk h3.len
  have hcp := fun g W S L M N O => l9Copy_any g slot base next bad A0 n0 c0 els A1 n1 c1 hs A2 n2 c2 l A3 n3 c3 got W S L M N hz2 O hn0 hb0 hn1 hb1 hn2 hn3 hb3
  clear hz H
  have S0 := (Stc.new w 41 [.int .i64 slot, .int .i64 base, .slice A0 n0 c0, .int .i64 next, .slice A1 n1 c1, .slice A2 n2 c2, .slice A3 n3 c3, .int .i64 bad] _ rfl).alloc (.cells #[.int .i64 0, .int .i64 0, .int .i64 0, .slice none 0 0, .int .i64 0, .slice none 0 0, .slice none 0 0, .slice none 0 0, .int .i64 0, .int .i64 0, .int .i64 0, .int .i64 0, .int .i64 0, .bool false, .slice none 0 0, .slice none 0 0] 48)
  have Z0_ := (Stc.new (w.alloc (.cells #[.int .i64 slot, .int .i64 base, .slice A0 n0 c0, .int .i64 next, .slice A1 n1 c1, .slice A2 n2 c2, .slice A3 n3 c3, .int .i64 bad] 41)) 48 [.int .i64 0, .int .i64 0, .int .i64 0, .slice none 0 0, .int .i64 0, .slice none 0 0, .slice none 0 0, .slice none 0 0, .int .i64 0, .int .i64 0, .int .i64 0, .int .i64 0, .int .i64 0, .bool false, .slice none 0 0, .slice none 0 0] _ rfl)
  have B0 := ab (ab (Below.refl _ w) (.cells #[.int .i64 slot, .int .i64 base, .slice A0 n0 c0, .int .i64 next, .slice A1 n1 c1, .slice A2 n2 c2, .slice A3 n3 c3, .int .i64 bad] 41)) (.cells #[.int .i64 0, .int .i64 0, .int .i64 0, .slice none 0 0, .int .i64 0, .slice none 0 0, .slice none 0 0, .slice none 0 0, .int .i64 0, .int .i64 0, .int .i64 0, .int .i64 0, .int .i64 0, .bool false, .slice none 0 0, .slice none 0 0] 48)
  simp only [World.size_alloc] at Z0_
  have s0 := S0.cell (i := 0) rfl
  have s1 := S0.cell (i := 1) rfl
  have s2 := S0.cell (i := 2) rfl
  have s3 := S0.cell (i := 3) rfl
  have s4 := S0.cell (i := 4) rfl
  have s5 := S0.cell (i := 5) rfl
  have s6 := S0.cell (i := 6) rfl
  have s7 := S0.cell (i := 7) rfl
  go_enter Try.func17, Try.ntmps17
  go_wp2_with fail
  refine (hef _ (h0.below B0) (h1.below B0) (h3.below B0)).mono ?_
  rintro x w1 ⟨rfl, b1⟩
  have z1 := b1.size
  simp only [World.size_alloc] at z1
  replace S0 := S0.below b1 S0.lt
  have ZZ := Z0_.below b1 Z0_.lt
  have B1 := ac B0 b1
  clear s0 s1 s2 s3 s4 s5 s6 s7
  have s1 := S0.cell (i := 1) rfl
  have s2 := S0.cell (i := 2) rfl
  go_wp2_with fail
  refine (hsm _ (h0.below B1) (hm.below B1)).mono ?_
  rintro x w2 ⟨⟨P0, p0, rfl, R0⟩, b2⟩
  have z2 := b2.size
  replace S0 := S0.below b2 S0.lt
  replace ZZ := ZZ.below b2 ZZ.lt
  have B2 := ac B1 b2
  clear s1 s2
  have RB := Stc.new w2 61 [.int .i64 0, .int .i64 Z1, .slice P0 N0 p0] _ rfl
  have BR := ab (Below.refl w2.heap.size w2) (.cells #[.int .i64 0, .int .i64 Z1, .slice P0 N0 p0] 61)
  have B3 := ac B2 BR
  replace S0 := S0.below BR S0.lt
  replace ZZ := ZZ.below BR ZZ.lt
  have s0 := S0.cell (i := 0) rfl
  have s1 := S0.cell (i := 1) rfl
  have s2 := S0.cell (i := 2) rfl
  have s3 := S0.cell (i := 3) rfl
  have s4 := S0.cell (i := 4) rfl
  have s5 := S0.cell (i := 5) rfl
  have s6 := S0.cell (i := 6) rfl
  have s7 := S0.cell (i := 7) rfl
  go_wp2_with fail
  refine (hcp _ _ S0 (h0.below B3) (h1.below B3) (h2.below B3) (h3.below B3)).mono ?_
  rintro x w4 ⟨⟨A0', c0', P1, p1, P2, p2, P3, p3, rfl, _, _, _, RE⟩, b4⟩
  have z4 := b4.size
  simp only [World.size_alloc] at z4 RE
  clear s0 s1 s2 s3 s4 s5 s6 s7
  have REB := RE.toB Hl3.out
  have R0b := (okP P0 N0 D0).below ((okP P0 N0 D0).below R0 BR) b4
  replace RB := RB.below b4 RB.lt
  replace ZZ := ZZ.below b4 ZZ.lt
  have B4 := ac B3 b4
  have REC := (okEndB _ _ _ _ _ _ _ _ _ _ _ _).widen REB (lo' := w2.heap.size) (hi' := w4.heap.size) (by omega) (Nat.le_refl _)
  have RES := REC.sender R0b z2 (by omega)
  have BE := ab (Below.refl w4.heap.size w4) (.cells #[.int .i64 slot, .int .i64 base, .slice A0' n0 c0', .int .i64 next, .slice P1 n1 p1, .slice P2 n2 p2, .slice P3 n3 p3, .int .i64 bad] 41)
  have EBX := Stc.new w4 41 [.int .i64 slot, .int .i64 base, .slice A0' n0 c0', .int .i64 next, .slice P1 n1 p1, .slice P2 n2 p2, .slice P3 n3 p3, .int .i64 bad] _ rfl
  have RBa := RB.alloc (.cells #[.int .i64 slot, .int .i64 base, .slice A0' n0 c0', .int .i64 next, .slice P1 n1 p1, .slice P2 n2 p2, .slice P3 n3 p3, .int .i64 bad] 41)
  have ZZa := ZZ.alloc (.cells #[.int .i64 slot, .int .i64 base, .slice A0' n0 c0', .int .i64 next, .slice P1 n1 p1, .slice P2 n2 p2, .slice P3 n3 p3, .int .i64 bad] 41)
  have k1 := RBa.cell (i := 1) rfl
  have k2 := RBa.cell (i := 2) rfl
  go_upto_region 9 with fail
  clear k1 k2 RBa ZZa BE
  have BE := ab (Below.refl w4.heap.size w4) (.cells #[.int .i64 slot, .int .i64 Z1, .slice P0 N0 p0, .int .i64 next, .slice P1 n1 p1, .slice P2 n2 p2, .slice P3 n3 p3, .int .i64 bad] 41)
  have ZZb := ZZ.alloc (.cells #[.int .i64 slot, .int .i64 Z1, .slice P0 N0 p0, .int .i64 next, .slice P1 n1 p1, .slice P2 n2 p2, .slice P3 n3 p3, .int .i64 bad] 41)
  have q0 := ZZb.cell (i := 0) rfl
  have q1 := ZZb.cell (i := 1) rfl
  have q2 := ZZb.cell (i := 2) rfl
  have q3 := ZZb.cell (i := 3) rfl
  have q4 := ZZb.cell (i := 4) rfl
  have q5 := ZZb.cell (i := 5) rfl
  have q6 := ZZb.cell (i := 6) rfl
  have q7 := ZZb.cell (i := 7) rfl
  have q8 := ZZb.cell (i := 8) rfl
  have q9 := ZZb.cell (i := 9) rfl
  have q10 := ZZb.cell (i := 10) rfl
  have q11 := ZZb.cell (i := 11) rfl
  have q12 := ZZb.cell (i := 12) rfl
  have q13 := ZZb.cell (i := 13) rfl
  have q14 := ZZb.cell (i := 14) rfl
  have q15 := ZZb.cell (i := 15) rfl
  have qf := ZZb.frozen
  go_wp2
  have J := stcR ZZb (.int .i64 0) (.int .i64 slot) (.int .i64 Z1) (.slice P0 N0 p0) (.int .i64 next) (.slice P1 n1 p1) (.slice P2 n2 p2) (.slice P3 n3 p3) (.int .i64 bad) (.int .i64 0) (.int .i64 0) (.int .i64 0) (.int .i64 0) (.bool false) (.slice none 0 0) (.slice none 0 0)
  have r0 := J.cell (i := 0) rfl
  have r1 := J.cell (i := 1) rfl
  have r2 := J.cell (i := 2) rfl
  have r3 := J.cell (i := 3) rfl
  have r4 := J.cell (i := 4) rfl
  have r5 := J.cell (i := 5) rfl
  have r6 := J.cell (i := 6) rfl
  have r7 := J.cell (i := 7) rfl
  have r8 := J.cell (i := 8) rfl
  have r9 := J.cell (i := 9) rfl
  have r10 := J.cell (i := 10) rfl
  have r11 := J.cell (i := 11) rfl
  have r12 := J.cell (i := 12) rfl
  have r13 := J.cell (i := 13) rfl
  have r14 := J.cell (i := 14) rfl
  have r15 := J.cell (i := 15) rfl
  refine bodyPost_ret (v := .agg #[.int .i64 0, .int .i64 slot, .int .i64 Z1, .slice P0 N0 p0, .int .i64 next, .slice P1 n1 p1, .slice P2 n2 p2, .slice P3 n3 p3, .int .i64 bad, .int .i64 0, .int .i64 0, .int .i64 0, .int .i64 0, .bool false, .slice none 0 0, .slice none 0 0]) (by simp [results, Try.results17, go_sem, r0, r1, r2, r3, r4, r5, r6, r7, r8, r9, r10, r11, r12, r13, r14, r15]) rfl ?_
  have TF := tuR (w4.alloc (.cells #[.int .i64 slot, .int .i64 Z1, .slice P0 N0 p0, .int .i64 next, .slice P1 n1 p1, .slice P2 n2 p2, .slice P3 n3 p3, .int .i64 bad] 41)) (w.heap.size + 1) (.int .i64 0) (.int .i64 slot) (.int .i64 Z1) (.slice P0 N0 p0) (.int .i64 next) (.slice P1 n1 p1) (.slice P2 n2 p2) (.slice P3 n3 p3) (.int .i64 bad) (.int .i64 0) (.int .i64 0) (.int .i64 0) (.int .i64 0) (.bool false) (.slice none 0 0) (.slice none 0 0)
  have OK := okEndB P0 N0 D0 P1 n1 hs P2 n2 l P3 n3 got
  have RF := OK.tu (OK.below RES BE) TF (fun b hF e => by unfold rng at hF; omega)
  refine ⟨⟨P0, p0, P1, p1, P2, p2, P3, p3, rfl, ?_⟩, (ac B4 BE).trans (TF.below (by simp; omega) (fun b e => by omega))⟩
  exact OK.widen RF (by omega) (by simp only [World.size_setCell, World.size_alloc]; omega)

end Go.Proofs.Ytjpnacgdefgalaa
