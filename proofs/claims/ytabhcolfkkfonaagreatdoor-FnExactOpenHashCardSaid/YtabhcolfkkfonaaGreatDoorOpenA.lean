/- OpenHash: the model's opening by a state. -/
import Derived.Test.YtabhcolfkkfonaaGreatDoorSealH
import Derived.Test.YtabhcolfkkfonaaGreatDoorMdlX
namespace Go.Proofs.YtabhcolfkkfonaaGreatDoor
open Go.RowKit
set_option linter.unusedVariables false

/-- the text of a box, and whether its tag is right; q: the text's length -/
def opX (key l : List Int) (k : Int) (u : List Int) (q : Nat) : List Int := streamL key 1 (nonceL k) (u.take q)
def opT (key l : List Int) (k : Int) (u : List Int) (q : Nat) : Prop := boxTag key (nonceL k) l (u.take q) = u.drop q
instance (key l : List Int) (k : Int) (u : List Int) (q : Nat) : Decidable (opT key l k u q) := by unfold opT; infer_instance

set_option maxRecDepth 100000 in
set_option maxHeartbeats 2000000 in
/-- without a key: the text, and the hash of it -/
theorem l5Open_plain (b o : Nat) (L : List Value) (t : TypeId) (A : Option Addr) (c : Nat) (l : List Int) (C : Option Addr) (f : Nat) (D : Option Addr) (m g : Nat) (u : List Int) (w : World) (hs : Stc w b L t) (hN : NoByte L)
    (hLh : L[o]? = some (.slice A 32 c)) (hLk : L[o + 2]? = some (.slice C 0 f)) (h1 : Bs w A 32 l) (e1 : A = none → c = 0) (h4 : Bs w D m u) (e5 : D = none → g = 0) (hm : m ≤ 900) :
    Calls Tryz.prog 83 #[.pointer (some ⟨b, o, none⟩), .slice D m g] w fun e w' => ∃ A' c' B' d', e = .returned (.tuple #[.slice B' m d', .bool true]) ∧ Stc w' b (L.set o (.slice A' 32 c')) t ∧ Rs w' w.heap.size [(A', 32, hashW (l ++ u)), (B', m, u)] ∧ Roomy A' 32 c' ∧ Roomy B' m d' ∧ Save b w w' := by
  have hb := hs.lt
  have hu := h4.len
  have ccl := Shut.mk (copyb_any D m g u w h4 e5 (by omega))
  have x0 := hs.cell hLk
  go_enter Tryz.func83, Tryz.ntmps83
  go_wp2_with fail
  refine ccl.out.mono ?_
  rintro e w1 ⟨⟨B1, d1, rfl, r1⟩, b1⟩
  have S1 := hs.below b1 hb
  have y0 := S1.cell hLk
  have o1 := r1.ow' hu
  have k1 := r1.capY
  have cm := Shut.mk (l5MixHash_any b o L t A c l D m g u w1 S1 hLh (h1.below b1) e1 (h4.below b1) e5 (by omega))
  have z1 := b1.size
  clear x0 ccl r1 hu
  go_wp2_with fail
  refine cm.out.mono ?_
  rintro e w2 ⟨rfl, A2, c2, S2, o2, ro, sv⟩
  clear cm y0
  have q1 := o1.save' S1 hN sv
  go_wp2
  go_ret2
  refine ⟨A2, c2, B1, d1, rfl, S2, Rs.cons (o2.mono (by omega)) ?_ (Rs.cons q1 (fun y hy => by cases hy) (Rs.nil _ _)), ro, k1, (Save.ofBelow b1).trans sv⟩
  intro y hy
  simp only [List.mem_cons, List.not_mem_nil, or_false] at hy
  subst hy
  exact (sunder_of o1 o2 (.inl (Nat.le_refl _))).symm


set_option maxRecDepth 100000 in
set_option maxHeartbeats 4000000 in
/-- with a key: a box, and the hash of it -/
theorem l5Open_key (b o : Nat) (L : List Value) (t : TypeId) (A : Option Addr) (c : Nat) (l : List Int) (C : Option Addr) (f : Nat) (key : List Int) (k : Int) (D : Option Addr) (m g : Nat) (u : List Int) (w : World) (hs : Stc w b L t) (hN : NoByte L)
    (hLh : L[o]? = some (.slice A 32 c)) (hLk : L[o + 2]? = some (.slice C 32 f)) (hLn : L[o + 3]? = some (.int .i64 k)) (h0 : 0 ≤ k) (hk : k < 1000) (h1 : Bs w A 32 l) (e1 : A = none → c = 0) (h3 : Bs w C 32 key) (e3 : 32 ≤ f) (h4 : Bs w D (m + 16) u) (e4 : m + 16 ≤ g) (hm : m + 16 ≤ 900) (ht : opT key l k u m) :
    Calls Tryz.prog 83 #[.pointer (some ⟨b, o, none⟩), .slice D (m + 16) g] w fun e w' => ∃ A' c' B' d', e = .returned (.tuple #[.slice B' m d', .bool true]) ∧ Stc w' b ((L.set (o + 3) (.int .i64 (k + 1))).set o (.slice A' 32 c')) t ∧ Rs w' w.heap.size [(A', 32, hashW (l ++ u)), (B', m, opX key l k u m)] ∧ Roomy A' 32 c' ∧ Roomy B' m d' ∧ Save b w w' := by
  have hb := hs.lt
  have hu := h4.len
  have HX := Shut.mk (show (opX key l k u m).length = m by unfold opX; rw [streamL_len, List.length_take, hu]; omega)
  have e5 : D = none → g = 0 := fun e => by
    obtain ⟨bb, oo, e', _⟩ := h4.at_ (by omega)
    rw [e] at e'; cases e'
  have ccl := Shut.mk (copyb_any D (m + 16) g u w h4 e5 (by omega))
  have XO := Shut.mk (fun (N : Option Addr) (n2 : Nat) (W : World) (hW : Below w.heap.size w W) (hNo : Bs W N 12 (nonceL k)) (hn2 : 12 ≤ n2) => l3Open_any C f key N n2 (nonceL k) A 32 c l D m g u W (h3.below hW) e3 hNo hn2 (h1.below hW) (by omega) e1 (h4.below hW) (by omega) e4)
  have ht' : boxTag key (nonceL k) l (u.take m) = u.drop m := ht
  simp only [if_pos ht'] at XO
  rw [show streamL key 1 (nonceL k) (u.take m) = opX key l k u m from rfl] at XO
  clear ht ht'
  have wr : IntKind.i64.wrap (k + 1) = k + 1 := IntWalk.i64_in _ (by omega)
  generalize opX key l k u m = X at *
  have x0 := hs.cell hLk
  clear hu h3
  go_enter Tryz.func83, Tryz.ntmps83
  go_wp2_with fail
  refine ccl.out.mono ?_
  rintro e w1 ⟨⟨B1, d1, rfl, r1⟩, b1⟩
  have S1 := hs.below b1 hb
  have i2 := S1.cell hLk
  have i0 := S1.cell hLh
  have i3 := S1.cell hLn
  have hWW := Below.refl w1.heap.size w1
  have lS := S1.lt
  have XN : Shut (∀ W : World, (W.cell? ⟨b, o + 2, none⟩ = some (.slice C 32 f) ∧ W.cell? ⟨b, o, none⟩ = some (.slice A 32 c) ∧ W.cell? ⟨b, o + 3, none⟩ = some (.int .i64 k) ∧ Below w1.heap.size w1 W) → Calls Tryz.prog 124 #[.int .i64 k] W fun e w' => (∃ A' c', e = .returned (.slice A' 12 c') ∧ Bs w' A' 12 (nonceL k) ∧ 12 ≤ c') ∧ w'.cell? ⟨b, o + 2, none⟩ = some (.slice C 32 f) ∧ w'.cell? ⟨b, o, none⟩ = some (.slice A 32 c) ∧ w'.cell? ⟨b, o + 3, none⟩ = some (.int .i64 k) ∧ Below w1.heap.size w1 w') := by
    refine ⟨fun W ⟨_, _, _, hW⟩ => (l5Nonce_any k W h0 (by omega)).mono ?_⟩
    rintro e w' ⟨⟨A', c', rfl, oo, kk, _⟩, hb2⟩
    have hB := ac hW hb2
    exact ⟨⟨A', c', rfl, oo.bs, kk⟩, (S1.below hB lS).cell hLk, (S1.below hB lS).cell hLh, (S1.below hB lS).cell hLn, hB⟩
  have XS : Shut (∀ (N : Option Addr) (n2 : Nat) (W : World), (W.cell? ⟨b, o + 2, none⟩ = some (.slice C 32 f) ∧ W.cell? ⟨b, o, none⟩ = some (.slice A 32 c) ∧ W.cell? ⟨b, o + 3, none⟩ = some (.int .i64 k) ∧ Below w1.heap.size w1 W) → Bs W N 12 (nonceL k) → 12 ≤ n2 → Calls Tryz.prog 123 #[.slice C 32 f, .slice N 12 n2, .slice A 32 c, .slice D (m + 16) g] W fun e w' => (∃ A' c', e = .returned (.tuple #[.slice A' m c', .bool true]) ∧ Row w' w1.heap.size (.slice A' m c') X) ∧ w'.cell? ⟨b, o + 2, none⟩ = some (.slice C 32 f) ∧ w'.cell? ⟨b, o, none⟩ = some (.slice A 32 c) ∧ w'.cell? ⟨b, o + 3, none⟩ = some (.int .i64 k) ∧ Below w1.heap.size w1 w') := by
    refine ⟨fun N n2 W ⟨_, _, _, hW⟩ hNo hn2 => (XO.out N n2 W (ac b1 hW) hNo hn2).mono ?_⟩
    rintro e w' ⟨⟨A', c', rfl, rw_⟩, hb2⟩
    have hB := ac hW hb2
    exact ⟨⟨A', c', rfl, rw_.mono hW.size⟩, (S1.below hB lS).cell hLk, (S1.below hB lS).cell hLh, (S1.below hB lS).cell hLn, hB⟩
  clear x0 ccl XO r1
  go_wp2_with fail
  go_region_held3 (fun W => W.cell? ⟨b, o + 2, none⟩ = some (.slice C 32 f) ∧ W.cell? ⟨b, o, none⟩ = some (.slice A 32 c) ∧ W.cell? ⟨b, o + 3, none⟩ = some (.int .i64 k) ∧ Below w1.heap.size w1 W)
    (first | (exact ⟨by with_reducible assumption, by with_reducible assumption, by with_reducible assumption, by with_reducible assumption⟩) | (exact ⟨i2, i0, i3, hWW.drew⟩) | (exact ⟨i2, i0, i3, hWW⟩) | go_keep)
    (first
      | (go_at_call 124; refine (XN.out _ ?_).mono ?_; (first | with_reducible assumption | (simp [*]; done)); rintro e w2 ⟨⟨A2, c2, rfl, o2, k2⟩, z0, z1, z2, z3⟩)
      | (go_at_call 123; refine (XS.out _ _ _ ?_ ?_ ?_).mono ?_; (first | with_reducible assumption | (simp [*]; done)); exact o2; exact k2; rintro e w3 ⟨⟨A3, c3, rfl, r3⟩, y0, y1, y2, y3⟩))
  have S3 := S1.below y3 lS
  have z1' := y3.size
  have B3 := ac b1 y3
  have sx := S3.set_ (i := o + 3) (.int .i64 (k + 1))
  have fz := S3.frozen (o + 3)
  have o3 := r3.ow' HX.out
  have k3 := r3.capY
  have zb := b1.size
  have c0 := S3.cell hLn
  have hN4 : NoByte (L.set (o + 3) (.int .i64 (k + 1))) := hN.set _ (fun x => by simp)
  have hL2 : (L.set (o + 3) (.int .i64 (k + 1)))[o]? = some (.slice A 32 c) := by rw [List.getElem?_set_ne (by omega)]; exact hLh
  have sv3 : Save b w (w3.setCell ⟨b, o + 3, none⟩ (.int .i64 (k + 1))) := (Save.ofBelow B3).set_ (o + 3) _
  have h1x := h1.save hs hN sv3
  have o3x := o3.save' S3 hN ((Save.refl b w3).set_ (o + 3) (.int .i64 (k + 1)))
  have cm := Shut.mk (l5MixHash_any b o _ t A c l D (m + 16) g u (w3.setCell ⟨b, o + 3, none⟩ (.int .i64 (k + 1))) sx hL2 h1x e1 (h4.save hs hN sv3) e5 (by omega))
  clear XN XS z0 z1 z2 z3 y0 y1 y2 y3 i0 i2 i3 o2 k2 hWW r3 o3
  go_wp2_with fail
  refine cm.out.mono ?_
  rintro e w5 ⟨rfl, A5, c5, S5, o5, r5, sv5⟩
  clear cm
  have q3 := o3x.save' sx hN4 sv5
  go_wp2
  go_ret2
  have zs : (w3.setCell ⟨b, o + 3, none⟩ (.int .i64 (k + 1))).heap.size = w3.heap.size := by simp
  refine ⟨A5, c5, A3, c3, rfl, S5, Rs.cons (o5.mono (by omega)) ?_ (Rs.cons (q3.mono (by omega)) (fun y hy => by cases hy) (Rs.nil _ _)), r5, k3, sv3.trans sv5⟩
  intro y hy
  simp only [List.mem_cons, List.not_mem_nil, or_false] at hy
  subst hy
  exact (sunder_of o3x o5 (.inl (Nat.le_refl _))).symm

set_option maxRecDepth 100000 in
set_option maxHeartbeats 4000000 in
/-- with a key, and a wrong tag -/
theorem l5Open_bad (b o : Nat) (L : List Value) (t : TypeId) (A : Option Addr) (c : Nat) (l : List Int) (C : Option Addr) (f : Nat) (key : List Int) (k : Int) (D : Option Addr) (m g : Nat) (u : List Int) (w : World) (hs : Stc w b L t) (hN : NoByte L)
    (hLh : L[o]? = some (.slice A 32 c)) (hLk : L[o + 2]? = some (.slice C 32 f)) (hLn : L[o + 3]? = some (.int .i64 k)) (h0 : 0 ≤ k) (hk : k < 1000) (h1 : Bs w A 32 l) (e1 : A = none → c = 0) (h3 : Bs w C 32 key) (e3 : 32 ≤ f) (h4 : Bs w D (m + 16) u) (e4 : m + 16 ≤ g) (hm : m + 16 ≤ 900) (ht : ¬ opT key l k u m) :
    Calls Tryz.prog 83 #[.pointer (some ⟨b, o, none⟩), .slice D (m + 16) g] w fun e w' => e = .returned (.tuple #[.slice none 0 0, .bool false]) ∧ Below w.heap.size w w' := by
  have hb := hs.lt
  have hu := h4.len
  have HX := Shut.mk (show (opX key l k u m).length = m by unfold opX; rw [streamL_len, List.length_take, hu]; omega)
  have e5 : D = none → g = 0 := fun e => by
    obtain ⟨bb, oo, e', _⟩ := h4.at_ (by omega)
    rw [e] at e'; cases e'
  have ccl := Shut.mk (copyb_any D (m + 16) g u w h4 e5 (by omega))
  have XO := Shut.mk (fun (N : Option Addr) (n2 : Nat) (W : World) (hW : Below w.heap.size w W) (hNo : Bs W N 12 (nonceL k)) (hn2 : 12 ≤ n2) => l3Open_any C f key N n2 (nonceL k) A 32 c l D m g u W (h3.below hW) e3 hNo hn2 (h1.below hW) (by omega) e1 (h4.below hW) (by omega) e4)
  have ht' : ¬ (boxTag key (nonceL k) l (u.take m) = u.drop m) := ht
  simp only [if_neg ht'] at XO
  clear ht ht'
  have wr : IntKind.i64.wrap (k + 1) = k + 1 := IntWalk.i64_in _ (by omega)
  have x0 := hs.cell hLk
  clear hu h3
  go_enter Tryz.func83, Tryz.ntmps83
  go_wp2_with fail
  refine ccl.out.mono ?_
  rintro e w1 ⟨⟨B1, d1, rfl, r1⟩, b1⟩
  have S1 := hs.below b1 hb
  have i2 := S1.cell hLk
  have i0 := S1.cell hLh
  have i3 := S1.cell hLn
  have hWW := Below.refl w1.heap.size w1
  have lS := S1.lt
  have XN : Shut (∀ W : World, (W.cell? ⟨b, o + 2, none⟩ = some (.slice C 32 f) ∧ W.cell? ⟨b, o, none⟩ = some (.slice A 32 c) ∧ W.cell? ⟨b, o + 3, none⟩ = some (.int .i64 k) ∧ Below w1.heap.size w1 W) → Calls Tryz.prog 124 #[.int .i64 k] W fun e w' => (∃ A' c', e = .returned (.slice A' 12 c') ∧ Bs w' A' 12 (nonceL k) ∧ 12 ≤ c') ∧ w'.cell? ⟨b, o + 2, none⟩ = some (.slice C 32 f) ∧ w'.cell? ⟨b, o, none⟩ = some (.slice A 32 c) ∧ w'.cell? ⟨b, o + 3, none⟩ = some (.int .i64 k) ∧ Below w1.heap.size w1 w') := by
    refine ⟨fun W ⟨_, _, _, hW⟩ => (l5Nonce_any k W h0 (by omega)).mono ?_⟩
    rintro e w' ⟨⟨A', c', rfl, oo, kk, _⟩, hb2⟩
    have hB := ac hW hb2
    exact ⟨⟨A', c', rfl, oo.bs, kk⟩, (S1.below hB lS).cell hLk, (S1.below hB lS).cell hLh, (S1.below hB lS).cell hLn, hB⟩
  have XS : Shut (∀ (N : Option Addr) (n2 : Nat) (W : World), (W.cell? ⟨b, o + 2, none⟩ = some (.slice C 32 f) ∧ W.cell? ⟨b, o, none⟩ = some (.slice A 32 c) ∧ W.cell? ⟨b, o + 3, none⟩ = some (.int .i64 k) ∧ Below w1.heap.size w1 W) → Bs W N 12 (nonceL k) → 12 ≤ n2 → Calls Tryz.prog 123 #[.slice C 32 f, .slice N 12 n2, .slice A 32 c, .slice D (m + 16) g] W fun e w' => e = .returned (.tuple #[.slice none 0 0, .bool false]) ∧ w'.cell? ⟨b, o + 2, none⟩ = some (.slice C 32 f) ∧ w'.cell? ⟨b, o, none⟩ = some (.slice A 32 c) ∧ w'.cell? ⟨b, o + 3, none⟩ = some (.int .i64 k) ∧ Below w1.heap.size w1 w') := by
    refine ⟨fun N n2 W ⟨_, _, _, hW⟩ hNo hn2 => (XO.out N n2 W (ac b1 hW) hNo hn2).mono ?_⟩
    rintro e w' ⟨rfl, hb2⟩
    have hB := ac hW hb2
    exact ⟨rfl, (S1.below hB lS).cell hLk, (S1.below hB lS).cell hLh, (S1.below hB lS).cell hLn, hB⟩
  clear x0 ccl XO r1
  go_wp2_with fail
  go_region_held3 (fun W => W.cell? ⟨b, o + 2, none⟩ = some (.slice C 32 f) ∧ W.cell? ⟨b, o, none⟩ = some (.slice A 32 c) ∧ W.cell? ⟨b, o + 3, none⟩ = some (.int .i64 k) ∧ Below w1.heap.size w1 W)
    (first | (exact ⟨by with_reducible assumption, by with_reducible assumption, by with_reducible assumption, by with_reducible assumption⟩) | (exact ⟨i2, i0, i3, hWW.drew⟩) | (exact ⟨i2, i0, i3, hWW⟩) | go_keep)
    (first
      | (go_at_call 124; refine (XN.out _ ?_).mono ?_; (first | with_reducible assumption | (simp [*]; done)); rintro e w2 ⟨⟨A2, c2, rfl, o2, k2⟩, z0, z1, z2, z3⟩)
      | (go_at_call 123; refine (XS.out _ _ _ ?_ ?_ ?_).mono ?_; (first | with_reducible assumption | (simp [*]; done)); exact o2; exact k2; rintro e w3 ⟨rfl, y0, y1, y2, y3⟩))
  clear XN XS z0 z1 z2 z3 y0 y1 y2 i0 i2 i3 o2 k2 hWW
  go_wp2
  go_ret2
  exact ⟨rfl, ac b1 y3⟩


end Go.Proofs.YtabhcolfkkfonaaGreatDoor
