import Derived.Test.YtabhcolfkkfonaaGreatDoorNonP
import Derived.Test.YtabhcolfkkfonaaGreatDoorSealQ
import Derived.Test.YtabhcolfkkfonaaGreatDoorCopC
import Derived.RegionDies

/-! SealS -/
/- What is sealed by a state, of the program. -/
namespace Go.Proofs.YtabhcolfkkfonaaGreatDoor
open Go.RowKit

theorem ask_seal (m : Nat) (hm : m ≤ 1000) : askCode 32 0 12 (maxN 32 m : Int) = 0 := by
  have h : maxN 32 m ≤ 1000 := by unfold maxN; split <;> omega
  unfold askCode askOk inB
  simp
  omega

set_option maxRecDepth 100000 in
set_option maxHeartbeats 4000000 in
/-- with a key: a box, and the hash of it -/
theorem seal_key (b o : Nat) (L : List Value) (t : TypeId) (A : Option Addr) (c : Nat) (l : List Int) (C : Option Addr) (f : Nat) (key : List Int) (k : Int) (D : Option Addr) (m g : Nat) (u : List Int) (w : World) (hT : ∀ W : World, Save b w W → Tabs W) (hQ : ∀ W : World, Save b w W → Quar W) (hs : Stc w b L t) (hN : NoByte L)
    (hLh : L[o]? = some (.slice A 32 c)) (hLk : L[o + 2]? = some (.slice C 32 f)) (hLn : L[o + 3]? = some (.int .i64 k)) (h0 : 0 ≤ k) (hk : k < 1000) (h1 : Bs w A 32 l) (e1 : A = none → c = 0) (h3 : Bs w C 32 key) (e3 : 32 ≤ f) (h4 : Bs w D m u) (e4 : m ≤ g) (e5 : D = none → g = 0) (hm : m ≤ 900) :
    Calls Tryz.prog 66 #[.pointer (some ⟨b, o, none⟩), .slice D m g] w fun e w' => ∃ A' c' B' d', e = .returned (.slice B' (m + 16) d') ∧ Stc w' b ((L.set (o + 3) (.int .i64 (k + 1))).set o (.slice A' 32 c')) t ∧ Rs w' w.heap.size [(A', 32, hashW (l ++ sealL key (nonceL k) l u)), (B', m + 16, sealL key (nonceL k) l u)] ∧ Roomy A' 32 c' ∧ Roomy B' (m + 16) d' ∧ Save b w w' := by
  have hb := hs.lt
  have hu := h4.len
  have hkl := h3.len
  have hsl : (sealL key (nonceL k) l u).length = m + 16 := by rw [sealL_len, hu]
  have ccl := clone_own D m g u w h4 e5 (by omega)
  have x0 := hs.cell hLk
  have ask := ask_seal m (by omega)
  have csb := fun W (hW : Save b w W) (N : Option Addr) (n2 : Nat) (hNo : Bs W N 12 (nonceL k)) (hn2 : 12 ≤ n2) (hQ' : Quar W) => implSealBox_any C 32 f key N 12 n2 (nonceL k) A 32 c l D m g u W hQ' (h3.save hs hN hW) e3 hNo hn2 (h1.save hs hN hW) e1 (h4.save hs hN hW) e4 e5
  simp only [ask] at csb
  have ok1 : okN 0 (m + 16) = m + 16 := rfl
  have ok2 : okL 0 (sealL key (nonceL k) l u) = sealL key (nonceL k) l u := rfl
  rw [ok1, ok2] at csb
  clear ok1 ok2 ask
  generalize sealL key (nonceL k) l u = X at *
  have hkey := fun W (h : W.cell? ⟨b, o + 2, none⟩ = some (.slice C 32 f)) => hasKey_any b o C 32 f true W rfl h
  go_enter Tryz.func66, Tryz.ntmps66
  go_wp2_with fail
  refine ccl.mono ?_
  rintro e w1 ⟨⟨B1, d1, rfl, o1, r1⟩, b1⟩
  clear x0 ccl
  have S1 := hs.below b1 hb
  have x0 := S1.cell hLk
  go_wp2_with fail
  refine (hkey _ x0).mono ?_
  rintro e w' ⟨rfl, hw⟩
  replace hw := hw.symm
  subst hw
  have x1 := S1.cell hLh
  have hsv1 : Save b w w1 := Save.ofBelow b1
  go_wp2_with fail
  have hS2 : ∀ (V : List Value) (v : Value), V = L.set (o + 3) v → V[o]? = some (.slice A 32 c) ∧ V[o + 2]? = some (.slice C 32 f) := fun V v e => by
    subst e
    exact ⟨by rw [List.getElem?_set_ne (by omega)]; exact hLh, by rw [List.getElem?_set_ne (by omega)]; exact hLk⟩
  have cnn := nextNonce_any b o L t k w1.drew S1.drew hLn h0 hk
  clear hkey
  go_region_held3 (fun W => W.cell? ⟨b, o + 2, none⟩ = some (.slice C 32 f) ∧ W.cell? ⟨b, o, none⟩ = some (.slice A 32 c))
    (first | (refine ⟨?_, ?_⟩ <;> with_reducible assumption) | exact ⟨x0, x1⟩)
    (first
      | (go_at_call 137; refine cnn.mono ?_; rintro e w2 ⟨A2, c2, rfl, S2, o2, r2, sv2⟩; have z0 := S2.cell (hS2 _ _ rfl).2; have z1 := S2.cell (hS2 _ _ rfl).1; have sv := hsv1.trans (Save.trans (Save.ofBelow ((Below.refl w1.heap.size w1).drew)) sv2))
      | (go_at_call 111; refine (csb _ sv _ _ o2.bs r2.1 (hQ _ sv)).mono ?_; rintro e w3 ⟨⟨A3, c3, rfl, o3, r3, r4⟩, b3⟩; have S3 := S2.below b3 S2.lt; have z2 := S3.cell (hS2 _ _ rfl).2; have z3 := S3.cell (hS2 _ _ rfl).1)
      | (go_at_call 136; refine (insistedBytes_ok _ _ _ _).mono ?_; rintro e w4 ⟨rfl, b4⟩; have S4 := S3.below b4 S3.lt; have z4 := S4.cell (hS2 _ _ rfl).2; have z5 := S4.cell (hS2 _ _ rfl).1))
  have svf : Save b w w4 := (sv.then b3).then b4
  have o3' := o3.below b4 (Nat.le_refl _)
  have cm := mixHash_any b o _ t A c l A3 (m + 16) c3 X w4 (hT _ svf) S4 (hS2 _ _ rfl).1 (h1.save hs hN svf) e1 o3'.bs r4 (by omega)
  have hN4 : NoByte (L.set (o + 3) (.int .i64 (k + 1))) := hN.set _ (fun x => by simp)
  clear cnn csb z0 z1 z2 z3 z4 z5 x0 x1
  go_wp2_with fail
  refine cm.mono ?_
  rintro e w5 ⟨rfl, A5, c5, S5, o5, r5, sv5⟩
  go_wp2
  go_ret
  have q3 := o3'.save' S4 hN4 sv5
  have s1 := b1.size
  have s2 := sv2.size
  have s3 := b3.size
  have s4 := b4.size
  have hz : w.heap.size ≤ w1.drew.heap.size := s1
  have hz2 : w1.drew.heap.size = w1.heap.size := rfl
  refine ⟨A5, c5, A3, c3, rfl, S5, Rs.cons (o5.mono (by omega)) ?_ (Rs.cons (q3.mono (by omega)) (fun y hy => by cases hy) (Rs.nil _ _)), r5, ⟨r3, r4⟩, svf.trans sv5⟩
  intro y hy
  simp only [List.mem_cons, List.not_mem_nil, or_false] at hy
  subst hy
  exact (sunder_of o3' o5 (.inl (Nat.le_refl _))).symm
end Go.Proofs.YtabhcolfkkfonaaGreatDoor

/-! SealT -/
/- What is sealed without a key, and when the numbers are at their end, of the program. -/
namespace Go.Proofs.YtabhcolfkkfonaaGreatDoor
open Go.RowKit

set_option maxRecDepth 100000 in
set_option maxHeartbeats 4000000 in
/-- with no key: the text, and the hash of it -/
theorem seal_plain (b o : Nat) (L : List Value) (t : TypeId) (A : Option Addr) (c : Nat) (l : List Int) (C : Option Addr) (f : Nat) (D : Option Addr) (m g : Nat) (u : List Int) (w : World) (hT : ∀ W : World, Save b w W → Tabs W) (hs : Stc w b L t) (hN : NoByte L)
    (hLh : L[o]? = some (.slice A 32 c)) (hLk : L[o + 2]? = some (.slice C 0 f)) (h1 : Bs w A 32 l) (e1 : A = none → c = 0) (h4 : Bs w D m u) (e5 : D = none → g = 0) (hm : m ≤ 900) :
    Calls Tryz.prog 66 #[.pointer (some ⟨b, o, none⟩), .slice D m g] w fun e w' => ∃ A' c' B' d', e = .returned (.slice B' m d') ∧ Stc w' b (L.set o (.slice A' 32 c')) t ∧ Rs w' w.heap.size [(A', 32, hashW (l ++ u)), (B', m, u)] ∧ Roomy A' 32 c' ∧ Roomy B' m d' ∧ Save b w w' := by
  have hb := hs.lt
  have ccl := clone_own D m g u w h4 e5 (by omega)
  have x0 := hs.cell hLk
  have hkey := fun W (h : W.cell? ⟨b, o + 2, none⟩ = some (.slice C 0 f)) => hasKey_any b o C 0 f false W rfl h
  go_enter Tryz.func66, Tryz.ntmps66
  go_wp2_with fail
  refine ccl.mono ?_
  rintro e w1 ⟨⟨B1, d1, rfl, o1, r1⟩, b1⟩
  clear x0 ccl
  have S1 := hs.below b1 hb
  have x0 := S1.cell hLk
  go_wp2_with fail
  refine (hkey _ x0).mono ?_
  rintro e w' ⟨rfl, hw⟩
  replace hw := hw.symm
  subst hw
  have hsv1 : Save b w w1 := Save.ofBelow b1
  have cm := mixHash_any b o _ t A c l B1 m d1 u w1 (hT _ hsv1) S1 hLh (h1.below b1) e1 o1.bs r1.2 (by omega)
  clear hkey x0
  go_wp2_with fail
  refine cm.mono ?_
  rintro e w5 ⟨rfl, A5, c5, S5, o5, r5, sv5⟩
  go_wp2
  go_ret
  have q3 := o1.save' S1 hN sv5
  have s1 := b1.size
  refine ⟨A5, c5, B1, d1, rfl, S5, Rs.cons (o5.mono (by omega)) ?_ (Rs.cons q3 (fun y hy => by cases hy) (Rs.nil _ _)), r5, r1, hsv1.trans sv5⟩
  intro y hy
  simp only [List.mem_cons, List.not_mem_nil, or_false] at hy
  subst hy
  exact (sunder_of o1 o5 (.inl (Nat.le_refl _))).symm

set_option maxRecDepth 100000 in
set_option maxHeartbeats 4000000 in
/-- the numbers are at their end -/
theorem seal_full (b o : Nat) (L : List Value) (t : TypeId) (A : Option Addr) (c : Nat) (C : Option Addr) (f : Nat) (D : Option Addr) (m g : Nat) (u : List Int) (w : World) (hs : Stc w b L t)
    (hLh : L[o]? = some (.slice A 32 c)) (hLk : L[o + 2]? = some (.slice C 32 f)) (hLn : L[o + 3]? = some (.int .i64 1000)) (h4 : Bs w D m u) (e5 : D = none → g = 0) (hm : m ≤ 900) :
    Calls Tryz.prog 66 #[.pointer (some ⟨b, o, none⟩), .slice D m g] w fun e w' => e = .panicked [{ v := .iface 108 (.int .i64 7), recovered := false }] ∧ Save b w w' := by
  have hb := hs.lt
  have ccl := clone_own D m g u w h4 e5 (by omega)
  have x0 := hs.cell hLk
  have hkey := fun W (h : W.cell? ⟨b, o + 2, none⟩ = some (.slice C 32 f)) => hasKey_any b o C 32 f true W rfl h
  go_enter Tryz.func66, Tryz.ntmps66
  go_wp2_with fail
  refine ccl.mono ?_
  rintro e w1 ⟨⟨B1, d1, rfl, o1, r1⟩, b1⟩
  clear x0 ccl
  have S1 := hs.below b1 hb
  have x0 := S1.cell hLk
  go_wp2_with fail
  refine (hkey _ x0).mono ?_
  rintro e w' ⟨rfl, hw⟩
  replace hw := hw.symm
  subst hw
  have x1 := S1.cell hLh
  have hsv1 : Save b w w1 := Save.ofBelow b1
  clear hkey
  go_wp2_with fail
  go_region_dies
  all_goals
    refine (nextNonce_full b o L t w1.drew S1.drew hLn).mono ?_
    rintro e w2 ⟨rfl, rfl⟩
    exact ⟨rfl, rfl, hsv1.drew⟩
end Go.Proofs.YtabhcolfkkfonaaGreatDoor
