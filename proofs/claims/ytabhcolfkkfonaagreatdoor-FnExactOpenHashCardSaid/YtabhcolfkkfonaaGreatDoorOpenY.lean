/- OpenHash: a box that cannot be opened, of the program. -/
import Derived.Test.YtabhcolfkkfonaaGreatDoorOpenX
namespace Go.Proofs.YtabhcolfkkfonaaGreatDoor
open Go.RowKit
set_option linter.unusedVariables false

set_option maxRecDepth 100000 in
set_option maxHeartbeats 40000000 in
/-- what cannot be opened stops -/
theorem open_bad (z : Int) (hz : (z != 0) = true) (b o : Nat) (L : List Value) (t : TypeId) (A : Option Addr) (c : Nat) (l : List Int) (C : Option Addr) (f : Nat) (key : List Int) (k : Int) (D : Option Addr) (m g : Nat) (u : List Int) (w : World) (hQ : ∀ W : World, Save b w W → Quar W) (hE : ∀ W : World, Save b w W → Sent W) (hs : Stc w b L t) (hN : NoByte L)
    (hLh : L[o]? = some (.slice A 32 c)) (hLk : L[o + 2]? = some (.slice C 32 f)) (hLn : L[o + 3]? = some (.int .i64 k)) (h0 : 0 ≤ k) (hk : k < 1000) (h1 : Bs w A 32 l) (e1 : A = none → c = 0) (h3 : Bs w C 32 key) (e3 : 32 ≤ f) (h4 : Bs w D m u) (e4 : m ≤ g) (e5 : D = none → g = 0) (hm : m ≤ 900)
    (hop : openCode (askCode 32 0 12 (maxN 32 m : Int)) key (nonceL k) l u = z) :
    Calls Tryz.prog 72 #[.pointer (some ⟨b, o, none⟩), .slice D m g] w fun e w' => e = .panicked [{ v := .iface 108 (.int .i64 z), recovered := false }] ∧ Save b w w' := by
  have hb := hs.lt
  have ccl := clone_own D m g u w h4 e5 (by omega)
  have x0 := hs.cell hLk
  have hkey := fun W (h : W.cell? ⟨b, o + 2, none⟩ = some (.slice C 32 f)) => hasKey_any b o C 32 f true W rfl h
  have csb := Shut.mk (fun W (hW : Save b w W) (N : Option Addr) (n2 : Nat) (hNo : Bs W N 12 (nonceL k)) (hn2 : 12 ≤ n2) => by
    have t := implOpenBox_any C 32 f key N 12 n2 (nonceL k) A 32 c l D m g u W (hQ _ hW) (hE _ hW) (h3.save hs hN hW) e3 hNo hn2 (h1.save hs hN hW) e1 (h4.save hs hN hW) e4
    rw [hop] at t
    exact t)
  have hst := fun (A : Option Addr) (n c : Nat) (W : World) => insistedBytes_stop z hz A n c W
  clear hop hQ hE h1 h3 h4
  go_enter Tryz.func72, Tryz.ntmps72
  go_wp2_with fail
  refine ccl.mono ?_
  rintro e w1 ⟨⟨B1, d1, rfl, o1, r1⟩, b1⟩
  clear x0 ccl
  have S1 := hs.below b1 hb
  have x0 := S1.cell hLk
  go_wp2_with fail
  refine (hkey _ x0).mono ?_
  rintro e w' ⟨rfl, hw⟩
  replace hw := hw.symm
  subst hw
  have x1 := S1.cell hLh
  have hsv1 : Save b w w1 := Save.ofBelow b1
  clear hkey
  go_wp2_with fail
  have hS2 : ∀ (V : List Value) (v : Value), V = L.set (o + 3) v → V[o]? = some (.slice A 32 c) ∧ V[o + 2]? = some (.slice C 32 f) := fun V v e => by
    subst e
    exact ⟨by rw [List.getElem?_set_ne (by omega)]; exact hLh, by rw [List.getElem?_set_ne (by omega)]; exact hLk⟩
  have cnn := Shut.mk (nextNonce_any b o L t k w1.drew S1.drew hLn h0 hk)
  go_region_dies
  all_goals
    refine cnn.out.mono ?_
    rintro e w2 ⟨A2, c2, rfl, S2, o2, r2, sv2⟩
    have z0 := S2.cell (hS2 _ _ rfl).2
    have z1 := S2.cell (hS2 _ _ rfl).1
    have sv := hsv1.trans (Save.trans (Save.ofBelow ((Below.refl w1.heap.size w1).drew)) sv2)
    have cb := Shut.mk (csb.out w2 sv A2 c2 o2.bs r2.1)
    dsimp only
    rename_i K hK
    refine hK _ _ ?_
    clear hK K
  · (refine wpAny_ready (rs := [9]) (by kernel_rfl) (by simp) (AllReady.cons rfl (fun K hK => ?_) AllReady.nil); go_simp; refine hK _ _ ?_; clear hK K; refine wpAny_ready (rs := [11]) (by kernel_rfl) (by simp) (AllReady.cons rfl (fun K hK => ?_) AllReady.nil); go_simp; refine cb.out.mono ?_; rintro e w3 ⟨⟨A3, c3, rfl, _⟩, b3⟩; dsimp only; refine hK _ _ ?_; clear hK K; refine wpAny_ready (rs := [12]) (by kernel_rfl) (by simp) (AllReady.cons rfl (fun K hK => ?_) AllReady.nil); go_simp; refine (hst _ _ _ _).mono ?_; rintro e w4 ⟨rfl, b4⟩; exact ⟨rfl, rfl, (sv.then b3).then b4⟩)
  · (refine wpAny_ready (rs := [11]) (by kernel_rfl) (by simp) (AllReady.cons rfl (fun K hK => ?_) AllReady.nil); go_simp; refine cb.out.mono ?_; rintro e w3 ⟨⟨A3, c3, rfl, _⟩, b3⟩; dsimp only; refine hK _ _ ?_; clear hK K; refine wpAny_ready (rs := [12]) (by kernel_rfl) (by simp) (AllReady.cons rfl (fun K hK => ?_) AllReady.nil); go_simp; refine (hst _ _ _ _).mono ?_; rintro e w4 ⟨rfl, b4⟩; exact ⟨rfl, rfl, (sv.then b3).then b4⟩)
  · (refine wpAny_ready (rs := [3, 9]) (by kernel_rfl) (by simp) (AllReady.cons rfl (fun K hK => ?_) (AllReady.cons rfl (fun K hK => ?_) AllReady.nil)); (go_simp; refine hK _ _ ?_; clear hK K; refine wpAny_ready (rs := [9]) (by kernel_rfl) (by simp) (AllReady.cons rfl (fun K hK => ?_) AllReady.nil); go_simp; refine hK _ _ ?_; clear hK K; refine wpAny_ready (rs := [11]) (by kernel_rfl) (by simp) (AllReady.cons rfl (fun K hK => ?_) AllReady.nil); go_simp; refine cb.out.mono ?_; rintro e w3 ⟨⟨A3, c3, rfl, _⟩, b3⟩; dsimp only; refine hK _ _ ?_; clear hK K; refine wpAny_ready (rs := [12]) (by kernel_rfl) (by simp) (AllReady.cons rfl (fun K hK => ?_) AllReady.nil); go_simp; refine (hst _ _ _ _).mono ?_; rintro e w4 ⟨rfl, b4⟩; exact ⟨rfl, rfl, (sv.then b3).then b4⟩); (go_simp; refine hK _ _ ?_; clear hK K; refine wpAny_ready (rs := [3]) (by kernel_rfl) (by simp) (AllReady.cons rfl (fun K hK => ?_) AllReady.nil); go_simp; refine hK _ _ ?_; clear hK K; refine wpAny_ready (rs := [11]) (by kernel_rfl) (by simp) (AllReady.cons rfl (fun K hK => ?_) AllReady.nil); go_simp; refine cb.out.mono ?_; rintro e w3 ⟨⟨A3, c3, rfl, _⟩, b3⟩; dsimp only; refine hK _ _ ?_; clear hK K; refine wpAny_ready (rs := [12]) (by kernel_rfl) (by simp) (AllReady.cons rfl (fun K hK => ?_) AllReady.nil); go_simp; refine (hst _ _ _ _).mono ?_; rintro e w4 ⟨rfl, b4⟩; exact ⟨rfl, rfl, (sv.then b3).then b4⟩))
  · (refine wpAny_ready (rs := [11]) (by kernel_rfl) (by simp) (AllReady.cons rfl (fun K hK => ?_) AllReady.nil); go_simp; refine cb.out.mono ?_; rintro e w3 ⟨⟨A3, c3, rfl, _⟩, b3⟩; dsimp only; refine hK _ _ ?_; clear hK K; refine wpAny_ready (rs := [12]) (by kernel_rfl) (by simp) (AllReady.cons rfl (fun K hK => ?_) AllReady.nil); go_simp; refine (hst _ _ _ _).mono ?_; rintro e w4 ⟨rfl, b4⟩; exact ⟨rfl, rfl, (sv.then b3).then b4⟩)
  · (refine wpAny_ready (rs := [3]) (by kernel_rfl) (by simp) (AllReady.cons rfl (fun K hK => ?_) AllReady.nil); go_simp; refine hK _ _ ?_; clear hK K; refine wpAny_ready (rs := [11]) (by kernel_rfl) (by simp) (AllReady.cons rfl (fun K hK => ?_) AllReady.nil); go_simp; refine cb.out.mono ?_; rintro e w3 ⟨⟨A3, c3, rfl, _⟩, b3⟩; dsimp only; refine hK _ _ ?_; clear hK K; refine wpAny_ready (rs := [12]) (by kernel_rfl) (by simp) (AllReady.cons rfl (fun K hK => ?_) AllReady.nil); go_simp; refine (hst _ _ _ _).mono ?_; rintro e w4 ⟨rfl, b4⟩; exact ⟨rfl, rfl, (sv.then b3).then b4⟩)
end Go.Proofs.YtabhcolfkkfonaaGreatDoor
