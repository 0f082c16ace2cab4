/- HearData of the program, where nothing is wrong. -/
import Derived.Test.YtpaemmoopjkppaaHdtN
import Derived.Test.YtpaemmoopjkppaaHolP
import Derived.Test.YtpaemmoopjkppaaPutP
import Derived.Test.YtpaemmoopjkppaaSldH
import Derived.Test.YtpaemmoopjkppaaHwnP
import Derived.Deep.CutRange
import Derived.Deep.RegionHeld3
namespace Go.Proofs.Ytpaemmoopjkppaa
open Go.RowKit

theorem Row.capD {w : World} {B n c : Nat} {A : Option Addr} {l : List Int} (h : Row w B (.slice A n c) l) : A = none → c = 0 := by
  intro e
  subst e
  rcases h.own.2 with ⟨e, _⟩ | ⟨g, cap, cur, e, _⟩
  · injection e with _ _ e3
  · injection e with e1
    cases e1

set_option linter.unusedVariables false in
set_option maxRecDepth 100000 in
set_option maxHeartbeats 4000000 in
theorem implHdtOk_any (next : Int) (A : Option Addr) (n c : Nat) (els : List HeldD) (A2 : Option Addr) (n2 c2 : Nat) (l : List Int) (k2 k3 : Int) (x : HeldD) (B : Option Addr) (m d : Nat) (w : World) (hbm : Bs w B m x.f1) (hzB : B = none → d = 0) (hm : m ≤ 32) (h : Lst HeldD.cels 3 w A n els) (h2 : Bs w A2 n2 l) (hz2 : A2 = none → c2 = 0) (hn : n ≤ 100) (hb : ∀ e ∈ els, e.f1.length ≤ 32) (hbN : ∀ e ∈ nowH next els x, e.f1.length ≤ 32) (hnN : (nowH next els x).length ≤ 101) (hup : ∀ (i j : Nat) (a b : HeldD), els[i]? = some a → els[j]? = some b → i < j → a.f0 < b.f0) (hn2 : n2 ≤ 200) (hz0 : recF next els n2 = 0) (hz : cellC 1 x.f0 k2 k3 x.f2 m = 0) (hb0 : 0 ≤ next) (hb1 : next ≤ 10000) :
    Calls Try.prog 11 #[.agg #[.int .i64 next, .slice A n c, .slice A2 n2 c2], .agg #[.int .i64 1, .int .i64 x.f0, .int .i64 k2, .int .i64 k3, .bool x.f2, .slice B m d]] w fun y w' => (∃ A' n' c' A2' n2' c2' Am nm cm, y = .returned (.agg #[.int .i64 0, .int .i64 (next + ((waitN next (nowH next els x)) : Nat)), .slice A' n' c', .slice A2' n2' c2', .slice Am nm cm]) ∧ n' = ((nowH next els x).drop (waitN next (nowH next els x))).length ∧ n2' = (putP l ((nowH next els x).take (waitN next (nowH next els x)))).length ∧ Rm A' n' c' ∧ (A2' = none → c2' = 0) ∧ (Thing.sep (Thing.sep (tH A' n' ((nowH next els x).drop (waitN next (nowH next els x)))) (tR A2' n2' (putP l ((nowH next els x).take (waitN next (nowH next els x)))))) (tG (.slice Am nm cm) (putM l ((nowH next els x).take (waitN next (nowH next els x)))))) w' (rng w.heap.size w'.heap.size)) ∧ Below w.heap.size w w' := by
  have hrf := fun W L => implReceiverFault_any next A n c els A2 n2 c2 W L (by omega) (by omega)
  have hcf := fun W => implCellFault_any 1 x.f0 k2 k3 x.f2 B m d W
  rw [hz0] at hrf
  rw [hz] at hcf
  clear hz hz0
  have S0 := ((Stc.new w 32 [.int .i64 next, .slice A n c, .slice A2 n2 c2] _ rfl).alloc (.cells #[.int .i64 1, .int .i64 x.f0, .int .i64 k2, .int .i64 k3, .bool x.f2, .slice B m d] 38)).alloc (.cells #[.int .i64 0, .int .i64 0, .slice none 0 0, .slice none 0 0, .slice none 0 0] 35)
  have S1 := (Stc.new (w.alloc (.cells #[.int .i64 next, .slice A n c, .slice A2 n2 c2] 32)) 38 [.int .i64 1, .int .i64 x.f0, .int .i64 k2, .int .i64 k3, .bool x.f2, .slice B m d] _ rfl).alloc (.cells #[.int .i64 0, .int .i64 0, .slice none 0 0, .slice none 0 0, .slice none 0 0] 35)
  have Z0 := Stc.new ((w.alloc (.cells #[.int .i64 next, .slice A n c, .slice A2 n2 c2] 32)).alloc (.cells #[.int .i64 1, .int .i64 x.f0, .int .i64 k2, .int .i64 k3, .bool x.f2, .slice B m d] 38)) 35 [.int .i64 0, .int .i64 0, .slice none 0 0, .slice none 0 0, .slice none 0 0] _ rfl
  have B0 := ab (ab (ab (Below.refl w.heap.size w) (.cells #[.int .i64 next, .slice A n c, .slice A2 n2 c2] 32)) (.cells #[.int .i64 1, .int .i64 x.f0, .int .i64 k2, .int .i64 k3, .bool x.f2, .slice B m d] 38)) (.cells #[.int .i64 0, .int .i64 0, .slice none 0 0, .slice none 0 0, .slice none 0 0] 35)
  simp only [World.size_alloc] at Z0 S1
  have HL := h.below B0
  have s0 := S0.cell (i := 0) rfl
  have s1 := S0.cell (i := 1) rfl
  have s2 := S0.cell (i := 2) rfl
  go_enter Try.func11, Try.ntmps11
  go_wp2_with fail
  refine (hrf _ HL).mono ?_
  rintro y w1 ⟨rfl, b1⟩
  have B1 := ac B0 b1
  have Z1 := Z0.below b1 (by simp)
  have S2 := S1.below b1 (by simp)
  have S5 := S0.below b1 (by simp; omega)
  have e0 := S2.cell (i := 0) rfl
  have e1 := S2.cell (i := 1) rfl
  have e2 := S2.cell (i := 2) rfl
  have e3 := S2.cell (i := 3) rfl
  have e4 := S2.cell (i := 4) rfl
  have e5 := S2.cell (i := 5) rfl
  clear s0 s1 s2 S0 S1 Z0 HL
  go_wp2_with fail
  refine (hcf _).mono ?_
  rintro y w2 ⟨rfl, b2⟩
  have B2 := ac B1 b2
  have Z2 := Z1.below b2 Z1.lt
  have S3 := S2.below b2 S2.lt
  have S6 := S5.below b2 S5.lt
  clear e0 e1 e2 e3 e4 e5 S2 S5 Z1 hrf hcf B0 B1
  have e0 := S3.cell (i := 0) rfl
  have s0 := S6.cell (i := 0) rfl
  have s1 := S6.cell (i := 1) rfl
  have z2 := B2.size
  have l6 := S6.lt
  have lz := Z2.lt
  go_wp2_with fail
  refine (newWindowH_any next A n c els w2 (h.below B2) (by omega) (fun e he => by have := hb e he; omega)).mono ?_
  rintro y w3 ⟨⟨v, rfl, SW, hap⟩, b3⟩
  have B3 := ac B2 b3
  have z3 := b3.size
  have Z3 := Z2.below b3 Z2.lt
  have S4 := S3.below b3 S3.lt
  have S7 := S6.below b3 S6.lt
  have lw := SW.lt
  have hbW := hbm.below B3
  have c1 := S4.cell (i := 1) rfl
  have c4 := S4.cell (i := 4) rfl
  have c5 := S4.cell (i := 5) rfl
  clear e0 s0 s1 S3 S6 Z2
  go_upto_region 10 with fail
  refine wp_region_noPanic ?_
  refine wp_region_held_drew (S := fun W => W.cell? ⟨w.heap.size + 1, 1, none⟩ = some (.int .i64 x.f0) ∧ W.cell? ⟨w.heap.size + 1, 4, none⟩ = some (.bool x.f2) ∧ W.cell? ⟨w.heap.size + 1, 5, none⟩ = some (.slice B m d)) (by kernel_rfl) ?_ (fun hHeld => ?_)
  · exact ⟨c1, c4, c5⟩
  refine wpAnyH_take (i := 0) (oi := _) (v := .pointer (some ⟨w2.heap.size, 0, none⟩)) rfl (by kernel_rfl) (by kernel_rfl) (by kernel_rfl) (fun _ _ _ h => h) (Or.inl ⟨by rfl, by intro W hSw; obtain ⟨z0, z1, z2⟩ := hSw; go_simp⟩) (by assumption) ?_
  refine wpAnyH_take (i := 1) (oi := _) (v := .pointer (some ⟨w.heap.size + 1, 1, none⟩)) rfl (by kernel_rfl) (by kernel_rfl) (by kernel_rfl) (fun _ _ _ h => h) (Or.inl ⟨by rfl, by intro W hSw; obtain ⟨z0, z1, z2⟩ := hSw; go_simp⟩) (by assumption) ?_
  refine wpAnyH_take (i := 2) (oi := _) (v := .int .i64 x.f0) rfl (by kernel_rfl) (by kernel_rfl) (by kernel_rfl) (fun _ _ _ h => h) (Or.inl ⟨by rfl, by intro W hSw; obtain ⟨z0, z1, z2⟩ := hSw; go_simp⟩) (by assumption) ?_
  refine wpAnyH_take (i := 3) (oi := _) (v := .pointer (some ⟨w.heap.size + 1, 5, none⟩)) rfl (by kernel_rfl) (by kernel_rfl) (by kernel_rfl) (fun _ _ _ h => h) (Or.inl ⟨by rfl, by intro W hSw; obtain ⟨z0, z1, z2⟩ := hSw; go_simp⟩) (by assumption) ?_
  refine wpAnyH_take (i := 4) (oi := _) (v := .slice B m d) rfl (by kernel_rfl) (by kernel_rfl) (by kernel_rfl) (fun _ _ _ h => h) (Or.inl ⟨by rfl, by intro W hSw; obtain ⟨z0, z1, z2⟩ := hSw; go_simp⟩) (by assumption) ?_
  refine wpAnyH_take (i := 6) (oi := _) (v := .pointer (some ⟨w.heap.size + 1, 4, none⟩)) rfl (by kernel_rfl) (by kernel_rfl) (by kernel_rfl) (fun _ _ _ h => h) (Or.inl ⟨by rfl, by intro W hSw; obtain ⟨z0, z1, z2⟩ := hSw; go_simp⟩) (by assumption) ?_
  refine wpAnyH_take (i := 7) (oi := _) (v := .bool x.f2) rfl (by kernel_rfl) (by kernel_rfl) (by kernel_rfl) (fun _ _ _ h => h) (Or.inl ⟨by rfl, by intro W hSw; obtain ⟨z0, z1, z2⟩ := hSw; go_simp⟩) (by assumption) ?_
  refine wpAnyH_ready (rs := [5]) (by kernel_rfl) (by simp) (AllReadyH.cons (o := _) rfl (fun K hK => ?_) AllReadyH.nil)
  rw [if_pos (by rfl)]
  go_simp
  refine (cloneR_any B m d x.f1 w3.drew ⟨hbW.len, hbW.byte, hbW.at_⟩ hzB (by omega)).mono ?_
  rintro y w4 ⟨⟨vb, rfl, rb⟩, b4⟩
  have Bd : Below w3.drew.heap.size w3 w4 := (Below.refl w3.heap.size w3).drew.trans b4
  have z4 : w3.heap.size ≤ w4.heap.size := b4.size
  obtain ⟨Ab, cb, rfl, ob⟩ := rb.ow (n := m) hbm.len
  have rb0 := rb.capD
  have SWb := SW.below Bd lw
  have S4b := S4.below Bd S4.lt
  have S7b := S7.below Bd S7.lt
  have Z3b := Z3.below Bd Z3.lt
  refine hK.out _ _ ⟨S4b.cell (i := 1) rfl, S4b.cell (i := 4) rfl, S4b.cell (i := 5) rfl⟩ (fun _ => ?_)
  clear hK K
  refine wpAnyH_take (i := 8) (oi := _) (v := .agg #[.int .i64 x.f0, .slice Ab m cb, .bool x.f2]) rfl (by kernel_rfl) (by kernel_rfl) (by kernel_rfl) (fun _ _ _ h => h) (Or.inl ⟨by rfl, by intro W hSw; obtain ⟨z0, z1, z2⟩ := hSw; go_simp⟩) (by assumption) ?_
  refine wpAnyH_ready (rs := [9]) (by kernel_rfl) (by simp) (AllReadyH.cons (o := _) rfl (fun K hK => ?_) AllReadyH.nil)
  rw [if_pos (by rfl)]
  go_simp
  refine (holdP_any w2.heap.size (w2.heap.size + 1) next v els x Ab m cb w3 w4 SWb hap Bd (by omega) (by omega) ob rb0 (by have := h.len; omega) hup hb0 hb1).mono ?_
  rintro y w5 ⟨rfl, ⟨v5, SW5, hap5⟩, b5⟩
  have z5 := b5.size
  have S4c := S4b.below b5 (by have := S4.lt; omega)
  have S7c := S7b.below b5 (by omega)
  have Z3c := Z3b.below b5 (by omega)
  refine hK.out _ _ ⟨S4c.cell (i := 1) rfl, S4c.cell (i := 4) rfl, S4c.cell (i := 5) rfl⟩ (fun _ => ?_)
  clear hK K
  refine wpAnyH_done (by kernel_rfl) (NoPanic.normal ?_) _
  try simp only [List.getElem_toArray, List.getElem_cons_succ, List.getElem_cons_zero, Act.put, List.setIfInBounds_toArray, List.set_cons_zero, List.set_cons_succ]
  clear c1 c4 c5 hHeld SWb S4b S7b Z3b SW hap S4 S7 Z3
  obtain ⟨nN, hnn⟩ : ∃ nN, (nowH next els x).length = nN := ⟨_, rfl⟩
  have HN := Shut.mk hnn
  obtain ⟨A5, c5, rfl, rm5, lo5⟩ := hap5.lo HN.out
  clear hnn
  have hnN' : nN ≤ 101 := by have := HN.out; omega
  have Bw5 : Below w.heap.size w w5 := (B3.trans (Bd.mono (by show w.heap.size ≤ w3.heap.size; omega))).trans (b5.mono (by omega))
  have s2 := S7c.cell (i := 2) rfl
  have hWL : waitN next (nowH next els x) ≤ 1000 := by
    have h9 := lo5.len
    have := waitN_le next (nowH next els x)
    omega
  go_upto_region 11 with fail
  refine wp_region_noPanic ?_
  refine wp_region_held_drew (S := fun W => W.cell? ⟨w.heap.size, 2, none⟩ = some (.slice A2 n2 c2)) (by kernel_rfl) ?_ (fun hHeld => ?_)
  · exact s2
  refine wpAnyH_take (i := 0) (oi := _) (v := .pointer (some ⟨w.heap.size, 2, none⟩)) rfl (by kernel_rfl) (by kernel_rfl) (by kernel_rfl) (fun _ _ _ h => h) (Or.inl ⟨by rfl, by intro W hSw; go_simp⟩) (by assumption) ?_
  refine wpAnyH_take (i := 1) (oi := _) (v := .slice A2 n2 c2) rfl (by kernel_rfl) (by kernel_rfl) (by kernel_rfl) (fun _ _ _ h => h) (Or.inl ⟨by rfl, by intro W hSw; go_simp⟩) (by assumption) ?_
  refine wpAnyH_take (i := 2) (oi := _) (v := .pointer (some ⟨w2.heap.size, 0, none⟩)) rfl (by kernel_rfl) (by kernel_rfl) (by kernel_rfl) (fun _ _ _ h => h) (Or.inl ⟨by rfl, by intro W hSw; go_simp⟩) (by assumption) ?_
  refine wpAnyH_ready (rs := [3]) (by kernel_rfl) (by simp) (AllReadyH.cons (o := _) rfl (fun K hK => ?_) AllReadyH.nil)
  rw [if_pos (by rfl)]
  go_simp
  refine (slideH_any w2.heap.size next A5 nN c5 (nowH next els x) (rng (w2.heap.size + 1) w5.heap.size) w5.drew SW5 (fun hh => by unfold rng at hh; omega) (fun b hh => hh.2) ((okH A5 nN (nowH next els x)).drewN lo5 1) rm5 (by omega) hb0 hb1).mono ?_
  rintro y w6 ⟨⟨T, q, rfl, LT⟩, ⟨A6, n6, c6, e6, SW6, lo6, rm6⟩, t6⟩
  have z6 : w5.heap.size ≤ w6.heap.size := t6.size
  have S7d := Stc.tu (w := w5.drew) S7c t6 (by show ¬ (w.heap.size = w2.heap.size); omega)
  have Z3d := Stc.tu (w := w5.drew) Z3c t6 (by show ¬ (w.heap.size + 1 + 1 = w2.heap.size); omega)
  have Bw6 : Below w.heap.size w w6 := Bw5.drew.trans (t6.below (C := w.heap.size) (by show w.heap.size ≤ w5.heap.size; omega) (fun q hq => by omega))
  refine hK.out _ _ (S7d.cell (i := 2) rfl) (fun _ => ?_)
  clear hK K
  refine wpAnyH_ready (rs := [4]) (by kernel_rfl) (by simp) (AllReadyH.cons (o := _) rfl (fun K hK => ?_) AllReadyH.nil)
  rw [if_pos (by rfl)]
  go_simp
  refine (putTogether_any A2 n2 c2 l T (waitN next (nowH next els x)) q ((nowH next els x).take (waitN next (nowH next els x))) w6 (h2.below Bw6) hz2 hn2 LT hWL (fun e he => hbN e (List.mem_of_mem_take he))).mono ?_
  rintro y w7 ⟨⟨vm, vl, rfl, Fm, Fl, f1, f2, f3, am, ⟨Al, nl, cl, rfl, el, bl, rl⟩⟩, b7⟩
  have z7 := b7.size
  obtain ⟨nm, hnm⟩ : ∃ nm, (putM l ((nowH next els x).take (waitN next (nowH next els x)))).length = nm := ⟨_, rfl⟩
  have Hnm := Shut.mk hnm
  obtain ⟨Am, cm, rfl, _, _⟩ := am.lo Hnm.out
  have E6 := Shut.mk e6
  have El := Shut.mk el
  clear hnm e6 el
  have S7e := S7d.below b7 S7d.lt
  have Z3e := Z3d.below b7 Z3d.lt
  have SW7 := SW6.below b7 SW6.lt
  have lo7 := (okH A6 n6 _).below lo6 b7
  refine hK.out _ _ (S7e.cell (i := 2) rfl) (fun _ => ?_)
  clear hK K
  refine wpAnyH_take (i := 5) (oi := _) (v := .tuple #[.slice Am nm cm, .slice Al nl cl]) rfl (by kernel_rfl) (by kernel_rfl) (by kernel_rfl) (fun _ _ _ h => h) (Or.inl ⟨by rfl, by intro W hSw; go_simp⟩) (by assumption) ?_
  refine wpAnyH_take (i := 6) (oi := _) (v := .slice Am nm cm) rfl (by kernel_rfl) (by kernel_rfl) (by kernel_rfl) (fun _ _ _ h => h) (Or.inl ⟨by rfl, by intro W hSw; go_simp⟩) (by assumption) ?_
  refine wpAnyH_take (i := 7) (oi := _) (v := .slice Al nl cl) rfl (by kernel_rfl) (by kernel_rfl) (by kernel_rfl) (fun _ _ _ h => h) (Or.inl ⟨by rfl, by intro W hSw; go_simp⟩) (by assumption) ?_
  refine wpAnyH_take (i := 8) (oi := _) (v := .slice Am nm cm) rfl (by kernel_rfl) (by kernel_rfl) (by kernel_rfl) (fun _ _ _ h => h) (Or.inl ⟨by rfl, by intro W hSw; go_simp⟩) (by assumption) ?_
  refine wpAnyH_take (i := 9) (oi := _) (v := .slice Al nl cl) rfl (by kernel_rfl) (by kernel_rfl) (by kernel_rfl) (fun _ _ _ h => h) (Or.inl ⟨by rfl, by intro W hSw; go_simp⟩) (by assumption) ?_
  refine wpAnyH_done (by kernel_rfl) (NoPanic.normal ?_) _
  try simp only [List.getElem_toArray, List.getElem_cons_succ, List.getElem_cons_zero, Act.put, List.setIfInBounds_toArray, List.set_cons_zero, List.set_cons_succ]
  obtain ⟨nx, hnx⟩ : ∃ nx : Int, next + ((waitN next (nowH next els x) : Nat) : Int) = nx := ⟨_, rfl⟩
  rw [hnx] at SW7
  have Hnx := Shut.mk hnx
  clear hnx hHeld s2 SW6 SW5 S7c S7d S7e Z3c Z3d
  have d0 := SW7.cell (i := 0) rfl
  have d1 := SW7.cell (i := 1) rfl
  go_upto_region 12 with fail
  refine wp_region_noPanic ?_
  refine wp_region_held_drew (S := fun W => W.cell? ⟨w2.heap.size, 0, none⟩ = some (.int .i64 nx) ∧ W.cell? ⟨w2.heap.size, 1, none⟩ = some (.slice A6 n6 c6)) (by kernel_rfl) ?_ (fun hHeld => ?_)
  · exact ⟨d0, d1⟩
  refine wpAnyH_take (i := 0) (oi := _) (v := .pointer (some ⟨w2.heap.size, 0, none⟩)) rfl (by kernel_rfl) (by kernel_rfl) (by kernel_rfl) (fun _ _ _ h => h) (Or.inl ⟨by rfl, by intro W hSw; obtain ⟨z0, z1⟩ := hSw; go_simp⟩) (by assumption) ?_
  refine wpAnyH_take (i := 1) (oi := _) (v := .pointer (some ⟨w2.heap.size, 0, none⟩)) rfl (by kernel_rfl) (by kernel_rfl) (by kernel_rfl) (fun _ _ _ h => h) (Or.inl ⟨by rfl, by intro W hSw; obtain ⟨z0, z1⟩ := hSw; go_simp⟩) (by assumption) ?_
  refine wpAnyH_take (i := 2) (oi := _) (v := .pointer (some ⟨w2.heap.size, 0, none⟩)) rfl (by kernel_rfl) (by kernel_rfl) (by kernel_rfl) (fun _ _ _ h => h) (Or.inl ⟨by rfl, by intro W hSw; obtain ⟨z0, z1⟩ := hSw; go_simp⟩) (by assumption) ?_
  refine wpAnyH_take (i := 3) (oi := _) (v := .int .i64 nx) rfl (by kernel_rfl) (by kernel_rfl) (by kernel_rfl) (fun _ _ _ h => h) (Or.inl ⟨by rfl, by intro W hSw; obtain ⟨z0, z1⟩ := hSw; go_simp⟩) (by assumption) ?_
  refine wpAnyH_take (i := 4) (oi := _) (v := .pointer (some ⟨w2.heap.size, 0, none⟩)) rfl (by kernel_rfl) (by kernel_rfl) (by kernel_rfl) (fun _ _ _ h => h) (Or.inl ⟨by rfl, by intro W hSw; obtain ⟨z0, z1⟩ := hSw; go_simp⟩) (by assumption) ?_
  refine wpAnyH_take (i := 5) (oi := _) (v := .pointer (some ⟨w2.heap.size, 0, none⟩)) rfl (by kernel_rfl) (by kernel_rfl) (by kernel_rfl) (fun _ _ _ h => h) (Or.inl ⟨by rfl, by intro W hSw; obtain ⟨z0, z1⟩ := hSw; go_simp⟩) (by assumption) ?_
  refine wpAnyH_take (i := 6) (oi := _) (v := .pointer (some ⟨w2.heap.size, 1, none⟩)) rfl (by kernel_rfl) (by kernel_rfl) (by kernel_rfl) (fun _ _ _ h => h) (Or.inl ⟨by rfl, by intro W hSw; obtain ⟨z0, z1⟩ := hSw; go_simp⟩) (by assumption) ?_
  refine wpAnyH_take (i := 7) (oi := _) (v := .slice A6 n6 c6) rfl (by kernel_rfl) (by kernel_rfl) (by kernel_rfl) (fun _ _ _ h => h) (Or.inl ⟨by rfl, by intro W hSw; obtain ⟨z0, z1⟩ := hSw; go_simp⟩) (by assumption) ?_
  refine wpAnyH_take (i := 8) (oi := _) (v := .slice Al nl cl) rfl (by kernel_rfl) (by kernel_rfl) (by kernel_rfl) (fun _ _ _ h => h) (Or.inl ⟨by rfl, by intro W hSw; obtain ⟨z0, z1⟩ := hSw; go_simp⟩) (by assumption) ?_
  refine wpAnyH_take (i := 9) (oi := _) (v := .agg #[.int .i64 nx, .slice A6 n6 c6, .slice Al nl cl]) rfl (by kernel_rfl) (by kernel_rfl) (by kernel_rfl) (fun _ _ _ h => h) (Or.inl ⟨by rfl, by intro W hSw; obtain ⟨z0, z1⟩ := hSw; go_simp⟩) (by assumption) ?_
  refine wpAnyH_take (i := 10) (oi := _) (v := .slice Am nm cm) rfl (by kernel_rfl) (by kernel_rfl) (by kernel_rfl) (fun _ _ _ h => h) (Or.inl ⟨by rfl, by intro W hSw; obtain ⟨z0, z1⟩ := hSw; go_simp⟩) (by assumption) ?_
  refine wpAnyH_take (i := 11) (oi := _) (v := .agg #[.int .i64 0, .int .i64 nx, .slice A6 n6 c6, .slice Al nl cl, .slice Am nm cm]) rfl (by kernel_rfl) (by kernel_rfl) (by kernel_rfl) (fun _ _ _ h => h) (Or.inl ⟨by rfl, by intro W hSw; obtain ⟨z0, z1⟩ := hSw; go_simp⟩) (by assumption) ?_
  have Zd : Stc w7.drew (w.heap.size + 1 + 1) [.int .i64 0, .int .i64 0, .slice none 0 0, .slice none 0 0, .slice none 0 0] 35 := Z3e
  have SWd : Stc w7.drew w2.heap.size [.int .i64 nx, .slice A6 n6 c6] 93 := SW7
  have T8 : Thing.sep (Thing.sep (tH A6 n6 ((nowH next els x).drop (waitN next (nowH next els x)))) (tR Al nl (putP l ((nowH next els x).take (waitN next (nowH next els x)))))) (tG (.slice Am nm cm) (putM l ((nowH next els x).take (waitN next (nowH next els x))))) w7.drew (rng w2.heap.size w7.heap.size) := by
    refine ⟨fun b => rng (w2.heap.size + 1) w5.heap.size b ∨ Fl b, Fm, fun b hb => ?_, fun b hb => ?_, fun b hb hb' => ?_, ⟨rng (w2.heap.size + 1) w5.heap.size, Fl, fun b hb => Or.inl hb, fun b hb => Or.inr hb, fun b hb hb' => ?_, (okH A6 n6 _).drewN lo7 1, (okR Al nl _).drewN bl 1⟩, (okG (.slice Am nm cm) _).drewN am 1⟩
    · show w2.heap.size ≤ b ∧ b < w7.heap.size
      rcases hb with hb | hb
      · have h5 : w2.heap.size + 1 ≤ b ∧ b < w5.heap.size := hb
        omega
      · have := f2 b hb; omega
    · show w2.heap.size ≤ b ∧ b < w7.heap.size
      have := f1 b hb; omega
    · have h5 := f1 b hb'
      rcases hb with hb | hb
      · have h6 : w2.heap.size + 1 ≤ b ∧ b < w5.heap.size := hb
        omega
      · exact f3 b hb' hb
    · have h5 := f2 b hb'
      have h6 : w2.heap.size + 1 ≤ b ∧ b < w5.heap.size := hb
      omega
  have okF := ((okH A6 n6 ((nowH next els x).drop (waitN next (nowH next els x)))).sep (okR Al nl (putP l ((nowH next els x).take (waitN next (nowH next els x)))))).sep (okG (.slice Am nm cm) (putM l ((nowH next els x).take (waitN next (nowH next els x)))))
  have B7 : Below w.heap.size w w7.drew := (Bw6.trans (b7.mono (by omega))).drew
  have zd : w7.heap.size ≤ w7.drew.heap.size := Nat.le_refl _
  have zd2 : w7.drew.heap.size ≤ w7.heap.size := Nat.le_refl _
  clear lo7 am bl Z3e SW7 d0 d1 hHeld
  generalize w7.drew = w8 at *
  have q0 := Zd.cell (i := 0) rfl
  have q1 := Zd.cell (i := 1) rfl
  have q2 := Zd.cell (i := 2) rfl
  have q3 := Zd.cell (i := 3) rfl
  have q4 := Zd.cell (i := 4) rfl
  have qf := Zd.frozen
  refine wpAnyH_ready (rs := [12]) (by kernel_rfl) (by simp) (AllReadyH.cons (o := _) rfl (fun K hK => ?_) AllReadyH.nil)
  rw [if_pos (by rfl)]
  go_simp
  have Jz := (((((Zd.set_ (i := 0) (.int .i64 0)).set_ (i := 1) (.int .i64 nx)).set_ (i := 2) (.slice A6 n6 c6)).set_ (i := 3) (.slice Al nl cl)).set_ (i := 4) (.slice Am nm cm))
  have Xz := (((((SWd.far (p := ⟨w.heap.size + 1 + 1, 0, none⟩) (by show ¬ w2.heap.size = w.heap.size + 1 + 1; omega) (.int .i64 0)).far (p := ⟨w.heap.size + 1 + 1, 1, none⟩) (by show ¬ w2.heap.size = w.heap.size + 1 + 1; omega) (.int .i64 nx)).far (p := ⟨w.heap.size + 1 + 1, 2, none⟩) (by show ¬ w2.heap.size = w.heap.size + 1 + 1; omega) (.slice A6 n6 c6)).far (p := ⟨w.heap.size + 1 + 1, 3, none⟩) (by show ¬ w2.heap.size = w.heap.size + 1 + 1; omega) (.slice Al nl cl)).far (p := ⟨w.heap.size + 1 + 1, 4, none⟩) (by show ¬ w2.heap.size = w.heap.size + 1 + 1; omega) (.slice Am nm cm))
  have TF : Tu (fun q => q = w.heap.size + 1 + 1) w8 _ := ((((((Tu.refl (fun q => q = w.heap.size + 1 + 1) w8).set_ (p := ⟨w.heap.size + 1 + 1, 0, none⟩) rfl (.int .i64 0)).set_ (p := ⟨w.heap.size + 1 + 1, 1, none⟩) rfl (.int .i64 nx)).set_ (p := ⟨w.heap.size + 1 + 1, 2, none⟩) rfl (.slice A6 n6 c6)).set_ (p := ⟨w.heap.size + 1 + 1, 3, none⟩) rfl (.slice Al nl cl)).set_ (p := ⟨w.heap.size + 1 + 1, 4, none⟩) rfl (.slice Am nm cm))
  have r0 := Jz.cell (i := 0) rfl
  have r1 := Jz.cell (i := 1) rfl
  have r2 := Jz.cell (i := 2) rfl
  have r3 := Jz.cell (i := 3) rfl
  have r4 := Jz.cell (i := 4) rfl
  clear q0 q1 q2 q3 q4 qf
  refine hK.out _ _ ⟨Xz.cell (i := 0) rfl, Xz.cell (i := 1) rfl⟩ (fun _ => ?_)
  clear hK K
  refine wpAnyH_done (by kernel_rfl) (NoPanic.normal ?_) _
  try simp only [List.getElem_toArray, List.getElem_cons_succ, List.getElem_cons_zero, Act.put, List.setIfInBounds_toArray, List.set_cons_zero, List.set_cons_succ]
  go_wp2
  refine bodyPost_ret (v := .agg #[.int .i64 0, .int .i64 nx, .slice A6 n6 c6, .slice Al nl cl, .slice Am nm cm]) (by simp [results, Try.results11, go_sem, r0, r1, r2, r3, r4]) rfl ?_
  refine ⟨⟨A6, n6, c6, Al, nl, cl, Am, nm, cm, by rw [Hnx.out], E6.out, El.out, rm6, rl.2, okF.widen (okF.tu T8 TF (fun b hF e => by have h9 : w2.heap.size ≤ b ∧ b < w7.heap.size := hF; omega)) (by omega) (by have := TF.size; omega)⟩, B7.trans (TF.below (C := w.heap.size) (by omega) (fun q hq => by omega))⟩
end Go.Proofs.Ytpaemmoopjkppaa
