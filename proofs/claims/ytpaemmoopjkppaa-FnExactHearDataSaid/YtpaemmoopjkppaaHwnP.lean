/- The program's window of what came ahead: made of copies. -/
import Derived.Test.YtpaemmoopjkppaaSndP
import Derived.Test.YtpaemmoopjkppaaSrfX
namespace Go.Proofs.Ytpaemmoopjkppaa
open Go.RowKit

def apH := @Ap HeldD HeldD.cels 3 84

set_option maxHeartbeats 1000000 in
theorem copiedH_any (e : HeldD) (A : Option Addr) (m c : Nat) (w : World) (h : Bs w A m e.f1) (hz : A = none → c = 0) (hm : m ≤ 1048576) :
    Calls Try.prog 44 #[.agg #[.int .i64 e.f0, .slice A m c, .bool e.f2]] w fun x w' => (∃ A' c', x = .returned (.agg #[.int .i64 e.f0, .slice A' m c', .bool e.f2]) ∧ Ow w' w.heap.size A' m e.f1 ∧ Rm A' m c') ∧ Below w.heap.size w w' := by
  have S0 := (Stc.new w 84 [.int .i64 e.f0, .slice A m c, .bool e.f2] _ rfl).alloc (.cells #[.int .i64 0, .slice none 0 0, .bool false] 84)
  have S1 := Stc.new (w.alloc (.cells #[.int .i64 e.f0, .slice A m c, .bool e.f2] 84)) 84 [.int .i64 0, .slice none 0 0, .bool false] _ rfl
  have B0 := ab (ab (Below.refl _ w) (.cells #[.int .i64 e.f0, .slice A m c, .bool e.f2] 84)) (.cells #[.int .i64 0, .slice none 0 0, .bool false] 84)
  simp only [World.size_alloc] at S1
  have hcp := clone_any A m c e.f1 _ (h.below B0) hz (by omega)
  go_enter Try.func44, Try.ntmps44
  go_wp2_with fail
  refine hcp.mono ?_
  rintro x w1 ⟨⟨A1, c1, rfl, ho, hrm⟩, b1⟩
  have B1 := ac B0 b1
  have hs1 := b1.size
  simp only [World.size_alloc] at ho hs1
  replace S0 := S0.below b1 S0.lt
  replace S1 := S1.below b1 S1.lt
  have p0 := S0.cell (i := 0) rfl
  have p1 := S0.cell (i := 1) rfl
  have p2 := S0.cell (i := 2) rfl
  have pf := S0.frozen 1
  have q0 := S1.cell (i := 0) rfl
  have q1 := S1.cell (i := 1) rfl
  have q2 := S1.cell (i := 2) rfl
  have qf := S1.frozen
  clear hcp b1
  go_wp2
  refine bodyPost_ret (v := .agg #[.int .i64 e.f0, .slice A1 m c1, .bool e.f2]) (by simp [results, Try.results44, go_sem, q0, q1, q2]) rfl ?_
  refine ⟨⟨A1, c1, rfl, ((((ho.far ?_ _).far ?_ _).far ?_ _).far ?_ _).mono (by omega), hrm⟩, (((B1.setCell ?_ _).setCell ?_ _).setCell ?_ _).setCell ?_ _⟩ <;> (simp; try omega)

set_option maxRecDepth 100000 in
set_option maxHeartbeats 4000000 in
theorem newWindowH_any (first : Int) (A : Option Addr) (n c : Nat) (els : List HeldD) (w : World) (h : Lst HeldD.cels 3 w A n els) (hn : n ≤ 1048576) (hb : ∀ e ∈ els, e.f1.length ≤ 1048576) :
    Calls Try.prog 43 #[.int .i64 first, .slice A n c, .func (.func 44) #[] #[]] w fun x w' => (∃ v, x = .returned (.pointer (some ⟨w.heap.size, 0, none⟩)) ∧ Stc w' w.heap.size [.int .i64 first, v] 93 ∧ apH w' (w.heap.size + 1) v els) ∧ Below w.heap.size w w' := by
  have Hl := Shut.mk h.len
  have S0 := Stc.new w 93 [.int .i64 first, .slice none 0 0] _ rfl
  have B0 := ab (Below.refl _ w) (.cells #[.int .i64 first, .slice none 0 0] 93)
  go_enter Try.func43, Try.ntmps43
  go_wp2
  go_loopw [15] (fun i wr => ∃ (k : Nat) (v : Value), k ≤ n ∧ i = .int .i64 k ∧ apH wr (w.heap.size + 1) v (els.take k) ∧ Stc wr w.heap.size [.int .i64 first, v] 93 ∧ Below w.heap.size w wr ∧ w.heap.size + 1 ≤ wr.heap.size) (fun i _ => n - (intOf i).toNat)
  case atStart => exact ⟨0, _, Nat.zero_le _, rfl, Ap.nil_ _ _, S0, B0, by simp⟩
  case round =>
    obtain ⟨k, v, hk, rfl, hap, hS, hbel, hsz⟩ := hrel
    have hb' := bcell hbel
    by_cases hlt : k < n
    · obtain ⟨b, off, e, B, m, c', rfl, hbs, he, g0, g1, g2, hB, hz⟩ := h.getHeld hlt
      have hem : e ∈ els := List.mem_of_getElem? he.out
      have hm : m ≤ 1048576 := by have := hB.len; have := hb e hem; omega
      have hcp := fun W (hh : Below w.heap.size w W) => copiedH_any e B m c' W (hB.below hh) hz.out hm
      have u1 := hS.cell (i := 1) rfl
      have lb := hS.lt
      clear h
      have hlen : (els.take k).length ≤ 10000000 := by rw [List.length_take]; omega
      have hlk : (els.take k ++ [e]).length = k + 1 := by rw [List.length_append, List.length_take, Hl.out]; simp; omega
      have htk : els.take (k + 1) = els.take k ++ [e] := by rw [List.take_add_one, he.out]; rfl
      have Htk := Shut.mk htk
      have Hlk := Shut.mk hlk
      clear htk hlk
      go_wp2_with fail
      generalize hW0 : wr.alloc (.cells #[.int .i64 e.f0, .slice B m c', .bool e.f2] 84) = W0
      have q0 : Below wr.heap.size wr W0 := by rw [← hW0]; exact ab (Below.refl _ _) _
      have sp : Stc W0 wr.heap.size [.int .i64 e.f0, .slice B m c', .bool e.f2] 84 := by rw [← hW0]; exact Stc.new wr _ _ _ rfl
      have hW := hS.below q0 lb
      have zW : wr.heap.size + 1 ≤ W0.heap.size := by rw [← hW0]; simp
      clear hW0 u1
      have s0 := sp.cell (i := 0) rfl
      have s1 := sp.cell (i := 1) rfl
      have s2 := sp.cell (i := 2) rfl
      have s4 := hW.cell (i := 1) rfl
      have s5 := hW.frozen 1
      have HCP : Shut (∀ W, (W.cell? ⟨wr.heap.size, 0, none⟩ = some (.int .i64 e.f0) ∧ W.cell? ⟨wr.heap.size, 1, none⟩ = some (.slice B m c') ∧ W.cell? ⟨wr.heap.size, 2, none⟩ = some (.bool e.f2) ∧ W.cell? ⟨w.heap.size, 1, none⟩ = some v ∧ W = W0.drew) → Calls Try.prog 44 #[.agg #[.int .i64 e.f0, .slice B m c', .bool e.f2]] W fun x w' => (∃ A' c', x = .returned (.agg #[.int .i64 e.f0, .slice A' m c', .bool e.f2]) ∧ Ow w' W0.heap.size A' m e.f1 ∧ Rm A' m c') ∧ Below W0.heap.size W0 w') := by
        refine ⟨fun W ⟨_, _, _, _, hw⟩ => ?_⟩
        subst hw
        refine (hcp _ ((hbel.trans (q0.mono (by have := hbel.size; omega))).drew)).mono ?_
        rintro x w' ⟨⟨A', c2, h1, h2, h3⟩, h4⟩
        exact ⟨⟨A', c2, h1, h2, h3⟩, ⟨h4.os, h4.tape, h4.output, h4.size, h4.block⟩⟩
      go_region_law (first
        | (refine step_ap_append (cels := HeldD.cels) Try.underlying30 info_Held rfl (by decide) (by decide) (fun _ => rfl) rfl _ _ rfl wr _ (w.heap.size + 1) v (els.take k) hap (ab (q0.trans (b1.mono q0.size)) _) hsz rfl hlen _ _ [.int .i64 e.f0, .slice A1 m c1, .bool e.f2] rfl rfl (cells_new (by simp) _ _) (by simp [Value.oneCell']) e (Gone 1 m A1) (fun j b hb => by have := Gone.in_ (ho.alloc (.cells #[.int .i64 e.f0, .slice A1 m c1, .bool e.f2] 84)) j b hb; omega) Gone.dis (fun j d hj => by
            rcases j with _ | _ | _ | j <;> simp [HeldD.cels] at hj <;> subst hj
            · exact ⟨_, rfl, rfl⟩
            · exact ⟨_, rfl, Gone.ow (ho.alloc _) hrm.2⟩
            · exact ⟨_, rfl, rfl⟩) ?_; intro v' w2 hap' hb2 hlay helse; obtain ⟨A2, c2, rfl, _, _⟩ := hap'.lo Hlk.out; have HS2 := ((hW.below b1 hW.lt).alloc (.cells #[.int .i64 e.f0, .slice A1 m c1, .bool e.f2] 84)).below hb2 (by omega); have y1 := HS2.cell (i := 1) rfl; have yf := HS2.frozen 1)
        | (go_simp; go_wp2_with (go_at_call 44; refine (HCP.out _ ?_).mono ?_; (exact ⟨by simp [s0], by simp [s1], by simp [s2], by simp [s4], rfl⟩); rintro x w1 ⟨⟨A1, c1, rfl, ho, hrm⟩, b1⟩; have hW1 := hW.below b1 hW.lt; have s4b := hW1.cell (i := 1) rfl; have l4b := hW1.lt)))
      all_goals
        go_wp2
        go_roundw
        case rel =>
          have z1 := b1.size
          have z2 := hb2.size
          simp only [World.size_alloc] at z2
          refine ⟨k + 1, _, by omega, by go_num, ?_, HS2.set_ (i := 1) _, ?_, by rw [World.size_setCell]; omega⟩
          · rw [Htk.out]
            exact hap'.far (by simp) _
          · exact ((((hbel.trans (q0.mono (by omega))).trans (b1.mono (by omega))).alloc (by omega) _).trans (hb2.mono (by omega))).setCell (Nat.le_refl _) _
        case measure => (simp [intOf]; omega)
    · obtain rfl : k = n := by omega
      rw [List.take_of_length_le (by rw [Hl.out]; exact Nat.le_refl _)] at hap
      clear h
      go_wp2
      go_ret
      exact ⟨⟨v, rfl, hS, hap⟩, hbel⟩
end Go.Proofs.Ytpaemmoopjkppaa
