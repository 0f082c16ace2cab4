/- What is muted: the model's. -/
import Derived.Test.YtpaemmoopjkppaaEvnT
import Derived.Test.YtpaemmoopjkppaaSndP
namespace Go.Proofs.Ytpaemmoopjkppaa
open Go.RowKit

def mutL (els : List EventD) : List EventD := els.filter fun e => e.f0 != 1
theorem mutL_snoc (l : List EventD) (e : EventD) : mutL (l ++ [e]) = if e.f0 = 1 then mutL l else mutL l ++ [e] := by
  unfold mutL
  rw [List.filter_append]
  by_cases h : e.f0 = 1
  · rw [if_pos h]; simp [h]
  · rw [if_neg h]; simp [h]
theorem mutL_len (l : List EventD) : (mutL l).length ≤ l.length := List.length_filter_le _ _
theorem mutL_mem {l : List EventD} {e : EventD} (h : e ∈ mutL l) : e ∈ l := (List.mem_filter.1 h).1

set_option maxRecDepth 100000 in
set_option maxHeartbeats 2000000 in
theorem specMutMany_any (A : Option Addr) (n c : Nat) (w : World) (hn : n ≤ 1048576) (h : 200 < n) :
    Calls Try.prog 20 #[.slice A n c] w fun x w' => x = .returned (.agg #[.int .i64 2, .slice none 0 0]) ∧ Below w.heap.size w w' := by
  have t0 : decide ((n : Int) > 200) = true := by simp; omega
  go_enter Try.func20, Try.ntmps20
  go_wp2
  refine bodyPost_ret (v := .agg #[.int .i64 2, .slice none 0 0]) (by simp [results, Try.results20, go_sem]) rfl ?_
  exact ⟨rfl, ab (Below.refl _ _) _⟩

set_option linter.unusedVariables false in
set_option maxRecDepth 100000 in
set_option maxHeartbeats 4000000 in
theorem specMutOk_any (A : Option Addr) (n c : Nat) (els : List EventD) (w : World) (h : Lst EventD.cels 6 w A n els) (hn : n ≤ 200) (hb : ∀ e ∈ els, e.f2.length ≤ 1048576) :
    Calls Try.prog 20 #[.slice A n c] w fun x w' => (∃ v, x = .returned (.agg #[.int .i64 0, v]) ∧ apE w' w.heap.size v (mutL els)) ∧ Below w.heap.size w w' := by
  have Hl := Shut.mk h.len
  have t0 : decide ((n : Int) > 200) = false := by simp; omega
  have S0 := (Stc.new w 51 [.int .i64 0, .slice none 0 0] _ rfl).alloc (.cells #[.int .i64 0, .slice none 0 0] 51)
  have S1 := Stc.new (w.alloc (.cells #[.int .i64 0, .slice none 0 0] 51)) 51 [.int .i64 0, .slice none 0 0] _ rfl
  have B0 := ab (ab (Below.refl _ w) (.cells #[.int .i64 0, .slice none 0 0] 51)) (.cells #[.int .i64 0, .slice none 0 0] 51)
  simp only [World.size_alloc] at S1
  go_enter Try.func20, Try.ntmps20
  go_wp2
  go_loopw [13] (fun i wr => ∃ (k : Nat) (v : Value), k ≤ n ∧ i = .int .i64 k ∧ apE wr (w.heap.size + 1 + 1) v (mutL (els.take k)) ∧ Stc wr w.heap.size [.int .i64 0, .slice none 0 0] 51 ∧ Stc wr (w.heap.size + 1) [.int .i64 0, v] 51 ∧ Below w.heap.size w wr ∧ w.heap.size + 1 + 1 ≤ wr.heap.size) (fun i _ => n - (intOf i).toNat)
  case atStart => exact ⟨0, _, Nat.zero_le _, rfl, Ap.nil_ _ _, S0, S1, B0, by simp⟩
  case round =>
    obtain ⟨k, v, hk, rfl, hap, hS0, hS1, hbel, hsz⟩ := hrel
    have hb' := bcell hbel
    by_cases hlt : k < n
    · obtain ⟨b, off, e, B, m, c', rfl, hbs, he, g0, g1, g2, g3, g4, g5, hB, hz⟩ := h.getEvent hlt
      have hem : e ∈ els := List.mem_of_getElem? he.out
      have hm : m ≤ 1048576 := by have := hB.len; have := hb e hem; omega
      have htk : els.take (k + 1) = els.take k ++ [e] := by rw [List.take_add_one, he.out]; rfl
      by_cases hs : e.f0 = 1
      · have t1 : (e.f0 != 1) = false := by simp [hs]
        have Htk : Shut (mutL (els.take (k + 1)) = mutL (els.take k)) := ⟨by rw [htk, mutL_snoc, if_pos hs]⟩
        clear htk h hs
        go_wp2
        go_roundw
        case rel => exact ⟨k + 1, v, by omega, by go_num, by rw [Htk.out]; exact hap, hS0, hS1, hbel, hsz⟩
        case measure => simp [intOf]; omega
      have t1 : (e.f0 != 1) = true := by simpa using hs
      have Htk : Shut (mutL (els.take (k + 1)) = mutL (els.take k) ++ [e]) := ⟨by rw [htk, mutL_snoc, if_neg hs]⟩
      clear htk hs
      have hcp := fun W (hh : Below w.heap.size w W) => copy_own B m c' e.f2 W (hB.below hh) hz.out (by omega)
      have lb := hS1.lt
      have u1 := hS1.cell (i := 1) rfl
      clear h
      go_wp2_with fail
      refine (hcp _ (ab hbel _)).mono ?_
      rintro x w1 ⟨⟨A1, c1, rfl, ho, hrm⟩, b1⟩
      have bw := ac (ab (Below.refl wr.heap.size wr) (.cells #[.int .i64 e.f0, .int .i64 e.f1, .slice B m c', .int .i64 e.f3, .int .i64 e.f4, .int .i64 e.f5] 102)) b1
      have sp := (Stc.new wr 102 [.int .i64 e.f0, .int .i64 e.f1, .slice B m c', .int .i64 e.f3, .int .i64 e.f4, .int .i64 e.f5] _ rfl).below b1 (by simp)
      have hs1 := b1.size
      simp only [World.size_alloc] at ho hs1
      replace hS0 := hS0.below bw hS0.lt
      replace hS1 := hS1.below bw hS1.lt
      have p0 := sp.cell (i := 0) rfl
      have p1 := sp.cell (i := 1) rfl
      have p2 := sp.cell (i := 2) rfl
      have p3 := sp.cell (i := 3) rfl
      have p4 := sp.cell (i := 4) rfl
      have p5 := sp.cell (i := 5) rfl
      have pf := sp.frozen 2
      have u1' := hS1.cell (i := 1) rfl
      have uf := hS1.frozen 1
      have hne : ¬ w.heap.size + 1 = wr.heap.size := by omega
      have hne2 : ¬ wr.heap.size = w.heap.size + 1 := by omega
      clear u1 hcp g0 g1 g2 g3 g4 g5 hb'
      have hlen : (mutL (els.take k)).length ≤ 10000000 := by have h1 := mutL_len (els.take k); rw [List.length_take] at h1; omega
      have how : Ow w1 (wr.heap.size + 1) A1 m e.f2 := ho
      have HOW := (how.far (p := ⟨wr.heap.size, 2, none⟩) (by simp) (.slice A1 m c1)).alloc (.cells #[.int .i64 e.f0, .int .i64 e.f1, .slice A1 m c1, .int .i64 e.f3, .int .i64 e.f4, .int .i64 e.f5] 102)
      have HBW := ab (ae bw (p := ⟨wr.heap.size, 2, none⟩) (Nat.le_refl _) (.slice A1 m c1)) (.cells #[.int .i64 e.f0, .int .i64 e.f1, .slice A1 m c1, .int .i64 e.f3, .int .i64 e.f4, .int .i64 e.f5] 102)
      have HS0 := (hS0.far (p := ⟨wr.heap.size, 2, none⟩) (by simp; omega) (.slice A1 m c1)).alloc (.cells #[.int .i64 e.f0, .int .i64 e.f1, .slice A1 m c1, .int .i64 e.f3, .int .i64 e.f4, .int .i64 e.f5] 102)
      have HS1 := (hS1.far (p := ⟨wr.heap.size, 2, none⟩) (by simp; omega) (.slice A1 m c1)).alloc (.cells #[.int .i64 e.f0, .int .i64 e.f1, .slice A1 m c1, .int .i64 e.f3, .int .i64 e.f4, .int .i64 e.f5] 102)
      obtain ⟨q, hq⟩ : ∃ q, (mutL (els.take k) ++ [e]).length = q := ⟨_, rfl⟩
      have Hq := Shut.mk hq
      clear hq
      go_wp2_with (at_builtin; refine wpList_ap_append (cels := EventD.cels) Try.underlying49 info_Event rfl (by decide) (by decide) (fun _ => rfl) rfl _ _ rfl wr _ (w.heap.size + 1 + 1) v (mutL (els.take k)) hap HBW hsz rfl hlen _ _ [.int .i64 e.f0, .int .i64 e.f1, .slice A1 m c1, .int .i64 e.f3, .int .i64 e.f4, .int .i64 e.f5] rfl rfl (cells_new (by simp) _ _) (by simp [Value.oneCell']) e (Gone 2 m A1) (fun j b hb => by have := Gone.in_ HOW j b hb; omega) Gone.dis ?hnew ?_; (case hnew => intro j d hj; rcases j with _ | _ | _ | _ | _ | _ | j <;> simp [EventD.cels] at hj <;> subst hj; exact ⟨_, rfl, rfl⟩; exact ⟨_, rfl, rfl⟩; exact ⟨_, rfl, Gone.ow HOW hrm.2⟩; exact ⟨_, rfl, rfl⟩; exact ⟨_, rfl, rfl⟩; exact ⟨_, rfl, rfl⟩); intro v' w2 hap' hb2 hlay helse; obtain ⟨A2, c2, rfl, _, _⟩ := hap'.lo Hq.out; replace HS0 := HS0.below hb2 (by omega); replace HS1 := HS1.below hb2 (by omega); have y1 := HS1.cell (i := 1) rfl; have yf := HS1.frozen 1)
      go_roundw
      case rel =>
        refine ⟨k + 1, _, by omega, by go_num, ?_, HS0.far (by simp) _, HS1.set_ (i := 1) _, ?_, ?_⟩
        · rw [Htk.out]
          exact hap'.far (by simp) _
        · exact ((hbel.trans (HBW.mono (by omega))).trans (hb2.mono (by omega))).setCell (by simp) _
        · have := HBW.size
          have := hb2.size
          rw [World.size_setCell]
          omega
      case measure => simp [intOf]; omega
    · obtain rfl : k = n := by omega
      rw [List.take_of_length_le (by rw [Hl.out]; exact Nat.le_refl _)] at hap
      obtain ⟨q, hq⟩ : ∃ q, (mutL els).length = q := ⟨_, rfl⟩
      obtain ⟨A2, c2, rfl, _, _⟩ := hap.lo hq
      have y0 := hS1.cell (i := 0) rfl
      have y1 := hS1.cell (i := 1) rfl
      have x0 := hS0.cell (i := 0) rfl
      have x1 := hS0.cell (i := 1) rfl
      have xf := hS0.frozen
      clear h
      go_wp2
      refine bodyPost_ret (v := .agg #[.int .i64 0, .slice A2 q c2]) (by simp [results, Try.results20, go_sem, x0, x1]) rfl ?_
      refine ⟨⟨_, rfl, ?_⟩, (hbel.setCell (by simp) _).setCell (by simp) _⟩
      exact ((hap.far (p := ⟨w.heap.size, 0, none⟩) (by show w.heap.size < _; omega) _).far (p := ⟨w.heap.size, 1, none⟩) (by show w.heap.size < _; omega) _).mono (by omega)
end Go.Proofs.Ytpaemmoopjkppaa
