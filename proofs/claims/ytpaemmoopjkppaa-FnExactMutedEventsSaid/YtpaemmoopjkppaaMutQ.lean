/- What is muted: the program's. -/
import Derived.Test.YtpaemmoopjkppaaMutM
import Derived.Test.YtpaemmoopjkppaaMutP
namespace Go.Proofs.Ytpaemmoopjkppaa
open Go.RowKit

set_option maxRecDepth 100000 in
set_option maxHeartbeats 2000000 in
theorem implMutMany_any (A : Option Addr) (n c : Nat) (w : World) (hn : n ≤ 1048576) (h : 200 < n) :
    Calls Try.prog 22 #[.slice A n c] w fun x w' => x = .returned (.agg #[.int .i64 2, .slice none 0 0]) ∧ Below w.heap.size w w' := by
  have t0 : decide ((n : Int) > 200) = true := by simp; omega
  go_enter Try.func22, Try.ntmps22
  go_wp2
  refine bodyPost_ret (v := .agg #[.int .i64 2, .slice none 0 0]) (by simp [results, Try.results22, go_sem]) rfl ?_
  exact ⟨rfl, ab (Below.refl _ _) _⟩

set_option linter.unusedVariables false in
set_option maxRecDepth 100000 in
set_option maxHeartbeats 4000000 in
theorem implMutOk_any (A : Option Addr) (n c : Nat) (els : List EventD) (w : World) (h : Lst EventD.cels 6 w A n els) (hn : n ≤ 200) (hb : ∀ e ∈ els, e.f2.length ≤ 1048576) :
    Calls Try.prog 22 #[.slice A n c] w fun x w' => (∃ v, x = .returned (.agg #[.int .i64 0, v]) ∧ apE w' w.heap.size v (mutL els)) ∧ Below w.heap.size w w' := by
  have Hl := Shut.mk h.len
  have t0 : decide ((n : Int) > 200) = false := by simp; omega
  have S0 := Stc.new w 51 [.int .i64 0, .slice none 0 0] _ rfl
  have B0 := ab (Below.refl w.heap.size w) (.cells #[.int .i64 0, .slice none 0 0] 51)
  go_enter Try.func22, Try.ntmps22
  go_wp2
  go_loopw [3, 12] (fun v i wr => ∃ k : Nat, k ≤ n ∧ i = .int .i64 k ∧ apE wr (w.heap.size + 1) v (mutL (els.take k)) ∧ Stc wr w.heap.size [.int .i64 0, .slice none 0 0] 51 ∧ Below w.heap.size w wr ∧ w.heap.size + 1 ≤ wr.heap.size) (fun v i _ => n - (intOf i).toNat)
  case atStart => exact ⟨0, Nat.zero_le _, rfl, Ap.nil_ _ _, S0, B0, by simp⟩
  case round =>
    obtain ⟨k, hk, rfl, hap, hS0, hbel, hsz⟩ := hrel
    obtain ⟨q9, hq9⟩ : ∃ q, (mutL (els.take k)).length = q := ⟨_, rfl⟩
    obtain ⟨A9, c9, rfl, _, _⟩ := hap.lo hq9
    have hb' := bcell hbel
    by_cases hlt : k < n
    · obtain ⟨b, off, e, B, m, c', rfl, hbs, he, g0, g1, g2, g3, g4, g5, hB, hz⟩ := h.getEvent hlt
      have hem : e ∈ els := List.mem_of_getElem? he.out
      have hm : m ≤ 1048576 := by have := hB.len; have := hb e hem; omega
      have htk : els.take (k + 1) = els.take k ++ [e] := by rw [List.take_add_one, he.out]; rfl
      have sp := Stc.new wr 102 [.int .i64 e.f0, .int .i64 e.f1, .slice B m c', .int .i64 e.f3, .int .i64 e.f4, .int .i64 e.f5] _ rfl
      have bx := ab (Below.refl wr.heap.size wr) (.cells #[.int .i64 e.f0, .int .i64 e.f1, .slice B m c', .int .i64 e.f3, .int .i64 e.f4, .int .i64 e.f5] 102)
      have p0 := sp.cell (i := 0) rfl
      have p1 := sp.cell (i := 1) rfl
      have p2 := sp.cell (i := 2) rfl
      have p3 := sp.cell (i := 3) rfl
      have p4 := sp.cell (i := 4) rfl
      have p5 := sp.cell (i := 5) rfl
      by_cases hs : e.f0 = 1
      · have t1 : (e.f0 != 1) = false := by simp [hs]
        have Htk : Shut (mutL (els.take (k + 1)) = mutL (els.take k)) := ⟨by rw [htk, mutL_snoc, if_pos hs]⟩
        clear htk h hs
        go_wp2
        go_roundw
        case rel => exact ⟨k + 1, by omega, by go_num, by rw [Htk.out]; exact hap.alloc _, hS0.alloc _, ab hbel _, by simp; omega⟩
        case measure => simp [intOf]; omega
      have t1 : (e.f0 != 1) = true := by simpa using hs
      have Htk : Shut (mutL (els.take (k + 1)) = mutL (els.take k) ++ [e]) := ⟨by rw [htk, mutL_snoc, if_neg hs]⟩
      clear htk hs
      have hcp := fun W (hh : Below w.heap.size w W) => copiedE_any e B m c' W (hB.below hh) hz.out hm
      have lb := hS0.lt
      clear h
      go_wp2_with fail
      refine (hcp _ (ab hbel _)).mono ?_
      rintro x w1 ⟨⟨A1, c1, rfl, ho, hrm⟩, b1⟩
      have bw := ac bx b1
      have hs1 := b1.size
      simp only [World.size_alloc] at ho hs1
      replace hS0 := hS0.below bw hS0.lt
      clear hcp g0 g1 g2 g3 g4 g5 hb' p0 p1 p2 p3 p4 p5
      have hlen : (mutL (els.take k)).length ≤ 10000000 := by have h1 := mutL_len (els.take k); rw [List.length_take] at h1; omega
      have how : Ow w1 (wr.heap.size + 1) A1 m e.f2 := ho
      have HOW := how.alloc (.cells #[.int .i64 e.f0, .int .i64 e.f1, .slice A1 m c1, .int .i64 e.f3, .int .i64 e.f4, .int .i64 e.f5] 102)
      have HBW := ab bw (.cells #[.int .i64 e.f0, .int .i64 e.f1, .slice A1 m c1, .int .i64 e.f3, .int .i64 e.f4, .int .i64 e.f5] 102)
      have HS0 := hS0.alloc (.cells #[.int .i64 e.f0, .int .i64 e.f1, .slice A1 m c1, .int .i64 e.f3, .int .i64 e.f4, .int .i64 e.f5] 102)
      obtain ⟨q, hq⟩ : ∃ q, (mutL (els.take k) ++ [e]).length = q := ⟨_, rfl⟩
      have Hq := Shut.mk hq
      clear hq
      go_wp2_with (at_builtin; refine wpList_ap_append (cels := EventD.cels) Try.underlying49 info_Event rfl (by decide) (by decide) (fun _ => rfl) rfl _ _ rfl wr _ (w.heap.size + 1) (.slice A9 q9 c9) (mutL (els.take k)) hap HBW hsz rfl hlen _ _ [.int .i64 e.f0, .int .i64 e.f1, .slice A1 m c1, .int .i64 e.f3, .int .i64 e.f4, .int .i64 e.f5] rfl rfl (cells_new (by simp) _ _) (by simp [Value.oneCell']) e (Gone 2 m A1) (fun j b hb => by have := Gone.in_ HOW j b hb; omega) Gone.dis ?hnew ?_; (case hnew => intro j d hj; rcases j with _ | _ | _ | _ | _ | _ | j <;> simp [EventD.cels] at hj <;> subst hj; exact ⟨_, rfl, rfl⟩; exact ⟨_, rfl, rfl⟩; exact ⟨_, rfl, Gone.ow HOW hrm.2⟩; exact ⟨_, rfl, rfl⟩; exact ⟨_, rfl, rfl⟩; exact ⟨_, rfl, rfl⟩); intro v' w2 hap' hb2 hlay helse; obtain ⟨A2, c2, rfl, _, _⟩ := hap'.lo Hq.out; replace HS0 := HS0.below hb2 (by omega))
      go_roundw
      case rel =>
        refine ⟨k + 1, by omega, by go_num, by rw [Htk.out]; exact hap', HS0, ?_, ?_⟩
        · exact (hbel.trans (HBW.mono (by omega))).trans (hb2.mono (by omega))
        · have := HBW.size
          have := hb2.size
          omega
      case measure => simp [intOf]; omega
    · obtain rfl : k = n := by omega
      rw [List.take_of_length_le (by rw [Hl.out]; exact Nat.le_refl _)] at hap
      have x0 := hS0.cell (i := 0) rfl
      have x1 := hS0.cell (i := 1) rfl
      have xf := hS0.frozen
      have J := (hS0.set_ (i := 0) (.int .i64 0)).set_ (i := 1) (.slice A9 q9 c9)
      have r0 := J.cell (i := 0) rfl
      have r1 := J.cell (i := 1) rfl
      clear h
      go_wp2
      refine bodyPost_ret (v := .agg #[.int .i64 0, .slice A9 q9 c9]) (by simp [results, Try.results22, go_sem, r0, r1]) rfl ?_
      refine ⟨⟨_, rfl, ?_⟩, (hbel.setCell (by simp) _).setCell (by simp) _⟩
      exact ((hap.far (p := ⟨w.heap.size, 0, none⟩) (by show w.heap.size < _; omega) _).far (p := ⟨w.heap.size, 1, none⟩) (by show w.heap.size < _; omega) _).mono (by omega)

/-- what both answer -/
def MutOut (els : List EventD) (n : Nat) (Z : Int) (N : Nat) (D : List EventD) : Prop := N = D.length ∧ ((200 < n ∧ Z = 2 ∧ D = []) ∨ (n ≤ 200 ∧ Z = 0 ∧ D = mutL els))
theorem MutOut.ex (els : List EventD) (n : Nat) : ∃ Z N D, MutOut els n Z N D := by
  by_cases h : n ≤ 200
  · exact ⟨0, _, _, rfl, .inr ⟨h, rfl, rfl⟩⟩
  · exact ⟨2, 0, [], rfl, .inl ⟨by omega, rfl, rfl⟩⟩
theorem MutOut.wd {els : List EventD} {n : Nat} {Z : Int} {N : Nat} {D : List EventD} (H : MutOut els n Z N D) (hl : els.length = n) (hn : n + sumE EventD.len els ≤ 1048576) : N ≤ 2000000 ∧ sumE EventD.wd D ≤ 2000000 ∧ (∀ e ∈ D, e.f2.length ≤ 100000000) := by
  obtain ⟨rfl, ⟨_, _, rfl⟩ | ⟨h, _, rfl⟩⟩ := H
  · exact ⟨by simp, by simp [sumE], fun e he => by cases he⟩
  · have h1 := mutL_len els
    have h2 : ∀ l : List EventD, sumE EventD.len (mutL l) ≤ sumE EventD.len l := by
      intro l
      induction l with
      | nil => exact Nat.le_refl _
      | cons x r ih =>
        unfold mutL at ih ⊢
        rw [List.filter_cons]
        split <;> simp only [sumE] <;> omega
    have h3 := h2 els
    have h4 := sumEventD_wd (mutL els)
    refine ⟨by omega, by omega, fun e he => ?_⟩
    have h5 : e.f2.length ≤ sumE EventD.len (mutL els) := sumE_mem EventD.len he
    omega
theorem specMutedEvents_any (A : Option Addr) (n c : Nat) (els : List EventD) (w : World) (h : Lst EventD.cels 6 w A n els) (hn : n ≤ 1048576) (hb : ∀ e ∈ els, e.f2.length ≤ 1048576) {Z : Int} {N : Nat} {D : List EventD} (H : MutOut els n Z N D) :
    Calls Try.prog 20 #[.slice A n c] w fun x w' => (∃ A0 d0, x = .returned (.agg #[.int .i64 Z, .slice A0 N d0]) ∧ (tE A0 N D) w' (rng w.heap.size w'.heap.size)) ∧ Below w.heap.size w w' := by
  obtain ⟨rfl, ⟨h0, rfl, rfl⟩ | ⟨h0, rfl, rfl⟩⟩ := H
  · exact (specMutMany_any A n c w hn h0).mono fun x w' ⟨h1, h2⟩ => ⟨⟨none, 0, h1, Lo.nil_ _ _ _⟩, h2⟩
  · refine (specMutOk_any A n c els w h h0 hb).mono ?_
    rintro x w' ⟨⟨v, rfl, hap⟩, hbb⟩
    obtain ⟨A2, c2, rfl, _, hlo⟩ := hap.lo rfl
    exact ⟨⟨A2, c2, rfl, hlo⟩, hbb⟩
theorem implMutedEvents_any (A : Option Addr) (n c : Nat) (els : List EventD) (w : World) (h : Lst EventD.cels 6 w A n els) (hn : n ≤ 1048576) (hb : ∀ e ∈ els, e.f2.length ≤ 1048576) {Z : Int} {N : Nat} {D : List EventD} (H : MutOut els n Z N D) :
    Calls Try.prog 22 #[.slice A n c] w fun x w' => (∃ A0 d0, x = .returned (.agg #[.int .i64 Z, .slice A0 N d0]) ∧ (tE A0 N D) w' (rng w.heap.size w'.heap.size)) ∧ Below w.heap.size w w' := by
  obtain ⟨rfl, ⟨h0, rfl, rfl⟩ | ⟨h0, rfl, rfl⟩⟩ := H
  · exact (implMutMany_any A n c w hn h0).mono fun x w' ⟨h1, h2⟩ => ⟨⟨none, 0, h1, Lo.nil_ _ _ _⟩, h2⟩
  · refine (implMutOk_any A n c els w h h0 hb).mono ?_
    rintro x w' ⟨⟨v, rfl, hap⟩, hbb⟩
    obtain ⟨A2, c2, rfl, _, hlo⟩ := hap.lo rfl
    exact ⟨⟨A2, c2, rfl, hlo⟩, hbb⟩
end Go.Proofs.Ytpaemmoopjkppaa
