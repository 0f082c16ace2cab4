import Derived.Test.YtgmbofoneeagiaaNxtC
import Derived.Test.YtgmbofoneeagiaaSndS
namespace Go.Proofs.Ytgmbofoneeagiaa
open Go.RowKit

def slotAt (now : Int) (e : PartD) : PartD := ⟨e.f0, e.f1, now, e.f3⟩

set_option linter.unusedVariables false in
set_option maxHeartbeats 4000000 in
theorem l8NextNone_any (g : Nat) (base now : Int) (A : Option Addr) (n c : Nat) (els : List PartD) (w : World) (hS : Stc w g [.int .i64 base, .slice A n c] 58) (h : Lst PartD.cels 4 w A n els) (hn : n ≤ 1048576) (hs : ∀ e ∈ els, -1 ≤ e.f2 ∧ e.f2 ≤ 1000) (h0 : 0 ≤ now) (h1 : now ≤ 1000) (hz : choose now 0 (-1) els < 0) :
    Calls Try.prog 126 #[.pointer (some ⟨g, 0, none⟩), .int .i64 now] w fun x w' => x = .returned (.agg #[.int .i64 0, .int .i64 0, .int .i64 0, .int .i64 0, .bool false, .slice none 0 0]) ∧ Below w.heap.size w w' := by
  have hch := fun W S L => l8Choose_any g base now A n c els W S L hn hs h0 h1
  obtain ⟨z, hz'⟩ : ∃ z, z = choose now 0 (-1) els := ⟨_, rfl⟩
  rw [← hz'] at hz hch
  have t0 : decide (z < 0) = true := by simp; omega
  clear hz' hs
  go_enter Try.func126, Try.ntmps126
  go_wp2_with fail
  refine (hch _ (hS.alloc _) (h.alloc _)).mono ?_
  rintro x w1 ⟨rfl, rfl⟩
  go_wp2
  refine bodyPost_ret (v := .agg #[.int .i64 0, .int .i64 0, .int .i64 0, .int .i64 0, .bool false, .slice none 0 0]) (by simp [results, Try.results126, go_sem]) rfl ?_
  exact ⟨rfl, ab (Below.refl _ _) _⟩

set_option linter.unusedVariables false in
set_option maxHeartbeats 4000000 in
theorem l8NextSome_any (g : Nat) (base now : Int) (A : Option Addr) (n c : Nat) (els : List PartD) (F : Nat → Prop) (w : World) (hS : Stc w g [.int .i64 base, .slice A n c] 58) (hg : ¬ F g) (hFl : ∀ b, F b → b < w.heap.size) (h : Lo PartD.cels 4 w F A n els) (hn : n ≤ 1048576) (hs : ∀ e ∈ els, -1 ≤ e.f2 ∧ e.f2 ≤ 1000) (h0 : 0 ≤ now) (h1 : now ≤ 1000) (hb0 : 0 ≤ base) (hb1 : base ≤ 10000) (k : Nat) (e : PartD) (he : els[k]? = some e) (hm : e.f0.length ≤ 1048576) (hz : choose now 0 (-1) els = (k : Int)) :
    Calls Try.prog 126 #[.pointer (some ⟨g, 0, none⟩), .int .i64 now] w fun x w' => (∃ A1 c1, x = .returned (.agg #[.int .i64 1, .int .i64 (base + (k : Int)), .int .i64 0, .int .i64 0, .bool e.f1, .slice A1 e.f0.length c1]) ∧ Bo w' (rng w.heap.size w'.heap.size) A1 e.f0.length e.f0) ∧ Lo PartD.cels 4 w' F A n (els.set k (slotAt now e)) ∧ Tu F w w' := by
  have hk : k < n := by rw [← h.len]; exact (List.getElem?_eq_some_iff.1 he).1
  have hch := fun W S L => l8Choose_any g base now A n c els W S L hn hs h0 h1
  rw [hz] at hch
  have hgl := hS.lt
  have v0 := hS.cell (i := 0) rfl
  have v1 := hS.cell (i := 1) rfl
  obtain ⟨b, off, G, rfl, hF, hbl, hfz, hG, hc, hup⟩ := h.upd (fun _ => rfl) he
  obtain ⟨x0, c0, B, m, d, rfl, ho, hzz⟩ := hc 0 _ rfl
  obtain ⟨x1, c1, rfl⟩ := hc 1 _ rfl
  obtain ⟨x2, c2, rfl⟩ := hc 2 _ rfl
  obtain ⟨x3, c3, rfl⟩ := hc 3 _ rfl
  simp only [Nat.add_zero] at c0
  have hbg : ¬ g = b := fun e => hg (e ▸ hF)
  have hbg2 : ¬ b = g := fun e => hg (e ▸ hF)
  have t0 : decide ((k : Int) < 0) = false := by simp
  have hR := h.rows
  have hml := ho.len
  have hmm : m ≤ 100000000 := by omega
  obtain ⟨W1, hW1⟩ : ∃ W1, W1 = w.setCell ⟨b, off + k * 4 + 2, none⟩ (.int .i64 now) := ⟨_, rfl⟩
  obtain ⟨W, hW⟩ : ∃ W, W = W1.alloc (.cells #[.int .i64 0, .int .i64 0, .int .i64 0, .int .i64 0, .bool false, .slice none 0 0] 67) := ⟨_, rfl⟩
  have hs1 : W1.heap.size = w.heap.size := by rw [hW1]; simp
  have hsW : W.heap.size = w.heap.size + 1 := by rw [hW, World.size_alloc, hs1]
  have hSW : Stc W g [.int .i64 base, .slice (some ⟨b, off, none⟩) n c] 58 := by
    rw [hW, hW1]; exact (hS.far (by exact hbg) _).alloc _
  have hZ : Stc W w.heap.size [.int .i64 0, .int .i64 0, .int .i64 0, .int .i64 0, .bool false, .slice none 0 0] 67 := by
    have := Stc.new W1 67 [.int .i64 0, .int .i64 0, .int .i64 0, .int .i64 0, .bool false, .slice none 0 0] _ rfl
    rw [hs1] at this
    rw [hW]; exact this
  have d0 : W1.cell? ⟨b, off + k * 4, none⟩ = some (.slice B m d) := by rw [hW1, cellOff _ (by omega)]; exact c0
  have d1 : W1.cell? ⟨b, off + k * 4 + 1, none⟩ = some (.bool e.f1) := by rw [hW1, cellOff _ (by omega)]; exact c1
  have d2 : W1.cell? ⟨b, off + k * 4 + 2, none⟩ = some (.int .i64 now) := by rw [hW1]; exact cellOn _ c2
  have d3 : W1.cell? ⟨b, off + k * 4 + 3, none⟩ = some (.bool e.f3) := by rw [hW1, cellOff _ (by omega)]; exact c3
  have hT1 : Tu F w W1 := by rw [hW1]; exact (Tu.refl F w).set_ hF _
  have hB1 : Bo W1 (G 0) B m e.f0 := by
    refine ho.keep (by rw [hs1]; exact Nat.le_refl _) fun b' hb' _ => ?_
    rw [hW1]; exact heapOff _ (hG 0 b' hb').2
  have hL1 : Lo PartD.cels 4 W1 F (some ⟨b, off, none⟩) n (els.set k (slotAt now e)) := by
    refine hup.out _ _ (by rw [hs1]; exact Nat.le_refl _) (fun i => by rw [hW1]; simp only [World.frozen?_setCell]; exact hfz i) (fun b' hFb hbg' hGb hlb => by rw [hW1]; exact heapOff _ hbg') (fun i hi => by rw [hW1]; exact cellOff _ (by omega)) (fun i d0' hd => ?_)
    rcases i with _ | _ | _ | _ | i <;> simp [PartD.cels, slotAt] at hd <;> subst hd
    · exact ⟨_, d0, ⟨_, _, _, rfl, hB1, hzz⟩⟩
    · exact ⟨_, d1, rfl⟩
    · exact ⟨_, d2, rfl⟩
    · exact ⟨_, d3, rfl⟩
  have hA1 : Below W1.heap.size W1 W := by rw [hW]; exact ab (Below.refl _ _) _
  have q0 := (hA1.cell (p := ⟨b, off + k * 4, none⟩) (by rw [hs1]; exact hbl)).trans d0
  have q1 := (hA1.cell (p := ⟨b, off + k * 4 + 1, none⟩) (by rw [hs1]; exact hbl)).trans d1
  have hLW := hL1.below hA1 (Nat.le_refl _)
  have hBW := hB1.below hA1 (Nat.le_refl _)
  have hTW : Tu F w W := hT1.trans (Tu.ofBelow hA1)
  have s0 := hSW.cell (i := 0) rfl
  have hcp := fun W' (hh : Below W.heap.size W W') => copy_own B m d e.f0 W' (hBW.bs.below hh) hzz hmm
  have HW : Shut (W = (w.setCell ⟨b, off + k * 4 + 2, none⟩ (.int .i64 now)).alloc (.cells #[.int .i64 0, .int .i64 0, .int .i64 0, .int .i64 0, .bool false, .slice none 0 0] 67)) := ⟨by rw [hW, hW1]⟩
  have HsW := Shut.mk hsW
  have hgW : ¬ g = W.heap.size := by omega
  have hAf : ∀ w2, Below W.heap.size W w2 → w2.cell? ⟨g, 0, none⟩ = some (.int .i64 base) ∧ w2.cell? ⟨b, off + k * 4 + 1, none⟩ = some (.bool e.f1) ∧ Stc w2 w.heap.size [.int .i64 0, .int .i64 0, .int .i64 0, .int .i64 0, .bool false, .slice none 0 0] 67 := fun w2 hb =>
    ⟨(hb.cell (p := ⟨g, 0, none⟩) hSW.lt).trans s0, (hb.cell (p := ⟨b, off + k * 4 + 1, none⟩) (by show b < _; omega)).trans q1, hZ.below hb hZ.lt⟩
  have wq : IntKind.i64.wrap (base + (k : Int)) = base + (k : Int) := IntWalk.i64_in _ (by omega)
  have Hml := Shut.mk hml
  clear hml
  have hEnd : ∀ (w2 : World) (A1 : Option Addr) (cc : Nat), Below W.heap.size W w2 → Ow w2 W.heap.size A1 m e.f0 →
      ∀ x : Ending, x = .returned (.agg #[.int .i64 1, .int .i64 (base + (k : Int)), .int .i64 0, .int .i64 0, .bool e.f1, .slice A1 m cc]) → ∀ w', w' = (((((w2.setCell ⟨w.heap.size, 0, none⟩ (.int .i64 1)).setCell ⟨w.heap.size, 1, none⟩ (.int .i64 (base + (k : Int)))).setCell ⟨w.heap.size, 2, none⟩ (.int .i64 0)).setCell ⟨w.heap.size, 3, none⟩ (.int .i64 0)).setCell ⟨w.heap.size, 4, none⟩ (.bool e.f1)).setCell ⟨w.heap.size, 5, none⟩ (.slice A1 m cc) →
      (∃ A1 c1, x = .returned (.agg #[.int .i64 1, .int .i64 (base + (k : Int)), .int .i64 0, .int .i64 0, .bool e.f1, .slice A1 e.f0.length c1]) ∧ Bo w' (rng w.heap.size w'.heap.size) A1 e.f0.length e.f0) ∧ Lo PartD.cels 4 w' F (some ⟨b, off, none⟩) n (els.set k (slotAt now e)) ∧ Tu F w w' := by
    intro w2 A1 cc hb2 ho2 x hx w' hw'
    have T3 : Tu (fun q => q = w.heap.size) w2 w' := by
      rw [hw']
      exact (((((((Tu.refl (fun q => q = w.heap.size) w2).set_ (p := ⟨w.heap.size, 0, none⟩) rfl (.int .i64 1)).set_ (p := ⟨w.heap.size, 1, none⟩) rfl (.int .i64 (base + (k : Int)))).set_ (p := ⟨w.heap.size, 2, none⟩) rfl (.int .i64 0)).set_ (p := ⟨w.heap.size, 3, none⟩) rfl (.int .i64 0)).set_ (p := ⟨w.heap.size, 4, none⟩) rfl (.bool e.f1)).set_ (p := ⟨w.heap.size, 5, none⟩) rfl (.slice A1 m cc))
    have hO : Ow w' W.heap.size A1 m e.f0 := by
      rw [hw']
      exact (((((ho2.far (by simp; omega) _).far (by simp; omega) _).far (by simp; omega) _).far (by simp; omega) _).far (by simp; omega) _).far (by simp; omega) _
    refine ⟨⟨A1, cc, by rw [Hml.out]; exact hx, ?_⟩, (hLW.below hb2 (Nat.le_refl _)).tu T3 (fun q hq e => by have := hFl q hq; omega), ?_⟩
    · rw [Hml.out]
      exact Bo.ofOw hO fun q _ _ hB hlt => ⟨by omega, hlt⟩
    · have T4 := hTW.trans (Tu.ofBelow hb2)
      have s2 := T3.size
      exact ⟨T3.os.trans T4.os, T3.tape.trans T4.tape, T3.output.trans T4.output, Nat.le_trans T4.size T3.size, fun q hq hF' => (T3.block q (Nat.lt_of_lt_of_le hq T4.size) (by omega)).trans (T4.block q hq hF')⟩
  have HEnd := Shut.mk hEnd
  clear hEnd
  clear hz hs he hc h hup d0 d1 d2 d3 hT1 hL1 hB1 hW hW1 hsW hs1 hA1
  go_enter Try.func126, Try.ntmps126
  go_wp2_with fail
  refine (hch _ (hS.alloc _) (hR.alloc _)).mono ?_
  rintro x w1 ⟨rfl, rfl⟩
  go_wp2
  rw [← HW.out]
  go_region_law (first | (go_simp; go_at_call 184; refine (hcp _ ?hb).mono ?_; (case hb => first | exact Below.refl _ _ | exact (Below.refl _ _).drew | exact (Below.refl _ _).drew.drew); rintro x w2 ⟨⟨A1, cc, rfl, ho1, hr1⟩, b2⟩; obtain ⟨j0, j1, j2⟩ := hAf w2 ((Below.refl _ W).drew.trans b2); have j3 := j2.cell (i := 0) rfl; have j4 := j2.cell (i := 1) rfl; have j5 := j2.cell (i := 2) rfl; have j6 := j2.cell (i := 3) rfl; have j7 := j2.cell (i := 4) rfl; have j8 := j2.cell (i := 5) rfl; have j9 := j2.frozen))
  all_goals
    go_wp2
    have b2' := (Below.refl W.heap.size W).drew.trans b2
    have J := (((((j2.set_ (i := 0) (.int .i64 1)).set_ (i := 1) (.int .i64 (base + (k : Int)))).set_ (i := 2) (.int .i64 0)).set_ (i := 3) (.int .i64 0)).set_ (i := 4) (.bool e.f1)).set_ (i := 5) (.slice A1 m cc)
    have r0 := J.cell (i := 0) rfl
    have r1 := J.cell (i := 1) rfl
    have r2 := J.cell (i := 2) rfl
    have r3 := J.cell (i := 3) rfl
    have r4 := J.cell (i := 4) rfl
    have r5 := J.cell (i := 5) rfl
    refine bodyPost_ret (v := .agg #[.int .i64 1, .int .i64 (base + (k : Int)), .int .i64 0, .int .i64 0, .bool e.f1, .slice A1 m cc]) (by simp [results, Try.results126, go_sem, r0, r1, r2, r3, r4, r5]) rfl ?_
    exact HEnd.out w2 A1 cc b2' ho1 _ rfl _ rfl
end Go.Proofs.Ytgmbofoneeagiaa
