/- A sender, copied: by the model and by the program. -/
import Derived.Test.YtgmbofoneeagiaaApC
namespace Go.Proofs.Ytgmbofoneeagiaa
open Go.RowKit

def apP := @Ap PartD PartD.cels 4 77
/-- the set of a copied run's block -/
def Gone (q m : Nat) (A : Option Addr) (j b : Nat) : Prop := j = q ∧ 0 < m ∧ A = some ⟨b, 0, none⟩
theorem Gone.in_ {w : World} {B q m : Nat} {A : Option Addr} {l : List Int} (h : Ow w B A m l) : ∀ j b, Gone q m A j b → B ≤ b ∧ b < w.heap.size := fun j b hb => by
  obtain ⟨_, hm, e⟩ := hb
  obtain ⟨b', e', h1, h2, _⟩ := h.at_ hm
  rw [e] at e'
  injection e' with e'
  injection e' with e'
  subst e'
  exact ⟨h1, h2⟩
theorem Gone.dis {q m : Nat} {A : Option Addr} : ∀ j j' b, Gone q m A j b → Gone q m A j' b → j = j' := fun _ _ _ h1 h2 => by rw [h1.1, h2.1]
theorem Gone.ow {w : World} {B q m c : Nat} {A : Option Addr} {l : List Int} (h : Ow w B A m l) (hc : A = none → c = 0) : Cel.ow w (Gone q m A q) (.slice A m c) (.b l) :=
  ⟨A, m, c, rfl, Bo.ofOw h fun _ hn e _ _ => ⟨rfl, hn, e⟩, hc⟩

theorem cells_new {w : World} {b : Nat} (hb : b = w.heap.size) (xs : List Value) (t : TypeId) : ∀ j u, xs[j]? = some u → (w.alloc (.cells xs.toArray t)).cell? ((⟨b, 0, none⟩ : Addr).add j) = some u := fun j u hu => by
  subst hb
  rw [Addr.add_mid, Nat.zero_add]
  exact (Stc.new w t xs _ rfl).cell hu

set_option maxRecDepth 100000 in
set_option maxHeartbeats 2000000 in
theorem l8Sender_any (g : Nat) (base : Int) (A : Option Addr) (n c : Nat) (els : List PartD) (w : World) (hS : Stc w g [.int .i64 base, .slice A n c] 58) (h : Lst PartD.cels 4 w A n els) (hn : n ≤ 1048576) (hb : ∀ e ∈ els, e.f0.length ≤ 1048576) :
    Calls Try.prog 120 #[.pointer (some ⟨g, 0, none⟩)] w fun e w' => (∃ v, e = .returned (.agg #[.int .i64 base, v]) ∧ apP w' w.heap.size v els) ∧ Below w.heap.size w w' := by
  have hg := hS.lt
  have Hl := Shut.mk h.len
  have v0 := hS.cell (i := 0) rfl
  have v1 := hS.cell (i := 1) rfl
  have S0 := (Stc.new w 58 [.int .i64 0, .slice none 0 0] _ rfl).alloc (.cells #[.int .i64 base, .slice none 0 0] 58)
  have S1 := Stc.new (w.alloc (.cells #[.int .i64 0, .slice none 0 0] 58)) 58 [.int .i64 base, .slice none 0 0] _ rfl
  have B0 := ab (ab (Below.refl _ w) (.cells #[.int .i64 0, .slice none 0 0] 58)) (.cells #[.int .i64 base, .slice none 0 0] 58)
  simp only [World.size_alloc] at S1
  go_enter Try.func120, Try.ntmps120
  go_wp2
  go_loopw [16] (fun i wr => ∃ (k : Nat) (v : Value), k ≤ n ∧ i = .int .i64 k ∧ apP wr (w.heap.size + 1 + 1) v (els.take k) ∧ Stc wr w.heap.size [.int .i64 0, .slice none 0 0] 58 ∧ Stc wr (w.heap.size + 1) [.int .i64 base, v] 58 ∧ Below w.heap.size w wr ∧ w.heap.size + 1 + 1 ≤ wr.heap.size) (fun i _ => n - (intOf i).toNat)
  case atStart => exact ⟨0, _, Nat.zero_le _, rfl, Ap.nil_ _ _, S0, S1, B0, by simp⟩
  case round =>
    obtain ⟨k, v, hk, rfl, hap, hS0, hS1, hbel, hsz⟩ := hrel
    have hb' := bcell hbel
    by_cases hlt : k < n
    · obtain ⟨b, off, e, B, m, c', rfl, hbs, he, g0, g1, g2, g3, hB, hz⟩ := h.getPart hlt
      have hem : e ∈ els := List.mem_of_getElem? he.out
      have hm : m ≤ 1048576 := by have := hB.len; have := hb e hem; omega
      have hcp := fun W (hh : Below w.heap.size w W) => copy_own B m c' e.f0 W (hB.below hh) hz.out (by omega)
      have lb := hS1.lt
      have u1 := hS1.cell (i := 1) rfl
      clear h
      go_wp2_with fail
      refine (hcp _ (ab hbel _)).mono ?_
      rintro x w1 ⟨⟨A1, c1, rfl, ho, hrm⟩, b1⟩
      have bw := ac (ab (Below.refl wr.heap.size wr) (.cells #[.slice B m c', .bool e.f1, .int .i64 e.f2, .bool e.f3] 77)) b1
      have sp := (Stc.new wr 77 [.slice B m c', .bool e.f1, .int .i64 e.f2, .bool e.f3] _ rfl).below b1 (by simp)
      have hs1 := b1.size
      simp only [World.size_alloc] at ho hs1
      replace hS0 := hS0.below bw hS0.lt
      replace hS1 := hS1.below bw hS1.lt
      have p0 := sp.cell (i := 0) rfl
      have p1 := sp.cell (i := 1) rfl
      have p2 := sp.cell (i := 2) rfl
      have p3 := sp.cell (i := 3) rfl
      have pf := sp.frozen 0
      have u1' := hS1.cell (i := 1) rfl
      have uf := hS1.frozen 1
      have hne : ¬ w.heap.size + 1 = wr.heap.size := by omega
      have hne2 : ¬ wr.heap.size = w.heap.size + 1 := by omega
      clear u1 hcp g0 g1 g2 g3 hb'
      have hlen : (els.take k).length ≤ 10000000 := by rw [List.length_take]; omega
      have how : Ow w1 (wr.heap.size + 1) A1 m e.f0 := ho
      have HOW := (how.far (p := ⟨wr.heap.size, 0, none⟩) (by simp) (.slice A1 m c1)).alloc (.cells #[.slice A1 m c1, .bool e.f1, .int .i64 e.f2, .bool e.f3] 77)
      have HBW := ab (ae bw (p := ⟨wr.heap.size, 0, none⟩) (Nat.le_refl _) (.slice A1 m c1)) (.cells #[.slice A1 m c1, .bool e.f1, .int .i64 e.f2, .bool e.f3] 77)
      have HS0 := (hS0.far (p := ⟨wr.heap.size, 0, none⟩) (by simp; omega) (.slice A1 m c1)).alloc (.cells #[.slice A1 m c1, .bool e.f1, .int .i64 e.f2, .bool e.f3] 77)
      have HS1 := (hS1.far (p := ⟨wr.heap.size, 0, none⟩) (by simp; omega) (.slice A1 m c1)).alloc (.cells #[.slice A1 m c1, .bool e.f1, .int .i64 e.f2, .bool e.f3] 77)
      have hlk : (els.take k ++ [e]).length = k + 1 := by rw [List.length_append, List.length_take, Hl.out]; simp; omega
      have htk : els.take (k + 1) = els.take k ++ [e] := by rw [List.take_add_one, he.out]; rfl
      have Htk := Shut.mk htk
      have Hlk := Shut.mk hlk
      clear htk hlk
      go_wp2_with (at_builtin; refine wpList_ap_append (cels := PartD.cels) Try.underlying56 info_Part rfl (by decide) (by decide) (fun _ => rfl) rfl _ _ rfl wr _ (w.heap.size + 1 + 1) v (els.take k) hap HBW hsz rfl hlen _ _ [.slice A1 m c1, .bool e.f1, .int .i64 e.f2, .bool e.f3] rfl rfl (cells_new (by simp) _ _) (by simp [Value.oneCell']) e (Gone 0 m A1) (fun j b hb => by have := Gone.in_ HOW j b hb; omega) Gone.dis ?hnew ?_; (case hnew => intro j d hj; rcases j with _ | _ | _ | _ | j <;> simp [PartD.cels] at hj <;> subst hj; exact ⟨_, rfl, Gone.ow HOW hrm.2⟩; exact ⟨_, rfl, rfl⟩; exact ⟨_, rfl, rfl⟩; exact ⟨_, rfl, rfl⟩); intro v' w2 hap' hb2 hlay helse; obtain ⟨A2, c2, rfl, _, _⟩ := hap'.lo Hlk.out; replace HS0 := HS0.below hb2 (by omega); replace HS1 := HS1.below hb2 (by omega); have y1 := HS1.cell (i := 1) rfl; have yf := HS1.frozen 1)
      go_roundw
      case rel =>
        refine ⟨k + 1, _, by omega, by go_num, ?_, HS0.far (by simp) _, HS1.set_ (i := 1) _, ?_, ?_⟩
        · rw [Htk.out]
          exact hap'.far (by simp) _
        · exact ((hbel.trans (HBW.mono (by omega))).trans (hb2.mono (by omega))).setCell (by simp) _
        · have := HBW.size
          have := hb2.size
          rw [World.size_setCell]
          omega
      case measure => simp [intOf]; omega
    · obtain rfl : k = n := by omega
      rw [List.take_of_length_le (by rw [Hl.out]; exact Nat.le_refl _)] at hap
      obtain ⟨A2, c2, rfl, _, _⟩ := hap.lo Hl.out
      have y0 := hS1.cell (i := 0) rfl
      have y1 := hS1.cell (i := 1) rfl
      have x0 := hS0.cell (i := 0) rfl
      have x1 := hS0.cell (i := 1) rfl
      have xf := hS0.frozen
      clear h
      go_wp2
      refine bodyPost_ret (v := .agg #[.int .i64 base, .slice A2 k c2]) (by simp [results, Try.results120, go_sem, x0, x1]) rfl ?_
      refine ⟨⟨_, rfl, ?_⟩, (hbel.setCell (by simp) _).setCell (by simp) _⟩
      exact ((hap.far (p := ⟨w.heap.size, 0, none⟩) (by show w.heap.size < _; omega) _).far (p := ⟨w.heap.size, 1, none⟩) (by show w.heap.size < _; omega) _).mono (by omega)
end Go.Proofs.Ytgmbofoneeagiaa
