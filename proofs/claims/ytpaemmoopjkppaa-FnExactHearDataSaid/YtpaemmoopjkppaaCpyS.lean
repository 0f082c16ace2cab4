/- An end and what it holds, copied by the model. -/
import Derived.Test.YtpaemmoopjkppaaSndP
import Derived.Test.YtpaemmoopjkppaaHwnP
import Derived.Test.YtpaemmoopjkppaaApsX
import Derived.Test.YtpaemmoopjkppaaInsC
import Derived.Deep.CutRange
import Derived.BigRegion
namespace Go.Proofs.Ytpaemmoopjkppaa
open Go.RowKit

set_option linter.unusedVariables false in
set_option maxRecDepth 100000 in
set_option maxHeartbeats 4000000 in
theorem l8ReceiverAt_any (g o : Nat) (next : Int) (A : Option Addr) (n c : Nat) (els : List HeldD) (A2 : Option Addr) (n2 c2 : Nat) (l : List Int) (w : World) (hg : g < w.heap.size) (v0 : w.cell? ⟨g, o, none⟩ = some (.int .i64 next)) (v1 : w.cell? ⟨g, o + 1, none⟩ = some (.slice A n c)) (v2 : w.cell? ⟨g, o + 2, none⟩ = some (.slice A2 n2 c2)) (h : Lst HeldD.cels 3 w A n els) (h2 : Bs w A2 n2 l) (hz2 : A2 = none → c2 = 0) (hn : n ≤ 1048576) (hb : ∀ e ∈ els, e.f1.length ≤ 1048576) (hn2 : n2 ≤ 1048576) :
    Calls Try.prog 37 #[.pointer (some ⟨g, o, none⟩)] w fun e w' => (∃ A' c' A2' c2', e = .returned (.agg #[.int .i64 next, .slice A' n c', .slice A2' n2 c2']) ∧ Rm A' n c' ∧ Rm A2' n2 c2' ∧ (Thing.sep (tH A' n els) (tR A2' n2 l)) w' (rng w.heap.size w'.heap.size)) ∧ Below w.heap.size w w' := by
  have Hl := Shut.mk h.len
  have S0 := Stc.new w 32 [.int .i64 0, .slice none 0 0, .slice none 0 0] _ rfl
  have B0 := ab (Below.refl _ w) (.cells #[.int .i64 0, .slice none 0 0, .slice none 0 0] 32)
  have hcp2 := fun W (hh : Below w.heap.size w W) => copy_own A2 n2 c2 l W (h2.below hh) hz2 (by omega)
  clear h2
  go_enter Try.func37, Try.ntmps37
  go_upto_region 1 with fail
  go_cut [3] from 3 to 15 (fun b wx => ∃ bx A2' c2', b = .pointer (some ⟨bx, 0, none⟩) ∧ w.heap.size + 1 ≤ bx ∧ Stc wx bx [.int .i64 next, .slice none 0 0, .slice A2' n2 c2'] 32 ∧ Bo wx (fun b => w.heap.size + 1 ≤ b ∧ b < wx.heap.size ∧ b ≠ bx) A2' n2 l ∧ Rm A2' n2 c2' ∧ Stc wx w.heap.size [.int .i64 0, .slice none 0 0, .slice none 0 0] 32 ∧ Below w.heap.size w wx)
  case first =>
    generalize hW0 : w.alloc (.cells #[.int .i64 0, .slice none 0 0, .slice none 0 0] 32) = W0 at *
    have zW : W0.heap.size = w.heap.size + 1 := by rw [← hW0]; simp
    have lt0 : w.heap.size < W0.heap.size := by omega
    have lg0 : g < W0.heap.size := by omega
    have k0 := (B0.cell (p := ⟨g, o, none⟩) hg).trans v0
    have k1 := (B0.cell (p := ⟨g, o + 2, none⟩) hg).trans v2
    have SW := S0.below (B := W0.heap.size) (w' := W0) (by rw [← hW0]; exact Below.refl _ _) (by rw [← hW0]; simp)
    have SW' : Stc W0.drew w.heap.size [.int .i64 0, .slice none 0 0, .slice none 0 0] 32 := SW
    have B0' : Below w.heap.size w W0.drew := B0.drew
    clear hW0 v0 v1 v2 h S0 SW
    replace zW := Shut.mk zW
    go_region_law (go_simp; go_wp2_with (go_at_call 59; refine (hcp2 _ ?hb).mono ?_; (case hb => first | exact B0.drew | exact B0 | exact (B0.alloc (by omega) _).drew | exact (B0.drew).alloc (by simp; omega) _ | exact B0.alloc (by omega) _); rintro x w1 ⟨⟨A1, c1, rfl, ho, hrm⟩, b1⟩; have k9 : w1.cell? ⟨g, o, none⟩ = some (.int .i64 next) := (b1.cell (p := ⟨g, o, none⟩) (by first | exact lg0 | (simp; omega))).trans (by first | exact k0 | exact cell_past _ k0); have k10 := cell_past (.cells #[.int .i64 0, .slice none 0 0, .slice none 0 0] 32) k9; (try (have S9 : Stc w1 W0.heap.size [.int .i64 0, .slice none 0 0, .slice none 0 0] 32 := (Stc.new W0.drew 32 [.int .i64 0, .slice none 0 0, .slice none 0 0] _ rfl).below b1 (by simp); have e0 := S9.cell (i := 0) rfl; have e1 := S9.cell (i := 1) rfl; have e2 := S9.cell (i := 2) rfl; have ef := S9.frozen))))
    all_goals
      have z1 := b1.size
      have zz := zW.out
      simp only [World.size_alloc, World.size_drew] at z1
      go_wp2_with fail
      go_meet
      first
        | (have S8 := S9; exact ⟨W0.heap.size, A1, c1, rfl, by omega, ((S9.set_ (i := 0) _).set_ (i := 1) _).set_ (i := 2) _, (Bo.ofOw ho fun b _ _ hB hl => ⟨by have : W0.heap.size + 1 ≤ b := (by simpa using hB); omega, by simp only [World.size_setCell]; exact hl, by have : W0.heap.size + 1 ≤ b := (by simpa using hB); omega⟩ : Bo w1 (fun b => w.heap.size + 1 ≤ b ∧ b < (((w1.setCell ⟨W0.heap.size, 0, none⟩ (.int .i64 next)).setCell ⟨W0.heap.size, 1, none⟩ (.slice none 0 0)).setCell ⟨W0.heap.size, 2, none⟩ (.slice A1 n2 c1)).heap.size ∧ b ≠ W0.heap.size) A1 n2 l).tu ((((Tu.refl (fun b => b = W0.heap.size) w1).set_ (p := ⟨W0.heap.size, 0, none⟩) rfl _).set_ (p := ⟨W0.heap.size, 1, none⟩) rfl _).set_ (p := ⟨W0.heap.size, 2, none⟩) rfl _) (fun b hb e => hb.2.2 e), hrm, ((((SW'.alloc _).below b1 (by simp; omega)).far (p := ⟨W0.heap.size, 0, none⟩) (by show ¬ w.heap.size = W0.heap.size; omega) _).far (p := ⟨W0.heap.size, 1, none⟩) (by show ¬ w.heap.size = W0.heap.size; omega) _).far (p := ⟨W0.heap.size, 2, none⟩) (by show ¬ w.heap.size = W0.heap.size; omega) _, (((((B0'.alloc (by simp; omega) _).trans (b1.mono (by simp; omega)))).setCell (p := ⟨W0.heap.size, 0, none⟩) (by show w.heap.size ≤ W0.heap.size; omega) _).setCell (p := ⟨W0.heap.size, 1, none⟩) (by show w.heap.size ≤ W0.heap.size; omega) _).setCell (p := ⟨W0.heap.size, 2, none⟩) (by show w.heap.size ≤ W0.heap.size; omega) _⟩)
        | exact ⟨w1.heap.size, A1, c1, rfl, by omega, Stc.new w1 _ _ _ rfl, (Bo.ofOw ho fun b _ _ hB hl => ⟨by have : W0.heap.size ≤ b := hB; omega, by rw [World.size_alloc]; omega, by omega⟩ : Bo w1 (fun b => w.heap.size + 1 ≤ b ∧ b < (w1.alloc (.cells #[.int .i64 next, .slice none 0 0, .slice A1 n2 c1] 32)).heap.size ∧ b ≠ w1.heap.size) A1 n2 l).below (ab (Below.refl _ w1) _) (Nat.le_refl _), hrm, (SW'.below b1 lt0).alloc _, (B0'.trans (b1.mono (by show w.heap.size ≤ W0.heap.size; omega))).alloc (by omega) _⟩
  case rest =>
    obtain ⟨bx, A3, c3, rfl, hbx, S1, hBo, hrm3, S0, Bc⟩ := hcut
    clear B0 hcp2
    have ltx := S1.lt
    have zx := Bc.size
    have k1 := (Bc.cell (p := ⟨g, o + 1, none⟩) hg).trans v1
    clear v0 v2
    go_wp2
    go_loopw [21] (fun i wr => ∃ (k : Nat) (v : Value), k ≤ n ∧ i = .int .i64 k ∧ apH wr wc.heap.size v (els.take k) ∧ Stc wr bx [.int .i64 next, v, .slice A3 n2 c3] 32 ∧ Tu (fun b => b = bx) wc wr) (fun i _ => n - (intOf i).toNat)
    case atStart => exact ⟨0, _, Nat.zero_le _, rfl, Ap.nil_ _ _, S1, Tu.refl _ _⟩
    case round =>
      obtain ⟨k, v, hk, rfl, hap, hS1, htu⟩ := hrel
      have hsz := htu.size
      have hbel : Below w.heap.size w wr := Bc.trans (htu.below (by omega) (fun b e => by omega))
      have hb' := bcell hbel
      have hS0 := S0.tu htu (by omega)
      by_cases hlt : k < n
      · obtain ⟨b, off, e, B, m, c', rfl, hbs, he, g0, g1, g2, hB, hz⟩ := h.getHeld hlt
        have hem : e ∈ els := List.mem_of_getElem? he.out
        have hm : m ≤ 1048576 := by have := hB.len; have := hb e hem; omega
        have hcp := fun W (hh : Below w.heap.size w W) => copy_own B m c' e.f1 W (hB.below hh) hz.out (by omega)
        have lb := hS1.lt
        have u1 := hS1.cell (i := 1) rfl
        clear h
        go_wp2_with fail
        refine (hcp _ (ab hbel _)).mono ?_
        rintro x w1 ⟨⟨A1, c1, rfl, ho, hrm⟩, b1⟩
        have bw := ac (ab (Below.refl wr.heap.size wr) (.cells #[.int .i64 e.f0, .slice B m c', .bool e.f2] 84)) b1
        have sp := (Stc.new wr 84 [.int .i64 e.f0, .slice B m c', .bool e.f2] _ rfl).below b1 (by simp)
        have hs1 := b1.size
        simp only [World.size_alloc] at ho hs1
        replace hS1 := hS1.below bw hS1.lt
        have p0 := sp.cell (i := 0) rfl
        have p1 := sp.cell (i := 1) rfl
        have p2 := sp.cell (i := 2) rfl
        have pf := sp.frozen 1
        have u1' := hS1.cell (i := 1) rfl
        have uf := hS1.frozen 1
        have hne : ¬ bx = wr.heap.size := by omega
        have hne2 : ¬ wr.heap.size = bx := by omega
        clear u1 hcp g0 g1 g2 hb'
        have hlen : (els.take k).length ≤ 10000000 := by rw [List.length_take]; omega
        have how : Ow w1 (wr.heap.size + 1) A1 m e.f1 := ho
        have HOW := (how.far (p := ⟨wr.heap.size, 1, none⟩) (by simp) (.slice A1 m c1)).alloc (.cells #[.int .i64 e.f0, .slice A1 m c1, .bool e.f2] 84)
        have HBW := ab (ae bw (p := ⟨wr.heap.size, 1, none⟩) (Nat.le_refl _) (.slice A1 m c1)) (.cells #[.int .i64 e.f0, .slice A1 m c1, .bool e.f2] 84)
        have HS1 := (hS1.far (p := ⟨wr.heap.size, 1, none⟩) hne (.slice A1 m c1)).alloc (.cells #[.int .i64 e.f0, .slice A1 m c1, .bool e.f2] 84)
        have hlk : (els.take k ++ [e]).length = k + 1 := by rw [List.length_append, List.length_take, Hl.out]; simp; omega
        have htk : els.take (k + 1) = els.take k ++ [e] := by rw [List.take_add_one, he.out]; rfl
        have Htk := Shut.mk htk
        have Hlk := Shut.mk hlk
        clear htk hlk
        go_wp2_with (at_builtin; refine wpList_ap_append (cels := HeldD.cels) Try.underlying30 info_Held rfl (by decide) (by decide) (fun _ => rfl) rfl _ _ rfl wr _ wc.heap.size v (els.take k) hap HBW hsz rfl hlen _ _ [.int .i64 e.f0, .slice A1 m c1, .bool e.f2] rfl rfl (cells_new (by simp) _ _) (by simp [Value.oneCell']) e (Gone 1 m A1) (fun j b hb => by have := Gone.in_ HOW j b hb; omega) Gone.dis ?hnew ?_; (case hnew => intro j d hj; rcases j with _ | _ | _ | j <;> simp [HeldD.cels] at hj <;> subst hj; exact ⟨_, rfl, rfl⟩; exact ⟨_, rfl, Gone.ow HOW hrm.2⟩; exact ⟨_, rfl, rfl⟩); intro v' w2 hap' hb2 hlay helse; obtain ⟨A4, c4, rfl, _, _⟩ := hap'.lo Hlk.out; replace HS1 := HS1.below hb2 ltx; have y1 := HS1.cell (i := 1) rfl; have yf := HS1.frozen 1)
        have TF : Tu (fun b => b = bx) wc w2 := ⟨hb2.os.trans (HBW.os.trans htu.os), hb2.tape.trans (HBW.tape.trans htu.tape), hb2.output.trans (HBW.output.trans htu.output), Nat.le_trans hsz (Nat.le_trans HBW.size hb2.size), fun q hq hx => (hb2.block q hq).trans ((HBW.block q (by omega)).trans (htu.block q hq hx))⟩
        go_roundw
        case rel =>
          refine ⟨k + 1, _, by omega, by go_num, ?_, HS1.set_ (i := 1) _, TF.set_ (p := ⟨bx, 1, none⟩) rfl _⟩
          rw [Htk.out]
          exact hap'.far ltx _
        case measure => simp [intOf]; omega
      · obtain rfl : k = n := by omega
        rw [List.take_of_length_le (by rw [Hl.out]; exact Nat.le_refl _)] at hap
        obtain ⟨A4, c4, rfl, hrm4, hlo4⟩ := hap.lo Hl.out
        have y0 := hS1.cell (i := 0) rfl
        have y1 := hS1.cell (i := 1) rfl
        have y2 := hS1.cell (i := 2) rfl
        have x0 := hS0.cell (i := 0) rfl
        have x1 := hS0.cell (i := 1) rfl
        have x2 := hS0.cell (i := 2) rfl
        have xf := hS0.frozen
        clear h
        go_wp2
        refine bodyPost_ret (v := .agg #[.int .i64 next, .slice A4 k c4, .slice A3 n2 c3]) (by simp [results, Try.results37, go_sem, x0, x1, x2]) rfl ?_
        have TF : Tu (fun b => b = w.heap.size) wr _ := (((Tu.refl (fun b => b = w.heap.size) wr).set_ (p := ⟨w.heap.size, 0, none⟩) rfl (.int .i64 next)).set_ (p := ⟨w.heap.size, 1, none⟩) rfl (.slice A4 k c4)).set_ (p := ⟨w.heap.size, 2, none⟩) rfl (.slice A3 n2 c3)
        have hBo2 := (hBo.tu htu (fun b hb e => hb.2.2 e)).tu TF (fun b hb e => by omega)
        have hlo5 := hlo4.tu TF (fun b hb e => by have := hb.1; omega)
        refine ⟨⟨A4, c4, A3, c3, rfl, hrm4, hrm3, ?_⟩, hbel.trans (TF.below (by omega) (fun b e => by omega))⟩
        refine ⟨rng wc.heap.size wr.heap.size, fun b => w.heap.size + 1 ≤ b ∧ b < wc.heap.size ∧ b ≠ bx, fun b hb => ?_, fun b hb => ?_, fun b hb hb' => ?_, hlo5, hBo2⟩
        · have := hb.1; have := hb.2; simp only [World.size_setCell]; unfold rng; omega
        · simp only [World.size_setCell]; unfold rng; omega
        · have := hb.1; omega

/-- an empty row with room -/
theorem Ap.room {E : Type} {cels : E → List Cel} {sz : Nat} {t : TypeId} {w : World} {B g c : Nat} (h : Spn w g (c * sz) t) (hB : B ≤ g) (hc : c ≤ maxLen) : Ap cels sz t w B (.slice (some ⟨g, 0, none⟩) 0 c) ([] : List E) :=
  ⟨[], owns_of h hB (Nat.zero_le _) hc (by simp) (fun k u hk => by simp at hk), fun _ _ _ => False, fun _ _ _ h => h.elim, fun _ _ _ _ _ h => h.elim, fun i e h => by simp at h⟩

end Go.Proofs.Ytpaemmoopjkppaa
