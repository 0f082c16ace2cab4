/- HearData of the program, where nothing is wrong, in the model's form. -/
import Derived.Test.YtpaemmoopjkppaaHdtR
import Derived.Test.YtpaemmoopjkppaaHdtP
namespace Go.Proofs.Ytpaemmoopjkppaa
open Go.RowKit

set_option linter.unusedVariables false in
theorem implHdtGood_any (next : Int) (A : Option Addr) (n c : Nat) (els : List HeldD) (A2 : Option Addr) (n2 c2 : Nat) (l : List Int) (k2 k3 : Int) (x : HeldD) (B : Option Addr) (m d : Nat) (w : World) (hbm : Bs w B m x.f1) (hzB : B = none → d = 0) (h : Lst HeldD.cels 3 w A n els) (h2 : Bs w A2 n2 l) (hz2 : A2 = none → c2 = 0) (hz0 : recF next els n2 = 0) (hz : cellC 1 x.f0 k2 k3 x.f2 m = 0) :
    Calls Try.prog 11 #[.agg #[.int .i64 next, .slice A n c, .slice A2 n2 c2], .agg #[.int .i64 1, .int .i64 x.f0, .int .i64 k2, .int .i64 k3, .bool x.f2, .slice B m d]] w fun y w' => (∃ A' n' c' A2' n2' c2' Am nm cm, y = .returned (.agg #[.int .i64 0, .int .i64 (next + ((waitN next (nowH next els x)) : Nat)), .slice A' n' c', .slice A2' n2' c2', .slice Am nm cm]) ∧ n' = ((nowH next els x).drop (waitN next (nowH next els x))).length ∧ n2' = (putP l ((nowH next els x).take (waitN next (nowH next els x)))).length ∧ Rm A' n' c' ∧ (A2' = none → c2' = 0) ∧ (Thing.sep (Thing.sep (tH A' n' ((nowH next els x).drop (waitN next (nowH next els x)))) (tR A2' n2' (putP l ((nowH next els x).take (waitN next (nowH next els x)))))) (tG (.slice Am nm cm) (putM l ((nowH next els x).take (waitN next (nowH next els x)))))) w' (rng w.heap.size w'.heap.size)) ∧ Below w.heap.size w w' := by
  obtain ⟨⟨hb0, hb1⟩, hn2, _, _⟩ := recF_zero hz0
  have hl := h.len
  have h7 := recF_len hz0
  have ha := recF_all hz0
  obtain ⟨_, hm⟩ := cellC_one hz (by omega)
  have hx : x.f1.length ≤ 32 := by rw [hbm.len]; exact hm
  exact implHdtOk_any next A n c els A2 n2 c2 l k2 k3 x B m d w hbm hzB hm h h2 hz2 (by omega) (fun e he => (ha e he).2) (nowH_all (fun e he => (ha e he).2) hx) (by have := nowH_len next els x; omega) (recF_up hz0) hn2 hz0 hz hb0 hb1
end Go.Proofs.Ytpaemmoopjkppaa
