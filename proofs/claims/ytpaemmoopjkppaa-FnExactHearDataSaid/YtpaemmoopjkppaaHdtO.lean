/- HearData of both: all outcomes in one form. -/
import Derived.Test.YtpaemmoopjkppaaHdtN
import Derived.Test.YtpaemmoopjkppaaHdtZ
namespace Go.Proofs.Ytpaemmoopjkppaa
open Go.RowKit

def hdtC (next : Int) (els : List HeldD) (n2 : Nat) (k0 k1 k2 k3 : Int) (kv : Bool) (m : Nat) : Int :=
  if recF next els n2 ≠ 0 then recF next els n2 else if cellC k0 k1 k2 k3 kv m ≠ 0 then cellC k0 k1 k2 k3 kv m else if k0 = 0 then 1 else 0
def ifL {E : Type} (C : Int) (l : List E) : List E := if C = 0 then l else []
def HdtPost (C nx : Int) (hs : List HeldD) (pp : List Int) (pm : List (List Int)) (w : World) (y : Ending) (w' : World) : Prop :=
  (∃ A' n' c' A2' n2' c2' Am nm cm, y = .returned (.agg #[.int .i64 C, .int .i64 nx, .slice A' n' c', .slice A2' n2' c2', .slice Am nm cm]) ∧ n' = hs.length ∧ n2' = pp.length ∧ Rm A' n' c' ∧ (A2' = none → c2' = 0) ∧ (Thing.sep (Thing.sep (tH A' n' hs) (tR A2' n2' pp)) (tG (.slice Am nm cm) pm)) w' (rng w.heap.size w'.heap.size)) ∧ Below w.heap.size w w'
theorem HdtPost.no {C : Int} {w w' : World} {y : Ending} (h : y = .returned (.agg #[.int .i64 C, .int .i64 0, .slice none 0 0, .slice none 0 0, .slice none 0 0])) (hb : Below w.heap.size w w') : HdtPost C 0 [] [] [] w y w' :=
  ⟨⟨none, 0, 0, none, 0, 0, none, 0, 0, h, rfl, rfl, ⟨Nat.le_refl _, fun _ => rfl⟩, fun _ => rfl, ⟨fun _ => False, fun _ => False, fun b hb => hb.elim, fun b hb => hb.elim, fun b hb => hb.elim, ⟨fun _ => False, fun _ => False, fun b hb => hb.elim, fun b hb => hb.elim, fun b hb => hb.elim, Lo.nil_ _ _ _, ⟨rfl, By.nil, fun h => absurd h (by omega)⟩⟩, As.nil_ _ _⟩⟩, hb⟩

theorem specHearData_any (next : Int) (A : Option Addr) (n c : Nat) (els : List HeldD) (A2 : Option Addr) (n2 c2 : Nat) (l : List Int) (k0 k1 k2 k3 : Int) (kv : Bool) (B : Option Addr) (m d : Nat) (r : List Int) (w : World) (hbm : Bs w B m r) (hzB : B = none → d = 0) (h : Lst HeldD.cels 3 w A n els) (h2 : Bs w A2 n2 l) (hz2 : A2 = none → c2 = 0) (hn : n ≤ 1048576) (hn2 : n2 ≤ 1048576) (C nx : Int) (hs : List HeldD) (pp : List Int) (pm : List (List Int)) (hC : hdtC next els n2 k0 k1 k2 k3 kv m = C)
    (hX : (if C = 0 then next + ((waitN next (nowH next els ⟨k1, r, kv⟩) : Nat) : Int) else 0) = nx) (hH : ifL C ((nowH next els ⟨k1, r, kv⟩).drop (waitN next (nowH next els ⟨k1, r, kv⟩))) = hs) (hP : ifL C (putP l ((nowH next els ⟨k1, r, kv⟩).take (waitN next (nowH next els ⟨k1, r, kv⟩)))) = pp) (hM : ifL C (putM l ((nowH next els ⟨k1, r, kv⟩).take (waitN next (nowH next els ⟨k1, r, kv⟩)))) = pm) :
    Calls Try.prog 8 #[.agg #[.int .i64 next, .slice A n c, .slice A2 n2 c2], .agg #[.int .i64 k0, .int .i64 k1, .int .i64 k2, .int .i64 k3, .bool kv, .slice B m d]] w (HdtPost C nx hs pp pm w) := by
  unfold hdtC at hC
  by_cases h0 : recF next els n2 ≠ 0
  · rw [if_pos h0] at hC
    have hC0 : C ≠ 0 := by rw [← hC]; exact h0
    unfold ifL at hH hP hM
    rw [if_neg hC0] at hX hH hP hM
    subst hX hH hP hM
    exact (specHdtFault_any next A n c els A2 n2 c2 k0 k1 k2 k3 kv B m d w h hn hn2 C hC hC0).mono fun y w' hy => HdtPost.no hy.1 hy.2
  · have g0 : recF next els n2 = 0 := by simpa using h0
    rw [if_neg h0] at hC
    by_cases h1 : cellC k0 k1 k2 k3 kv m ≠ 0
    · rw [if_pos h1] at hC
      have hC0 : C ≠ 0 := by rw [← hC]; exact h1
      unfold ifL at hH hP hM
      rw [if_neg hC0] at hX hH hP hM
      subst hX hH hP hM
      exact (specHdtCell_any next A n c els A2 n2 c2 k0 k1 k2 k3 kv B m d w h hn hn2 C g0 hC hC0).mono fun y w' hy => HdtPost.no hy.1 hy.2
    · have g1 : cellC k0 k1 k2 k3 kv m = 0 := by simpa using h1
      rw [if_neg h1] at hC
      by_cases hk : k0 = 0
      · rw [if_pos hk] at hC
        subst hC
        unfold ifL at hH hP hM
        rw [if_neg (by decide)] at hX hH hP hM
        subst hX hH hP hM
        exact (specHdtForm_any next A n c els A2 n2 c2 k0 k1 k2 k3 kv B m d w h hn hn2 g0 hk g1).mono fun y w' hy => HdtPost.no hy.1 hy.2
      · rw [if_neg hk] at hC
        subst hC
        unfold ifL at hH hP hM
        rw [if_pos rfl] at hX hH hP hM
        subst hX hH hP hM
        obtain ⟨rfl, _⟩ := cellC_one g1 hk
        exact specHdtGood_any next A n c els A2 n2 c2 l k2 k3 ⟨k1, r, kv⟩ B m d w hbm hzB h h2 hz2 g0 g1

theorem implHearData_any (next : Int) (A : Option Addr) (n c : Nat) (els : List HeldD) (A2 : Option Addr) (n2 c2 : Nat) (l : List Int) (k0 k1 k2 k3 : Int) (kv : Bool) (B : Option Addr) (m d : Nat) (r : List Int) (w : World) (hbm : Bs w B m r) (hzB : B = none → d = 0) (h : Lst HeldD.cels 3 w A n els) (h2 : Bs w A2 n2 l) (hz2 : A2 = none → c2 = 0) (hn : n ≤ 1048576) (hn2 : n2 ≤ 1048576) (C nx : Int) (hs : List HeldD) (pp : List Int) (pm : List (List Int)) (hC : hdtC next els n2 k0 k1 k2 k3 kv m = C)
    (hX : (if C = 0 then next + ((waitN next (nowH next els ⟨k1, r, kv⟩) : Nat) : Int) else 0) = nx) (hH : ifL C ((nowH next els ⟨k1, r, kv⟩).drop (waitN next (nowH next els ⟨k1, r, kv⟩))) = hs) (hP : ifL C (putP l ((nowH next els ⟨k1, r, kv⟩).take (waitN next (nowH next els ⟨k1, r, kv⟩)))) = pp) (hM : ifL C (putM l ((nowH next els ⟨k1, r, kv⟩).take (waitN next (nowH next els ⟨k1, r, kv⟩)))) = pm) :
    Calls Try.prog 11 #[.agg #[.int .i64 next, .slice A n c, .slice A2 n2 c2], .agg #[.int .i64 k0, .int .i64 k1, .int .i64 k2, .int .i64 k3, .bool kv, .slice B m d]] w (HdtPost C nx hs pp pm w) := by
  unfold hdtC at hC
  by_cases h0 : recF next els n2 ≠ 0
  · rw [if_pos h0] at hC
    have hC0 : C ≠ 0 := by rw [← hC]; exact h0
    unfold ifL at hH hP hM
    rw [if_neg hC0] at hX hH hP hM
    subst hX hH hP hM
    exact (implHdtFault_any next A n c els A2 n2 c2 k0 k1 k2 k3 kv B m d w h hn hn2 C hC hC0).mono fun y w' hy => HdtPost.no hy.1 hy.2
  · have g0 : recF next els n2 = 0 := by simpa using h0
    rw [if_neg h0] at hC
    by_cases h1 : cellC k0 k1 k2 k3 kv m ≠ 0
    · rw [if_pos h1] at hC
      have hC0 : C ≠ 0 := by rw [← hC]; exact h1
      unfold ifL at hH hP hM
      rw [if_neg hC0] at hX hH hP hM
      subst hX hH hP hM
      exact (implHdtCell_any next A n c els A2 n2 c2 k0 k1 k2 k3 kv B m d w h hn hn2 C g0 hC hC0).mono fun y w' hy => HdtPost.no hy.1 hy.2
    · have g1 : cellC k0 k1 k2 k3 kv m = 0 := by simpa using h1
      rw [if_neg h1] at hC
      by_cases hk : k0 = 0
      · rw [if_pos hk] at hC
        subst hC
        unfold ifL at hH hP hM
        rw [if_neg (by decide)] at hX hH hP hM
        subst hX hH hP hM
        exact (implHdtForm_any next A n c els A2 n2 c2 k0 k1 k2 k3 kv B m d w h hn hn2 g0 hk g1).mono fun y w' hy => HdtPost.no hy.1 hy.2
      · rw [if_neg hk] at hC
        subst hC
        unfold ifL at hH hP hM
        rw [if_pos rfl] at hX hH hP hM
        subst hX hH hP hM
        obtain ⟨rfl, _⟩ := cellC_one g1 hk
        exact implHdtGood_any next A n c els A2 n2 c2 l k2 k3 ⟨k1, r, kv⟩ B m d w hbm hzB h h2 hz2 g0 g1
/-- in the law's words -/
theorem HdtPost.law {C nx : Int} {hs : List HeldD} {pp : List Int} {pm : List (List Int)} {w w' : World} {y : Ending} (h : HdtPost C nx hs pp pm w y w') :
    (∃ A0 d0 A1 d1 A2 d2, y = .returned (.agg #[.int .i64 C, .int .i64 nx, .slice A0 hs.length d0, .slice A1 pp.length d1, .slice A2 pm.length d2]) ∧ (Thing.sep (Thing.sep (tH A0 hs.length hs) (tR A1 pp.length pp)) (tB A2 pm.length pm)) w' (rng w.heap.size w'.heap.size)) ∧ Below w.heap.size w w' := by
  obtain ⟨⟨A', n', c', A2', n2', c2', Am, nm, cm, rfl, rfl, rfl, _, _, ⟨G, H, h1, h2, h3, h4, h5⟩⟩, hb⟩ := h
  obtain ⟨A9, c9, e9, _, _⟩ := As.lo h5 (n := pm.length) rfl
  injection e9 with e1 e2 e3
  subst e1 e2 e3
  exact ⟨⟨A', c', A2', c2', Am, cm, rfl, G, H, h1, h2, h3, h4, tG_lo h5 rfl⟩, hb⟩
theorem sumE_few {E : Type} (f : E → Nat) (b : Nat) : ∀ (l : List E), (∀ e ∈ l, f e ≤ b) → sumE f l ≤ l.length * b
  | [], _ => Nat.zero_le _
  | e :: r, h => by
    have h1 := h e (List.mem_cons_self ..)
    have h2 := sumE_few f b r fun x hx => h x (List.mem_cons_of_mem _ hx)
    simp only [sumE, List.length_cons, Nat.succ_mul]
    omega
/-- what is answered is small -/
theorem hdt_wd {next : Int} {els : List HeldD} {n2 : Nat} {l : List Int} {k0 k1 k2 k3 : Int} {kv : Bool} {m : Nat} {r : List Int} (hl : l.length = n2) (hr : r.length = m) {C : Int} {hs : List HeldD} {pp : List Int} {pm : List (List Int)} (hC : hdtC next els n2 k0 k1 k2 k3 kv m = C)
    (hH : ifL C ((nowH next els ⟨k1, r, kv⟩).drop (waitN next (nowH next els ⟨k1, r, kv⟩))) = hs) (hP : ifL C (putP l ((nowH next els ⟨k1, r, kv⟩).take (waitN next (nowH next els ⟨k1, r, kv⟩)))) = pp) (hM : ifL C (putM l ((nowH next els ⟨k1, r, kv⟩).take (waitN next (nowH next els ⟨k1, r, kv⟩)))) = pm) :
    hs.length ≤ 2000000 ∧ sumE HeldD.wd hs ≤ 2000000 ∧ (∀ e ∈ hs, e.f1.length ≤ 100000000) ∧ pp.length ≤ 2000000 ∧ pm.length ≤ 2000000 ∧ sumE List.length pm ≤ 2000000 ∧ (∀ e ∈ pm, e.length ≤ 100000000) := by
  unfold ifL at hH hP hM
  by_cases h0 : C = 0
  · rw [if_pos h0] at hH hP hM
    rw [h0] at hC
    unfold hdtC at hC
    by_cases g0 : recF next els n2 ≠ 0
    · rw [if_pos g0] at hC; exact absurd hC g0
    rw [if_neg g0] at hC
    by_cases g1 : cellC k0 k1 k2 k3 kv m ≠ 0
    · rw [if_pos g1] at hC; exact absurd hC g1
    rw [if_neg g1] at hC
    by_cases g2 : k0 = 0
    · rw [if_pos g2] at hC; exact absurd hC (by decide)
    have z0 : recF next els n2 = 0 := by simpa using g0
    have z1 : cellC k0 k1 k2 k3 kv m = 0 := by simpa using g1
    have h7 := recF_len z0
    have h2 := (recF_zero z0).2.1
    obtain ⟨_, hm⟩ := cellC_one z1 g2
    have hn := nowH_len next els ⟨k1, r, kv⟩
    have ha := nowH_all (next := next) (x := ⟨k1, r, kv⟩) (fun e he => (recF_all z0 e he).2) (by show r.length ≤ 32; omega)
    have hd : ∀ e ∈ hs, e.f1.length ≤ 32 := fun e he => ha e (List.mem_of_mem_drop (by rw [hH]; exact he))
    have hdl : hs.length ≤ 8 := by rw [← hH, List.length_drop]; omega
    have hs1 := sumE_few HeldD.wd 34 hs fun e he => by have := hd e he; unfold HeldD.wd; omega
    have hp := putP_len (p := l) (by omega) ((nowH next els ⟨k1, r, kv⟩).take (waitN next (nowH next els ⟨k1, r, kv⟩)))
    obtain ⟨hm1, hm2⟩ := putM_len (p := l) (by omega) ((nowH next els ⟨k1, r, kv⟩).take (waitN next (nowH next els ⟨k1, r, kv⟩)))
    rw [hP] at hp
    rw [hM] at hm1 hm2
    have hml : pm.length ≤ 8 := by rw [List.length_take] at hm1; omega
    have hs2 := sumE_few List.length 200 pm hm2
    exact ⟨by omega, by omega, fun e he => by have := hd e he; omega, by omega, by omega, by omega, fun e he => by have := hm2 e he; omega⟩
  · rw [if_neg h0] at hH hP hM
    subst hH hP hM
    exact ⟨by simp, by simp [sumE], fun e he => (by cases he), by simp, by simp, by simp [sumE], fun e he => (by cases he)⟩
end Go.Proofs.Ytpaemmoopjkppaa
