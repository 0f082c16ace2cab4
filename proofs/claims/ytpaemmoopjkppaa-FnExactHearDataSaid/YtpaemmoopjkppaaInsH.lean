/- slices.Insert of one Held into a list of the call's own. -/
import Derived.Test.YtpaemmoopjkppaaInsP
import Derived.Test.YtpaemmoopjkppaaHwnP
namespace Go.Proofs.Ytpaemmoopjkppaa
open Go.RowKit

theorem heldOne (e : HeldD) (w : World) (F : Nat → Prop) (j : Nat) (d : Cel) (x : Value) (hj : (HeldD.cels e)[j]? = some d) (hx : Cel.ow w F x d) : x.oneCell' = true := by
  rcases j with _ | _ | _ | j <;> simp [HeldD.cels] at hj <;> subst hj
  · rw [show x = _ from hx]; rfl
  · obtain ⟨A, n, c, rfl, _⟩ := hx; rfl
  · rw [show x = _ from hx]; rfl

set_option linter.unusedVariables false in
set_option maxRecDepth 100000 in
set_option maxHeartbeats 4000000 in
theorem insertH_any (B k vb : Nat) (v : Value) (els : List HeldD) (x : HeldD) (A : Option Addr) (m c : Nat) (w0 w : World) (hap : apH w0 B v els) (hb : Below w0.heap.size w0 w) (hB : B ≤ w0.heap.size) (hk : k ≤ els.length) (hn : els.length ≤ 1000) (hvb : w0.heap.size ≤ vb) (hv : Stc w vb [.int .i64 x.f0, .slice A m c, .bool x.f2] 84) (ho : Ow w w0.heap.size A m x.f1) (hz : A = none → c = 0) :
    Calls Try.prog 90 #[v, .int .i64 k, .slice (some ⟨vb, 0, none⟩) 1 1] w fun e w' => (∃ v', e = .returned v' ∧ apH w' B v' (els.take k ++ [x] ++ els.drop k) ∧ (v'.ownBlock = v.ownBlock ∨ v'.ownBlock = some w.heap.size)) ∧ w.grownBy w' v.ownBlock := by
  obtain ⟨xs, hown, G, hG, hD, hc⟩ := hap.own
  have hvl : ∀ b, v.ownBlock = some b → b < w0.heap.size := fun b e => (hown.lt b e).2
  have hs := hb.size
  have hown' : w.ownsRow B 84 3 v els.length xs := by
    refine ⟨hown.1, ?_⟩
    rcases hown.2 with h0 | ⟨g, cap, cur, e, hB, hg, r⟩
    · exact .inl h0
    · exact .inr ⟨g, cap, cur, e, hB, (hb.block g (Array.getElem?_eq_some_iff.1 hg).1).trans hg, r⟩
  have hxl : xs.length = els.length * 3 := hown.1
  have h1c : ∀ u ∈ xs, u.oneCell' = true := fun u hu => by
    obtain ⟨j, hj⟩ := List.mem_iff_getElem?.1 hu
    have hjl := (List.getElem?_eq_some_iff.1 hj).1
    have hi : j / 3 < els.length := by omega
    have he : els[j / 3]? = some (els[j / 3]) := List.getElem?_eq_getElem hi
    have hd : (HeldD.cels (els[j / 3]))[j % 3]? = some ((HeldD.cels (els[j / 3]))[j % 3]'(by show j % 3 < 3; omega)) := List.getElem?_eq_getElem _
    obtain ⟨y, hy, hr⟩ := hc _ _ he _ _ hd
    rw [show j / 3 * 3 + j % 3 = j by omega, hj] at hy
    injection hy with hy
    exact hy ▸ heldOne _ _ _ _ _ _ hd hr
  have h1 : ∀ u ∈ ([.int .i64 x.f0, .slice A m c, .bool x.f2] : List Value), u.oneCell' = true := by simp [Value.oneCell']
  have key : Calls Try.prog 90 #[v, .int .i64 k, .slice (some ⟨vb, 0, none⟩) 1 1] w fun e w' => (∃ v', e = .returned v' ∧ w'.ownsRow B 84 3 v' (els.length + 1) (xs.take (k * 3) ++ [.int .i64 x.f0, .slice A m c, .bool x.f2] ++ xs.drop (k * 3)) ∧ (v'.ownBlock = v.ownBlock ∨ v'.ownBlock = some w.heap.size)) ∧ w.grownBy w' v.ownBlock := by
    by_cases hkn : k = els.length
    · rw [hkn]
      rw [List.take_of_length_le (by omega : xs.length ≤ els.length * 3), List.drop_of_length_le (by omega : xs.length ≤ els.length * 3), List.append_nil]
      exact insertEnd_any B v els.length vb xs _ _ _ w hown' hn (by omega) hv h1
    · rcases hown.2 with ⟨_, h0⟩ | ⟨g, cap, cur, e, hBg, hg, _⟩
      · omega
      · subst e
        have hgl : g < w0.heap.size := hvl g rfl
        by_cases hroom : els.length + 1 ≤ cap
        · refine (insertShift_any B g cap els.length k vb xs _ _ _ w hown' (by omega) hroom (by omega) h1c hv h1).mono ?_
          rintro e w' ⟨⟨v', rfl, h3, h4⟩, h5⟩
          exact ⟨⟨v', rfl, h3, .inl h4⟩, h5⟩
        · refine (insertGrow_any B g cap els.length k vb xs _ _ _ w hown' hn (by omega) (by omega) (by omega) (by omega) h1c hv h1).mono ?_
          rintro e w' ⟨⟨v', rfl, h3, h4⟩, h5⟩
          exact ⟨⟨v', rfl, h3, .inr h4⟩, h5⟩
  refine key.mono ?_
  rintro e w' ⟨⟨v', rfl, hown2, hlay⟩, hgr⟩
  refine ⟨⟨v', rfl, ?_, hlay⟩, hgr⟩
  have hlen : (els.take k ++ [x] ++ els.drop k).length = els.length + 1 := by simp; omega
  have htl : (els.take k).length = k := by rw [List.length_take]; omega
  have hxtl : (xs.take (k * 3)).length = k * 3 := by rw [List.length_take]; omega
  have hs2 := hgr.size
  have hne : ∀ b, b < w.heap.size → v.ownBlock ≠ some b → v'.ownBlock ≠ some b := fun b hl hn e' => by
    rcases hlay with h1 | h1
    · exact hn (h1.symm.trans e')
    · rw [h1] at e'; injection e' with e'; omega
  have hk2 : ∀ b, b < w.heap.size → v.ownBlock ≠ some b → w'.heap[b]? = w.heap[b]? := fun b hl hn => hgr.block b hl (fun e => hn e.symm)
  refine ⟨_, by rw [hlen]; exact hown2, fun i j b => (i < k ∧ G i j b) ∨ (i = k ∧ Gone 1 m A j b) ∨ (k < i ∧ G (i - 1) j b), fun i j b hb' => ?_, fun i j i' j' b g1 g2 => ?_, fun i el hi j d hj => ?_⟩
  · rcases hb' with ⟨_, hb'⟩ | ⟨_, hb'⟩ | ⟨_, hb'⟩
    · obtain ⟨q1, q2, q3⟩ := hG i j b hb'
      exact ⟨q1, by omega, hne b (by omega) q3⟩
    · have q := Gone.in_ ho j b hb'
      exact ⟨by omega, by omega, hne b q.2 (fun e => by have := hvl b e; omega)⟩
    · obtain ⟨q1, q2, q3⟩ := hG (i - 1) j b hb'
      exact ⟨q1, by omega, hne b (by omega) q3⟩
  · have fresh : ∀ i j j' b, G i j b → Gone 1 m A j' b → False := fun i j j' b g1 g2 => by
      have q1 := (hG i j b g1).2.1
      have q2 := (Gone.in_ ho j' b g2).1
      omega
    rcases g1 with ⟨a1, g1⟩ | ⟨a1, g1⟩ | ⟨a1, g1⟩ <;> rcases g2 with ⟨a2, g2⟩ | ⟨a2, g2⟩ | ⟨a2, g2⟩
    · exact hD _ _ _ _ _ g1 g2
    · exact (fresh _ _ _ _ g1 g2).elim
    · have := hD _ _ _ _ _ g1 g2; omega
    · exact (fresh _ _ _ _ g2 g1).elim
    · exact ⟨by omega, Gone.dis _ _ _ g1 g2⟩
    · exact (fresh _ _ _ _ g2 g1).elim
    · have := hD _ _ _ _ _ g1 g2; omega
    · exact (fresh _ _ _ _ g1 g2).elim
    · have := hD _ _ _ _ _ g1 g2; exact ⟨by omega, this.2⟩
  · have hj' : j < 3 := (List.getElem?_eq_some_iff.1 hj).1
    have old : ∀ q, els[q]? = some el → ∃ y, xs[q * 3 + j]? = some y ∧ d.ow w' (G q j) y := fun q hq => by
      obtain ⟨y, hy, hr⟩ := hc q el hq j d hj
      exact ⟨y, hy, hr.keep (by omega) fun b hb' hlb => (hk2 b (by omega) (hG q j b hb').2.2).trans (hb.block b hlb)⟩
    by_cases h1 : i < k
    · rw [List.append_assoc, List.getElem?_append_left (by rw [htl]; exact h1), List.getElem?_take_of_lt h1] at hi
      obtain ⟨y, hy, hr⟩ := old i hi
      refine ⟨y, ?_, hr.wider fun b hb' => .inl ⟨h1, hb'⟩⟩
      rw [List.append_assoc, List.getElem?_append_left (by rw [hxtl]; omega), List.getElem?_take_of_lt (by omega)]
      exact hy
    · by_cases h2 : i = k
      · subst h2
        rw [List.append_assoc, List.getElem?_append_right (by rw [htl]; omega), htl, Nat.sub_self] at hi
        simp at hi
        subst hi
        have hget : (xs.take (i * 3) ++ [.int .i64 x.f0, .slice A m c, .bool x.f2] ++ xs.drop (i * 3))[i * 3 + j]? = ([.int .i64 x.f0, .slice A m c, .bool x.f2] : List Value)[j]? := by
          rw [List.append_assoc, List.getElem?_append_right (by rw [hxtl]; omega), hxtl, Nat.add_sub_cancel_left, List.getElem?_append_left (by simpa using hj')]
        rw [hget]
        have hoK : Cel.ow w' (Gone 1 m A 1) (.slice A m c) (.b x.f1) := (Gone.ow ho hz).keep (by omega) fun b hb' hlb => hk2 b hlb (fun e => by have := hvl b e; have := (Gone.in_ ho 1 b hb').1; omega)
        rcases j with _ | _ | _ | j <;> simp [HeldD.cels] at hj
        · subst hj; exact ⟨_, rfl, rfl⟩
        · subst hj; exact ⟨_, rfl, hoK.wider fun b hb' => .inr (.inl ⟨rfl, hb'⟩)⟩
        · subst hj; exact ⟨_, rfl, rfl⟩
      · have hi2 : els[i - 1]? = some el := by
          rw [List.getElem?_append_right (by simp [htl]; omega)] at hi
          have hl2 : (els.take k ++ [x]).length = k + 1 := by simp [htl]
          rw [hl2, List.getElem?_drop] at hi
          rwa [show k + (i - (k + 1)) = i - 1 by omega] at hi
        obtain ⟨y, hy, hr⟩ := old (i - 1) hi2
        refine ⟨y, ?_, hr.wider fun b hb' => .inr (.inr ⟨by omega, hb'⟩)⟩
        have hl3 : (xs.take (k * 3) ++ [Value.int .i64 x.f0, .slice A m c, .bool x.f2]).length = k * 3 + 3 := by simp [hxtl]
        rw [List.getElem?_append_right (by rw [hl3]; omega), hl3, List.getElem?_drop]
        rw [show k * 3 + (i * 3 + j - (k * 3 + 3)) = (i - 1) * 3 + j by omega]
        exact hy
end Go.Proofs.Ytpaemmoopjkppaa
