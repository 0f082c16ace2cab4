/- A box sealed and opened, of the model. -/
import Derived.Test.YtcanmhlhnihijaaDoorTagC
import Derived.Test.YtcanmhlhnihijaaDoorBase
import Derived.Deep.RegionHeld
namespace Go.Proofs.YtcanmhlhnihijaaDoor
open Go.RowKit

theorem Row.nilcap {w : World} {B n c : Nat} {A : Option Addr} {l : List Int} (h : Row w B (.slice A n c) l) : A = none → c = 0 := fun e0 => by
  rcases h.own.2 with ⟨e, _⟩ | ⟨g, cap, cur, e, _, _, hnc, _⟩
  · injection e with _ e2 e3
  · injection e with e1 e2 e3
    rw [e0] at e1; cases e1

/-- a box: a text hidden, and its tag behind it -/
def sealL (key nonce more text : List Int) : List Int := streamL key 1 nonce text ++ boxTag key nonce more (streamL key 1 nonce text)
theorem sealL_len (key nonce more text : List Int) : (sealL key nonce more text).length = text.length + 16 := by
  unfold sealL
  rw [List.length_append, streamL_len, boxTag_len]

set_option maxRecDepth 100000 in
set_option maxHeartbeats 4000000 in
theorem l3Seal_any (A : Option Addr) (c : Nat) (key : List Int) (A2 : Option Addr) (c2 : Nat) (nonce : List Int) (A3 : Option Addr) (p c3 : Nat) (more : List Int) (A4 : Option Addr) (q c4 : Nat) (text : List Int) (w : World)
    (hk : Bs w A 32 key) (hc : 32 ≤ c) (hn : Bs w A2 12 nonce) (hc2 : 12 ≤ c2) (hm : Bs w A3 p more) (hp : p ≤ 2000) (hc3 : A3 = none → c3 = 0) (ht : Bs w A4 q text) (hq : q ≤ 2000) :
    Calls Tryd.prog 45 #[.slice A 32 c, .slice A2 12 c2, .slice A3 p c3, .slice A4 q c4] w fun e w' => (∃ A' c', e = .returned (.slice A' (q + 16) c') ∧ Row w' w.heap.size (.slice A' (q + 16) c') (sealL key nonce more text)) ∧ Below w.heap.size w w' := by
  have HS : Shut (sealL key nonce more text = streamL key 1 nonce text ++ boxTag key nonce more (streamL key 1 nonce text)) := ⟨rfl⟩
  have LS : Shut ((sealL key nonce more text).length = q + 16) := ⟨by rw [sealL_len, ht.len]⟩
  have LH : Shut ((streamL key 1 nonce text).length = q) := ⟨by rw [streamL_len, ht.len]⟩
  have hst := l3Stream_any A c key 1 A2 c2 nonce A4 q c4 text w hk hc hn hc2 ht (by omega) (by omega) (by omega)
  generalize sealL key nonce more text = F at *
  generalize streamL key 1 nonce text = H at *
  go_enter Tryd.func45, Tryd.ntmps45
  go_wp2_with fail
  refine hst.mono ?_
  clear hst
  rintro e w1 ⟨⟨A5, c5, rfl, hr1⟩, hb1⟩
  have hs1 := hb1.size
  have hcap := hr1.nilcap
  have htg := l3Tag_any A c key A2 c2 nonce A3 p c3 more A5 q c5 H w1 (hk.below hb1) hc (hn.below hb1) hc2 (hm.below hb1) hp hc3 (hr1.ow' LH.out).bs hq hcap
  have LT : Shut ((boxTag key nonce more H).length = 16) := ⟨boxTag_len _ _ _ _⟩
  generalize boxTag key nonce more H = T at *
  go_wp2_with fail
  refine htg.mono ?_
  clear htg
  rintro e w2 ⟨⟨A6, c6, rfl, hr2⟩, hb2⟩
  have hs2 := hb2.size
  have row2 := hr1.keep (w' := w2) (fun g _ h2 => hb2.block g h2)
  have B2 := ac hb1 hb2
  have how2 := hr2.ow' LT.out
  clear hr1 hb1 hb2 hr2
  go_wp2_with (at_builtin; refine wpList_row_join rfl _ _ rfl _ w.heap.size (.slice A5 q c5) _ _ rfl row2 (by omega) A6 16 c6 rfl how2.bs (how2.bs.cap_ (by omega)) (by rw [LH.out]; omega) ?_; rw [← HS.out]; intro v3 w3 hr3 hb3 hs3; obtain ⟨A7, c7, rfl, _⟩ := hr3.ow LS.out)
  go_ret
  exact ⟨⟨A7, c7, rfl, hr3⟩, B2.trans hb3⟩

set_option maxRecDepth 100000 in
set_option maxHeartbeats 4000000 in
theorem l3Open_any (A : Option Addr) (c : Nat) (key : List Int) (A2 : Option Addr) (c2 : Nat) (nonce : List Int) (A3 : Option Addr) (p c3 : Nat) (more : List Int) (A4 : Option Addr) (q c4 : Nat) (box : List Int) (w : World)
    (hk : Bs w A 32 key) (hc : 32 ≤ c) (hn : Bs w A2 12 nonce) (hc2 : 12 ≤ c2) (hm : Bs w A3 p more) (hp : p ≤ 2000) (hc3 : A3 = none → c3 = 0) (ht : Bs w A4 (q + 16) box) (hq : q ≤ 2000) (hc4 : q + 16 ≤ c4) :
    Calls Tryd.prog 51 #[.slice A 32 c, .slice A2 12 c2, .slice A3 p c3, .slice A4 (q + 16) c4] w fun e w' =>
      (if boxTag key nonce more (box.take q) = box.drop q then ∃ A' c', e = .returned (.tuple #[.slice A' q c', .bool true]) ∧ Row w' w.heap.size (.slice A' q c') (streamL key 1 nonce (box.take q)) else e = .returned (.tuple #[.slice none 0 0, .bool false])) ∧ Below w.heap.size w w' := by
  obtain ⟨b, off, rfl, hb, _⟩ := ht.at_ (by omega)
  have h1 := ht.part_ 0 q (by omega)
  have h2 := ht.part_ q 16 (by omega)
  rw [Nat.add_zero, List.drop_zero] at h1
  rw [show (box.drop q).take 16 = box.drop q from List.take_of_length_le (by rw [List.length_drop, ht.len]; omega)] at h2
  have G0 := fun (W : World) (hW : Below w.heap.size w W) => l3Tag_any A c key A2 c2 nonce A3 p c3 more (some ⟨b, off, none⟩) q c4 (box.take q) W (hk.below hW) hc (hn.below hW) hc2 (hm.below hW) hp hc3 (h1.below hW) (by omega) (fun e => by cases e)
  have LT : Shut ((boxTag key nonce more (box.take q)).length = 16) := ⟨boxTag_len _ _ _ _⟩
  have HBT : Shut (By (boxTag key nonce more (box.take q))) := ⟨lowOf_byte _ _⟩
  clear ht
  generalize boxTag key nonce more (box.take q) = T at *
  generalize box.take q = X at *
  generalize box.drop q = Y at *
  have hst := fun (w1 : World) (hb1 : Below w.heap.size w w1) => l3Stream_any A c key 1 A2 c2 nonce (some ⟨b, off, none⟩) q c4 X w1 (hk.below hb1) hc (hn.below hb1) hc2 (h1.below hb1) (by omega) (by omega) (by omega)
  have hc4' : ¬ c4 = q := by omega
  have Hst := Shut.mk hst
  have G : Shut (∀ W : World, ((convert 22 9 (.slice (some ⟨b, off + q, none⟩) 16 (c4 - q))).run Tryd.prog W = .ok (.string (strOfNums Y)) W ∧ Below w.heap.size w W) →
      Calls Tryd.prog 68 #[.slice A 32 c, .slice A2 12 c2, .slice A3 p c3, .slice (some ⟨b, off, none⟩) q c4] W fun e w' => (∃ A' c', e = .returned (.slice A' 16 c') ∧ (convert 22 9 (.slice A' 16 c')).run Tryd.prog w' = .ok (.string (strOfNums T)) w') ∧ ((convert 22 9 (.slice (some ⟨b, off + q, none⟩) 16 (c4 - q))).run Tryd.prog w' = .ok (.string (strOfNums Y)) w' ∧ Below w.heap.size w w')) := ⟨fun W ⟨_, hW⟩ => (G0 W hW).mono (by
        rintro e w' ⟨⟨A', c', rfl, hr⟩, hb⟩
        exact ⟨⟨A', c', rfl, run_str (hr.ow' LT.out).bs c'⟩, run_str (h2.below (ac hW hb)) _, ac hW hb⟩)⟩
  have hs0 := run_str (h2.drewN 1) (c4 - q)
  rw [show w.drewN 1 = w.drew from rfl] at hs0
  have hb0 : Below w.heap.size w w.drew := (Below.refl _ _).drew
  have HB : Shut (By T ∧ By Y) := ⟨HBT.out, h2.byte⟩
  have hqn : decide ((q : Int) < 0) = false := by simp
  have hq0 : ¬ (q : Int) < 0 := by omega
  have hq1 : (0 : Int) ≤ (q : Int) := by omega
  have hq2 : (q : Int) ≤ (c4 : Int) := by omega
  have hq3 : (q : Int) ≤ (q : Int) + 16 := by omega
  by_cases hTY : T = Y
  · simp only [if_pos hTY]
    subst hTY
    clear hst G0 h1 h2 hm hn hk
    go_enter Tryd.func51, Tryd.ntmps51
    go_wp2_with fail
    go_region_held (fun W => (convert 22 9 (.slice (some ⟨b, off + q, none⟩) 16 (c4 - q))).run Tryd.prog W = .ok (.string (strOfNums T)) W ∧ Below w.heap.size w W)
      (first | (exact ⟨by assumption, by assumption⟩) | (exact ⟨hs0, hb0⟩) | go_keep)
      (first
        | (go_at_call 68; refine (G.out _ ?_).mono ?_; (first | assumption | (simp [*]; done)); rintro e w' ⟨⟨A6, c6, rfl, z2⟩, z0, z1⟩))
    all_goals
      go_wp2_with fail
      refine (Hst.out w' z1).mono ?_
      rintro e w9 ⟨⟨A9, c9, rfl, hr9⟩, hb9⟩
      go_wp2
      go_ret2
      exact ⟨⟨A9, c9, rfl, hr9.mono z1.size⟩, z1.trans (hb9.mono z1.size)⟩
  · simp only [if_neg hTY]
    have hne : ((strOfNums T).toList == (strOfNums Y).toList) = false := by rw [str_beq HB.out.1 HB.out.2]; exact decide_eq_false hTY
    clear hst G0 h1 h2 hm hn hk hTY Hst
    go_enter Tryd.func51, Tryd.ntmps51
    go_wp2_with fail
    go_region_held (fun W => (convert 22 9 (.slice (some ⟨b, off + q, none⟩) 16 (c4 - q))).run Tryd.prog W = .ok (.string (strOfNums Y)) W ∧ Below w.heap.size w W)
      (first | (exact ⟨by assumption, by assumption⟩) | (exact ⟨hs0, hb0⟩) | go_keep)
      (first
        | (go_at_call 68; refine (G.out _ ?_).mono ?_; (first | assumption | (simp [*]; done)); rintro e w' ⟨⟨A6, c6, rfl, z2⟩, z0, z1⟩))
    all_goals
      go_wp2
      go_ret2
      exact ⟨rfl, z1⟩

end Go.Proofs.YtcanmhlhnihijaaDoor
