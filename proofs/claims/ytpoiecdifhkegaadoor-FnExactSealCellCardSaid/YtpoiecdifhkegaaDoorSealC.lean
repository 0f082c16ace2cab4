/- A box sealed and opened, of the model. -/
import Derived.Test.YtpoiecdifhkegaaDoorTagC
import Derived.Test.YtpoiecdifhkegaaDoorBase
import Derived.Deep.RegionHeld
namespace Go.Proofs.YtpoiecdifhkegaaDoor
open Go.RowKit

theorem Row.nilcap {w : World} {B n c : Nat} {A : Option Addr} {l : List Int} (h : Row w B (.slice A n c) l) : A = none → c = 0 := fun e0 => by
  rcases h.own.2 with ⟨e, _⟩ | ⟨g, cap, cur, e, _, _, hnc, _⟩
  · injection e with _ e2 e3
  · injection e with e1 e2 e3
    rw [e0] at e1; cases e1

/-- a box: a text hidden, and its tag behind it -/
def sealL (key nonce more text : List Int) : List Int := streamL key 1 nonce text ++ boxTag key nonce more (streamL key 1 nonce text)
theorem sealL_len (key nonce more text : List Int) : (sealL key nonce more text).length = text.length + 16 := by
  unfold sealL
  rw [List.length_append, streamL_len, boxTag_len]

set_option maxRecDepth 100000 in
set_option maxHeartbeats 4000000 in
theorem l3Seal_any (A : Option Addr) (c : Nat) (key : List Int) (A2 : Option Addr) (c2 : Nat) (nonce : List Int) (A3 : Option Addr) (p c3 : Nat) (more : List Int) (A4 : Option Addr) (q c4 : Nat) (text : List Int) (w : World)
    (hk : Bs w A 32 key) (hc : 32 ≤ c) (hn : Bs w A2 12 nonce) (hc2 : 12 ≤ c2) (hm : Bs w A3 p more) (hp : p ≤ 2000) (hc3 : A3 = none → c3 = 0) (ht : Bs w A4 q text) (hq : q ≤ 2000) :
    Calls Tryd.prog 30 #[.slice A 32 c, .slice A2 12 c2, .slice A3 p c3, .slice A4 q c4] w fun e w' => (∃ A' c', e = .returned (.slice A' (q + 16) c') ∧ Row w' w.heap.size (.slice A' (q + 16) c') (sealL key nonce more text)) ∧ Below w.heap.size w w' := by
  have HS : Shut (sealL key nonce more text = streamL key 1 nonce text ++ boxTag key nonce more (streamL key 1 nonce text)) := ⟨rfl⟩
  have LS : Shut ((sealL key nonce more text).length = q + 16) := ⟨by rw [sealL_len, ht.len]⟩
  have LH : Shut ((streamL key 1 nonce text).length = q) := ⟨by rw [streamL_len, ht.len]⟩
  have hst := l3Stream_any A c key 1 A2 c2 nonce A4 q c4 text w hk hc hn hc2 ht (by omega) (by omega) (by omega)
  generalize sealL key nonce more text = F at *
  generalize streamL key 1 nonce text = H at *
  go_enter Tryd.func30, Tryd.ntmps30
  go_wp2_with fail
  refine hst.mono ?_
  clear hst
  rintro e w1 ⟨⟨A5, c5, rfl, hr1⟩, hb1⟩
  have hs1 := hb1.size
  have hcap := hr1.nilcap
  have htg := l3Tag_any A c key A2 c2 nonce A3 p c3 more A5 q c5 H w1 (hk.below hb1) hc (hn.below hb1) hc2 (hm.below hb1) hp hc3 (hr1.ow' LH.out).bs hq hcap
  have LT : Shut ((boxTag key nonce more H).length = 16) := ⟨boxTag_len _ _ _ _⟩
  generalize boxTag key nonce more H = T at *
  go_wp2_with fail
  refine htg.mono ?_
  clear htg
  rintro e w2 ⟨⟨A6, c6, rfl, hr2⟩, hb2⟩
  have hs2 := hb2.size
  have row2 := hr1.keep (w' := w2) (fun g _ h2 => hb2.block g h2)
  have B2 := ac hb1 hb2
  have how2 := hr2.ow' LT.out
  clear hr1 hb1 hb2 hr2
  go_wp2_with (at_builtin; refine wpList_row_join rfl _ _ rfl _ w.heap.size (.slice A5 q c5) _ _ rfl row2 (by omega) A6 16 c6 rfl how2.bs (how2.bs.cap_ (by omega)) (by rw [LH.out]; omega) ?_; rw [← HS.out]; intro v3 w3 hr3 hb3 hs3; obtain ⟨A7, c7, rfl, _⟩ := hr3.ow LS.out)
  go_ret
  exact ⟨⟨A7, c7, rfl, hr3⟩, B2.trans hb3⟩

end Go.Proofs.YtpoiecdifhkegaaDoor
