/- SealBox of the program. -/
import Derived.Test.YtcanmhlhnihijaaDoorBoxP
import Derived.Test.YtcanmhlhnihijaaDoorSmxP
import Derived.Test.YtcanmhlhnihijaaDoorCipFnD
namespace Go.Proofs.YtcanmhlhnihijaaDoor
open Go.RowKit

theorem maxN_le {p q : Nat} (h : p ≤ 1000) (h2 : q ≤ 1000) : (maxN p q : Int) ≤ 1000 := by unfold maxN; split <;> omega
theorem maxN_left {p q : Nat} (h : 1000 < p) : (1000 : Int) < (maxN p q : Int) := by unfold maxN; split <;> omega
theorem maxN_right {p q : Nat} (h : 1000 < q) : (1000 : Int) < (maxN p q : Int) := by unfold maxN; split <;> omega
theorem ask_zero_ {n1 : Nat} {k : Int} {n2 : Nat} {s : Int} (h : askOk n1 k n2 = true) (hs : s ≤ 1000) : askCode n1 k n2 s = 0 := by simp [askCode, h, hs]

set_option maxRecDepth 100000 in
set_option maxHeartbeats 2000000 in
theorem implSealBox_any (A : Option Addr) (n1 c1 : Nat) (key : List Int) (A2 : Option Addr) (n2 c2 : Nat) (nonce : List Int) (A3 : Option Addr) (n3 c3 : Nat) (more : List Int) (A4 : Option Addr) (n4 c4 : Nat) (text : List Int) (w : World) (hT : Quar w) (h1 : Bs w A n1 key) (hc1 : n1 ≤ c1) (h2 : Bs w A2 n2 nonce) (hc2 : n2 ≤ c2)
    (h3 : Bs w A3 n3 more) (hn3 : A3 = none → c3 = 0) (h4 : Bs w A4 n4 text) (hc4 : n4 ≤ c4) (hn4 : A4 = none → c4 = 0) :
    Calls Tryd.prog 19 #[.slice A n1 c1, .slice A2 n2 c2, .slice A3 n3 c3, .slice A4 n4 c4] w (SpanAns (askCode n1 0 n2 (maxN n3 n4 : Int)) (okN (askCode n1 0 n2 (maxN n3 n4 : Int)) (n4 + 16)) (okL (askCode n1 0 n2 (maxN n3 n4 : Int)) (sealL key nonce more text)) w) := by
  have hask := fun w => fitsStream_any A n1 c1 0 A2 n2 c2 w
  by_cases hok : askOk n1 0 n2 = true
  · by_cases hm3 : n3 ≤ 1000
    · by_cases hm4 : n4 ≤ 1000
      · have hcd := ask_zero_ hok (maxN_le hm3 hm4)
        generalize askCode n1 0 n2 (maxN n3 n4 : Int) = C at *
        subst hcd
        obtain ⟨rfl, rfl, _⟩ := ask_ok hok
        have Hf : Shut (okN 0 (n4 + 16) = n4 + 16 ∧ okL 0 (sealL key nonce more text) = sealL key nonce more text) := ⟨by simp [okN, okL]⟩
        rw [Hf.out.1, Hf.out.2]
        simp only [hok] at hask
        clear hok
        obtain ⟨b, off, rfl, _⟩ := h1.at_ (by omega)
        obtain ⟨b2, off2, rfl, _⟩ := h2.at_ (by omega)
        have HS : Shut (sealL key nonce more text = streamL key 1 nonce text ++ boxTag key nonce more (streamL key 1 nonce text)) := ⟨rfl⟩
        have LS : Shut ((sealL key nonce more text).length = n4 + 16) := ⟨by rw [sealL_len, h4.len]⟩
        have LH : Shut ((streamL key 1 nonce text).length = n4) := ⟨by rw [streamL_len, h4.len]⟩
        have hst := fun (W : World) (hW : Below w.heap.size w W) => streamed_any b off c1 b2 off2 c2 A4 n4 c4 key nonce text 1 W (hT.keep hW) (h1.below hW) hc1 (h2.below hW) hc2 (h4.below hW) hc4 hn4 (by omega) (by omega)
        have i3 : ¬ (1000 : Int) < (n3 : Int) := by omega
        have i4 : ¬ (1000 : Int) < (n4 : Int) := by omega
        generalize sealL key nonce more text = F at *
        generalize streamL key 1 nonce text = H at *
        go_enter Tryd.func19, Tryd.ntmps19
        go_wp2_with fail
        refine (hask _).mono ?_
        rintro e w' ⟨rfl, rfl⟩
        clear hask
        go_wp2_with fail
        refine (hst _ (ab (Below.refl _ w) _)).mono ?_
        clear hst
        rintro e w1 ⟨⟨A5, c5, rfl, hr1⟩, hb1⟩
        have hs1 := hb1.size
        have t1 := (Two.new w 27 (.int .i64 0) (.slice none 0 0)).below hb1 (by simp)
        have hbw := ac (ab (Below.refl _ w) (.cells #[.int .i64 0, .slice none 0 0] 27)) hb1
        rw [World.size_alloc] at hs1 hr1
        have hcap := hr1.nilcap
        have LT : Shut ((boxTag key nonce more H).length = 16) := ⟨boxTag_len _ _ _ _⟩
        have htg := boxTag_any b off c1 b2 off2 c2 key nonce A3 n3 c3 more A5 n4 c5 H w1 (hT.keep hbw) (h1.below hbw) hc1 (h2.below hbw) hc2 (h3.below hbw) hn3 (by omega) (hr1.ow' LH.out).bs hcap (by omega)
        generalize boxTag key nonce more H = T at *
        go_wp2_with fail
        refine htg.mono ?_
        clear htg
        rintro e w2 ⟨⟨g6, c6, rfl, hr2⟩, hb2⟩
        have hs2 := hb2.size
        have row2 := hr1.keep (w' := w2) (fun g _ h2 => hb2.block g h2)
        have B2 := ac hbw hb2
        have t2 := t1.below hb2 (by omega)
        have how2 := hr2.ow' LT.out
        clear hr1 hb2 hr2
        go_wp2_with (at_builtin; refine wpList_row_join rfl _ _ rfl _ (w.heap.size + 1) (.slice A5 n4 c5) _ _ rfl row2 (by omega) (some ⟨g6, 0, none⟩) 16 c6 rfl how2.bs (fun e => by cases e) (by rw [LH.out]; omega) ?_; rw [← HS.out]; intro v3 w3 hr3 hb3 hs3; obtain ⟨A7, c7, rfl, _⟩ := hr3.ow LS.out; have t3 := t2.below hb3 (by omega); obtain ⟨x0, x1, x2, x3⟩ := t3.cells)
        have how := hr3.ow' LS.out
        have hcap3 := hr3.cap
        have hnil3 := hr3.nilcap
        refine bodyPost_ret (v := .agg #[.int .i64 0, .slice A7 (n4 + 16) c7]) (by simp [results, Tryd.results19, go_sem, x0, x1]) rfl ?_
        refine ⟨⟨A7, c7, rfl, ((how.far (p := ⟨w.heap.size, 0, none⟩) (by simp) _).far (p := ⟨w.heap.size, 1, none⟩) (by simp) _).mono (by omega), hcap3, hnil3⟩, ?_⟩
        exact ((B2.trans (hb3.mono (by omega))).setCell (by simp) _).setCell (by simp) _
      · have hcd := ask_two hok (maxN_right (p := n3) (by omega : 1000 < n4))
        generalize askCode n1 0 n2 (maxN n3 n4 : Int) = C at *
        subst hcd
        have Hf : Shut (okN 2 (n4 + 16) = 0 ∧ okL 2 (sealL key nonce more text) = []) := ⟨by simp [okN, okL]⟩
        rw [Hf.out.1, Hf.out.2]
        simp only [hok] at hask
        clear hok
        have i3 : ¬ (1000 : Int) < (n3 : Int) := by omega
        have i4 : (1000 : Int) < (n4 : Int) := by omega
        go_enter Tryd.func19, Tryd.ntmps19
        go_wp2_with fail
        refine (hask _).mono ?_
        rintro e w' ⟨rfl, rfl⟩
        go_wp2
        go_returns
        exact ⟨⟨none, 0, rfl, Ow.nil_ _ _, Nat.le_refl _, fun _ => rfl⟩, by go_grown⟩
    · have hcd := ask_two hok (maxN_left (q := n4) (by omega : 1000 < n3))
      generalize askCode n1 0 n2 (maxN n3 n4 : Int) = C at *
      subst hcd
      have Hf : Shut (okN 2 (n4 + 16) = 0 ∧ okL 2 (sealL key nonce more text) = []) := ⟨by simp [okN, okL]⟩
      rw [Hf.out.1, Hf.out.2]
      simp only [hok] at hask
      clear hok
      have i3 : (1000 : Int) < (n3 : Int) := by omega
      go_enter Tryd.func19, Tryd.ntmps19
      go_wp2_with fail
      refine (hask _).mono ?_
      rintro e w' ⟨rfl, rfl⟩
      go_wp2
      go_returns
      exact ⟨⟨none, 0, rfl, Ow.nil_ _ _, Nat.le_refl _, fun _ => rfl⟩, by go_grown⟩
  · have hf := Bool.eq_false_iff.2 hok
    have hcd := ask_three hf (maxN n3 n4 : Int)
    generalize askCode n1 0 n2 (maxN n3 n4 : Int) = C at *
    subst hcd
    have Hf : Shut (okN 3 (n4 + 16) = 0 ∧ okL 3 (sealL key nonce more text) = []) := ⟨by simp [okN, okL]⟩
    rw [Hf.out.1, Hf.out.2]
    simp only [hf] at hask
    clear hok hf
    go_enter Tryd.func19, Tryd.ntmps19
    go_wp2_with fail
    refine (hask _).mono ?_
    rintro e w' ⟨rfl, rfl⟩
    go_wp2
    go_returns
    exact ⟨⟨none, 0, rfl, Ow.nil_ _ _, Nat.le_refl _, fun _ => rfl⟩, by go_grown⟩
end Go.Proofs.YtcanmhlhnihijaaDoor
