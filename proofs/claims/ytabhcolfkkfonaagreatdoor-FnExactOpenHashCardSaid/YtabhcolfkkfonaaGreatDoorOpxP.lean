import Derived.Test.YtabhcolfkkfonaaGreatDoorBase
import Derived.LaidEql
import Derived.Stop.Asserts
import Derived.RowKitTokens
import Derived.Test.YtabhcolfkkfonaaGreatDoorSealQ

/-! IsP -/
/- errors.Is, asked of a sentinel: of nothing it is none, of itself it is one. -/
namespace Go.Proofs.YtabhcolfkkfonaaGreatDoor
open Go.RowKit Go.Extern.Stop Go.Stop Go.Extern

theorem tyOfSent (v : Value) (w : World) : (Extern.ReflectliteType.typeOf #[.iface 255 v]).run Tryz.prog w = .ok (.iface 218 (.agg #[.pointer (some ⟨7, 255, none⟩)])) w := by kernel_rfl
theorem compSent (w : World) : ((Extern.ReflectliteType.method fun t => do Go.Extern.Rtype.noPackHeld "Comparable" t; (fun a => Value.bool a.comparable) <$> typeInfo t) #[.agg #[.pointer (some ⟨7, 255, none⟩)]]).run Tryz.prog w = .ok (.bool true) w := by kernel_rfl
theorem methComp (v : Value) (w : World) : (Go.method 193 218 v "Comparable").run Tryz.prog w = .ok (274, v) w := by kernel_rfl
theorem infoComp : (Tryz.prog.info? 255).map (·.comparable) = some true := by kernel_rfl
theorem infoSize : (Tryz.prog.info? 280).map (·.size) = some 1 := by kernel_rfl

/-- nothing is no sentinel -/
theorem isNil_any (b : Addr) (w : World) :
    Calls Tryz.prog 168 #[.nilIface, .iface 255 (.pointer (some b))] w fun e w' => e = .returned (.bool false) ∧ w' = w := by
  have hn := run_eql_iface_nil_left (P := Tryz.prog) w 255 (.pointer (some b)) Tryz.underlying162
  go_enter Tryz.func168, Tryz.ntmps168
  go_wp2
  go_ret
  exact ⟨rfl, rfl⟩

/-- a sentinel is itself -/
theorem isSame_any (a : Addr) (w : World) :
    Calls Tryz.prog 168 #[.iface 255 (.pointer (some a)), .iface 255 (.pointer (some a))] w fun e w' => e = .returned (.bool true) ∧ w' = w := by
  obtain ⟨i, hi, hcmp⟩ := Option.map_eq_some_iff.1 infoComp
  obtain ⟨j, hj, hjs⟩ := Option.map_eq_some_iff.1 infoSize
  have h1 := @run_callFunc_extern Tryz.prog 199 _ Extern.ReflectliteType.typeOf Tryz.func199 (by kernel_rfl) (by kernel_rfl) (by kernel_rfl) (by kernel_rfl)
  have h2 := @run_callFunc_extern Tryz.prog 274 _ (Extern.ReflectliteType.method fun t => do Go.Extern.Rtype.noPackHeld "Comparable" t; pure (.bool (← typeInfo t).comparable)) Tryz.func274 (by kernel_rfl) (by kernel_rfl) (by kernel_rfl) (by kernel_rfl)
  have tT := tyOfSent
  have cT := compSent
  have mR := methComp
  have heq := run_eql_iface_ptr_same (P := Tryz.prog) w a Tryz.underlying162 Tryz.underlying255 hi hcmp hj
  go_enter Tryz.func168, Tryz.ntmps168
  go_wp2
  refine wp_loop_rounds 1 ?_
  rw [rounds_succ]
  go_wp2
  go_ret
  exact ⟨rfl, rfl⟩
end Go.Proofs.YtabhcolfkkfonaaGreatDoor

/-! OpenP -/
/- What is in a box, of the program. -/
namespace Go.Proofs.YtabhcolfkkfonaaGreatDoor
open Go.RowKit

/-- the sentinel's variable holds an error of errors.New's -/
structure Sent (w : World) : Prop where
  ex : ∃ a, w.cell? ⟨1, 0, none⟩ = some (.iface 255 (.pointer (some a)))
theorem cell_lt {w : World} {p : Addr} {v : Value} (h : w.cell? p = some v) : p.block < w.heap.size := by
  rcases Nat.lt_or_ge p.block w.heap.size with h1 | h1
  · exact h1
  · simp [World.cell?, Array.getElem?_eq_none h1] at h
theorem Sent.keep {w w' : World} (h : Sent w) (hb : Below w.heap.size w w') : Sent w' := by
  obtain ⟨a, ha⟩ := h.ex
  exact ⟨a, (hb.cell (p := ⟨1, 0, none⟩) (cell_lt ha)).trans ha⟩

set_option maxRecDepth 100000 in
set_option maxHeartbeats 2000000 in
theorem openedBox_any (b off c b2 off2 c2 : Nat) (key nonce : List Int) (A3 : Option Addr) (p c3 : Nat) (more : List Int) (b4 off4 q c4 : Nat) (box : List Int) (a : Addr) (w : World) (hT : Quar w) (hS : w.cell? ⟨1, 0, none⟩ = some (.iface 255 (.pointer (some a)))) (hk : Bs w (some ⟨b, off, none⟩) 32 key) (hc : 32 ≤ c) (hno : Bs w (some ⟨b2, off2, none⟩) 12 nonce) (hc2 : 12 ≤ c2)
    (h3 : Bs w A3 p more) (hc3 : A3 = none → c3 = 0) (hp : p ≤ 1000) (h4 : Bs w (some ⟨b4, off4, none⟩) (q + 16) box) (hc4 : q + 16 ≤ c4) (hq : q ≤ 1000) :
    Calls Tryz.prog 167 #[.slice (some ⟨b, off, none⟩) 32 c, .slice (some ⟨b2, off2, none⟩) 12 c2, .slice A3 p c3, .slice (some ⟨b4, off4, none⟩) (q + 16) c4] w fun e w' =>
      (if boxTag key nonce more (box.take q) = box.drop q then ∃ A' c', e = .returned (.tuple #[.slice A' q c', .nilIface]) ∧ Row w' w.heap.size (.slice A' q c') (streamL key 1 nonce (box.take q)) else e = .returned (.tuple #[.slice none 0 0, .iface 255 (.pointer (some a))])) ∧ Below w.heap.size w w' := by
  have h1 := h4.part_ 0 q (by omega)
  have h2 := h4.part_ q 16 (by omega)
  rw [Nat.add_zero, List.drop_zero] at h1
  rw [show (box.drop q).take 16 = box.drop q from List.take_of_length_le (by rw [List.length_drop, h4.len]; omega)] at h2
  have G0 := fun (W : World) (hW : Below w.heap.size w W) => boxTag_any b off c b2 off2 c2 key nonce A3 p c3 more (some ⟨b4, off4, none⟩) q c4 (box.take q) W (hT.keep hW) (hk.below hW) hc (hno.below hW) hc2 (h3.below hW) hc3 (by omega) (h1.below hW) (fun e => by cases e) (by omega)
  have LT : Shut ((boxTag key nonce more (box.take q)).length = 16) := ⟨boxTag_len _ _ _ _⟩
  have Hst := Shut.mk (fun (W : World) (hW : Below w.heap.size w W) => streamed_any b off c b2 off2 c2 (some ⟨b4, off4, none⟩) q c4 key nonce (box.take q) 1 W (hT.keep hW) (hk.below hW) hc (hno.below hW) hc2 (h1.below hW) (by omega) (fun e => by cases e) (by omega) (by omega))
  clear h4 hk hno h3
  generalize boxTag key nonce more (box.take q) = T at *
  generalize box.take q = X at *
  generalize box.drop q = Y at *
  have hc4' : ¬ c4 = q := by omega
  have hq1 : (0 : Int) ≤ (q : Int) := by omega
  have hq2 : (q : Int) ≤ (c4 : Int) := by omega
  have hq3 : (q : Int) ≤ (q : Int) + 16 := by omega
  have hq4 : (q : Int) + 16 ≤ (c4 : Int) := by omega
  by_cases hTY : T = Y
  · simp only [if_pos hTY]
    have hd : decide (Y = T) = true := by simpa using hTY.symm
    clear hTY
    go_enter Tryz.func167, Tryz.ntmps167
    go_wp2
    go_quiet (fail)
    have hB0 := below_drewN (Below.refl w.heap.size w) nq
    have hS0 : (w.drewN nq).cell? ⟨1, 0, none⟩ = some (.iface 255 (.pointer (some a))) := hS
    generalize w.drewN nq = w0 at *
    go_wp2_with fail
    refine (G0 _ hB0).mono ?_
    clear G0
    rintro e w1 ⟨⟨g1, c1, rfl, r1⟩, b1'⟩
    have hz0 := hB0.size
    have b1 := ac hB0 b1'
    have o1 := r1.ow' LT.out
    have hS1 := (b1'.cell (p := ⟨1, 0, none⟩) (cell_lt hS0)).trans hS0
    go_wp2_with fail
    refine (implSameBytes_any _ _ _ _ _ _ _ _ _ (h2.below b1) o1.bs).mono ?_
    rintro e w2 ⟨rfl, rfl⟩
    rw [hd]
    go_wp2_with fail
    refine (Hst.out _ b1).mono ?_
    rintro e w9 ⟨⟨A9, c9, rfl, hr9⟩, hb9⟩
    go_wp2
    go_ret2
    exact ⟨⟨A9, c9, rfl, hr9.mono b1.size⟩, ac b1 hb9⟩
  · simp only [if_neg hTY]
    have hYT : ¬ Y = T := fun e => hTY e.symm
    have hd : decide (Y = T) = false := by simpa using hYT
    clear hTY hYT
    go_enter Tryz.func167, Tryz.ntmps167
    go_wp2
    go_quiet (fail)
    have hB0 := below_drewN (Below.refl w.heap.size w) nq
    have hS0 : (w.drewN nq).cell? ⟨1, 0, none⟩ = some (.iface 255 (.pointer (some a))) := hS
    generalize w.drewN nq = w0 at *
    go_wp2_with fail
    refine (G0 _ hB0).mono ?_
    clear G0
    rintro e w1 ⟨⟨g1, c1, rfl, r1⟩, b1'⟩
    have hz0 := hB0.size
    have b1 := ac hB0 b1'
    have o1 := r1.ow' LT.out
    have hS1 := (b1'.cell (p := ⟨1, 0, none⟩) (cell_lt hS0)).trans hS0
    go_wp2_with fail
    refine (implSameBytes_any _ _ _ _ _ _ _ _ _ (h2.below b1) o1.bs).mono ?_
    rintro e w2 ⟨rfl, rfl⟩
    rw [hd]
    go_wp2
    go_quiet (fail)
    go_wp2
    go_ret2
    exact ⟨rfl, ad b1 _⟩
end Go.Proofs.YtabhcolfkkfonaaGreatDoor

/-! OpdP -/
/- OpenBox of the program. -/
namespace Go.Proofs.YtabhcolfkkfonaaGreatDoor
open Go.RowKit

set_option maxRecDepth 100000 in
set_option maxHeartbeats 2000000 in
theorem implOpenBox_no (C : Int) (A : Option Addr) (n1 c1 : Nat) (A2 : Option Addr) (n2 c2 : Nat) (A3 : Option Addr) (n3 c3 : Nat) (A4 : Option Addr) (n4 c4 : Nat) (w : World)
    (h : (askOk n1 0 n2 = false ∧ C = 3) ∨ (askOk n1 0 n2 = true ∧ (1000 < n3 ∨ 1000 < n4 ∨ n4 < 16) ∧ C = 2)) :
    Calls Tryz.prog 117 #[.slice A n1 c1, .slice A2 n2 c2, .slice A3 n3 c3, .slice A4 n4 c4] w (SpanAns C 0 [] w) := by
  have hask := fun w => fitsStream_any A n1 c1 0 A2 n2 c2 w
  rcases h with ⟨hf, rfl⟩ | ⟨hok, h, rfl⟩
  · rw [hf] at hask
    go_enter Tryz.func117, Tryz.ntmps117
    go_wp2_with fail
    refine (hask _).mono ?_
    rintro e w' ⟨rfl, rfl⟩
    go_wp2
    go_returns
    exact ⟨⟨none, 0, rfl, Ow.nil_ _ _, Nat.le_refl _, fun _ => rfl⟩, by go_grown⟩
  · rw [hok] at hask
    clear hok
    by_cases i3 : (1000 : Int) < (n3 : Int)
    · go_enter Tryz.func117, Tryz.ntmps117
      go_wp2_with fail
      refine (hask _).mono ?_
      rintro e w' ⟨rfl, rfl⟩
      go_wp2
      go_returns
      exact ⟨⟨none, 0, rfl, Ow.nil_ _ _, Nat.le_refl _, fun _ => rfl⟩, by go_grown⟩
    · by_cases i4 : (1000 : Int) < (n4 : Int)
      · go_enter Tryz.func117, Tryz.ntmps117
        go_wp2_with fail
        refine (hask _).mono ?_
        rintro e w' ⟨rfl, rfl⟩
        go_wp2
        go_returns
        exact ⟨⟨none, 0, rfl, Ow.nil_ _ _, Nat.le_refl _, fun _ => rfl⟩, by go_grown⟩
      · have i5 : (n4 : Int) < 16 := by omega
        clear h
        go_enter Tryz.func117, Tryz.ntmps117
        go_wp2_with fail
        refine (hask _).mono ?_
        rintro e w' ⟨rfl, rfl⟩
        go_wp2
        go_returns
        exact ⟨⟨none, 0, rfl, Ow.nil_ _ _, Nat.le_refl _, fun _ => rfl⟩, by go_grown⟩

set_option maxRecDepth 100000 in
set_option maxHeartbeats 2000000 in
theorem implOpenBox_yes (b off c1 : Nat) (key : List Int) (b2 off2 c2 : Nat) (nonce : List Int) (A3 : Option Addr) (n3 c3 : Nat) (more : List Int) (b4 off4 q c4 : Nat) (box : List Int) (w : World) (hT : Quar w) (hS : Sent w) (h1 : Bs w (some ⟨b, off, none⟩) 32 key) (hc1 : 32 ≤ c1) (h2 : Bs w (some ⟨b2, off2, none⟩) 12 nonce) (hc2 : 12 ≤ c2)
    (h3 : Bs w A3 n3 more) (hn3 : A3 = none → c3 = 0) (h3m : n3 ≤ 1000) (h4 : Bs w (some ⟨b4, off4, none⟩) (q + 16) box) (hc4 : q + 16 ≤ c4) (h4m : q + 16 ≤ 1000) :
    Calls Tryz.prog 117 #[.slice (some ⟨b, off, none⟩) 32 c1, .slice (some ⟨b2, off2, none⟩) 12 c2, .slice A3 n3 c3, .slice (some ⟨b4, off4, none⟩) (q + 16) c4] w
      (if boxTag key nonce more (box.take q) = box.drop q then SpanAns 0 q (streamL key 1 nonce (box.take q)) w else SpanAns 6 0 [] w) := by
  have hask := fun w => fitsStream_any (some ⟨b, off, none⟩) 32 c1 0 (some ⟨b2, off2, none⟩) 12 c2 w
  rw [show askOk 32 0 12 = true from rfl] at hask
  obtain ⟨a, ha⟩ := hS.ex
  have hga : 1 < w.heap.size := cell_lt ha
  have hcall := fun (W : World) (hW : Below w.heap.size w W) => openedBox_any b off c1 b2 off2 c2 key nonce A3 n3 c3 more b4 off4 q c4 box a W (hT.keep hW) ((hW.cell (p := ⟨1, 0, none⟩) hga).trans ha) (h1.below hW) hc1 (h2.below hW) hc2 (h3.below hW) hn3 h3m (h4.below hW) hc4 (by omega)
  have i3 : ¬ (1000 : Int) < (n3 : Int) := by omega
  have i4 : ¬ (1000 : Int) < (q : Int) + 16 := by omega
  have i5 : ¬ (q : Int) + 16 < 16 := by omega
  have LH : Shut ((streamL key 1 nonce (box.take q)).length = q) := ⟨by rw [streamL_len, List.length_take, h4.len]; omega⟩
  have isn := fun (w : World) => isNil_any a w
  have iss := fun (w : World) => isSame_any a w
  clear h1 h2 h3 h4
  by_cases hTY : boxTag key nonce more (box.take q) = box.drop q
  · simp only [if_pos hTY] at hcall ⊢
    clear hTY
    generalize streamL key 1 nonce (box.take q) = H at *
    go_enter Tryz.func117, Tryz.ntmps117
    go_wp2_with fail
    refine (hask _).mono ?_
    rintro e w' ⟨rfl, rfl⟩
    clear hask
    go_wp2_with fail
    refine (hcall _ (ab (Below.refl _ w) _)).mono ?_
    clear hcall
    rintro e w1 ⟨⟨A5, c5, rfl, hr1⟩, hb1⟩
    rw [World.size_alloc] at hr1
    have how := hr1.ow' LH.out
    have hcap := hr1.cap
    have hnil := hr1.nilcap
    have hs1 := hb1.size
    have hbw := ac (ab (Below.refl _ w) (.cells #[.int .i64 0, .slice none 0 0] 46)) hb1
    have ha1 := (hbw.cell (p := ⟨1, 0, none⟩) hga).trans ha
    have t1 := (Two.new w 46 (.int .i64 0) (.slice none 0 0)).below hb1 (by simp)
    obtain ⟨x0, x1, x2, x3⟩ := t1.cells
    rw [World.size_alloc] at hs1
    go_wp2_with fail
    refine (isn _).mono ?_
    rintro e w2 ⟨rfl, rfl⟩
    go_wp2
    refine bodyPost_ret (v := .agg #[.int .i64 0, .slice A5 q c5]) (by simp [results, Tryz.results117, go_sem, x0, x1]) rfl ?_
    refine ⟨⟨A5, c5, rfl, ((how.far (p := ⟨w.heap.size, 0, none⟩) (by simp) _).far (p := ⟨w.heap.size, 1, none⟩) (by simp) _).mono (by omega), hcap, hnil⟩, ?_⟩
    exact (hbw.setCell (by simp) _).setCell (by simp) _
  · simp only [if_neg hTY] at hcall ⊢
    clear hTY
    go_enter Tryz.func117, Tryz.ntmps117
    go_wp2_with fail
    refine (hask _).mono ?_
    rintro e w' ⟨rfl, rfl⟩
    clear hask
    go_wp2_with fail
    refine (hcall _ (ab (Below.refl _ w) _)).mono ?_
    clear hcall
    rintro e w1 ⟨rfl, hb1⟩
    have hs1 := hb1.size
    have hbw := ac (ab (Below.refl _ w) (.cells #[.int .i64 0, .slice none 0 0] 46)) hb1
    have ha1 := (hbw.cell (p := ⟨1, 0, none⟩) hga).trans ha
    have t1 := (Two.new w 46 (.int .i64 0) (.slice none 0 0)).below hb1 (by simp)
    obtain ⟨x0, x1, x2, x3⟩ := t1.cells
    rw [World.size_alloc] at hs1
    go_wp2_with fail
    refine (iss _).mono ?_
    rintro e w2 ⟨rfl, rfl⟩
    go_wp2
    refine bodyPost_ret (v := .agg #[.int .i64 6, .slice none 0 0]) (by simp [results, Tryz.results117, go_sem, x0, x1]) rfl ?_
    refine ⟨⟨none, 0, rfl, Ow.nil_ _ _, Nat.le_refl _, fun _ => rfl⟩, ?_⟩
    exact (hbw.setCell (by simp) _).setCell (by simp) _

theorem implOpenBox_any (A : Option Addr) (n1 c1 : Nat) (key : List Int) (A2 : Option Addr) (n2 c2 : Nat) (nonce : List Int) (A3 : Option Addr) (n3 c3 : Nat) (more : List Int) (A4 : Option Addr) (n4 c4 : Nat) (box : List Int) (w : World) (hT : Quar w) (hS : Sent w) (h1 : Bs w A n1 key) (hc1 : n1 ≤ c1) (h2 : Bs w A2 n2 nonce) (hc2 : n2 ≤ c2)
    (h3 : Bs w A3 n3 more) (hn3 : A3 = none → c3 = 0) (h4 : Bs w A4 n4 box) (hc4 : n4 ≤ c4) :
    Calls Tryz.prog 117 #[.slice A n1 c1, .slice A2 n2 c2, .slice A3 n3 c3, .slice A4 n4 c4] w
      (SpanAns (openCode (askCode n1 0 n2 (maxN n3 n4 : Int)) key nonce more box) (okN (openCode (askCode n1 0 n2 (maxN n3 n4 : Int)) key nonce more box) (n4 - 16)) (okL (openCode (askCode n1 0 n2 (maxN n3 n4 : Int)) key nonce more box) (openL key nonce box)) w) := by
  have no : ∀ C : Int, C = 2 ∨ C = 3 → ((askOk n1 0 n2 = false ∧ C = 3) ∨ (askOk n1 0 n2 = true ∧ (1000 < n3 ∨ 1000 < n4 ∨ n4 < 16) ∧ C = 2)) →
      Calls Tryz.prog 117 #[.slice A n1 c1, .slice A2 n2 c2, .slice A3 n3 c3, .slice A4 n4 c4] w (SpanAns C (okN C (n4 - 16)) (okL C (openL key nonce box)) w) := fun C hC h => by
    have e := implOpenBox_no C A n1 c1 A2 n2 c2 A3 n3 c3 A4 n4 c4 w h
    have e1 : okN C (n4 - 16) = 0 := by rcases hC with rfl | rfl <;> rfl
    have e2 : okL C (openL key nonce box) = [] := by rcases hC with rfl | rfl <;> rfl
    rw [e1, e2]
    exact e
  by_cases hok : askOk n1 0 n2 = true
  · by_cases hb : n3 ≤ 1000 ∧ n4 ≤ 1000
    · rw [ask_zero_ hok (maxN_le hb.1 hb.2)]
      by_cases h16 : n4 < 16
      · have e : openCode 0 key nonce more box = 2 := by
          unfold openCode
          rw [if_pos rfl, if_pos (by rw [h4.len]; exact h16)]
        rw [e]
        exact no 2 (.inl rfl) (.inr ⟨hok, .inr (.inr h16), rfl⟩)
      · obtain ⟨q, rfl⟩ : ∃ q, n4 = q + 16 := ⟨n4 - 16, by omega⟩
        obtain ⟨rfl, rfl, _⟩ := ask_ok hok
        obtain ⟨b, off, rfl, _⟩ := h1.at_ (by omega)
        obtain ⟨b2, off2, rfl, _⟩ := h2.at_ (by omega)
        obtain ⟨b4, off4, rfl, _⟩ := h4.at_ (by omega)
        have hy := implOpenBox_yes b off c1 key b2 off2 c2 nonce A3 n3 c3 more b4 off4 q c4 box w hT hS h1 hc1 h2 hc2 h3 hn3 hb.1 h4 hc4 hb.2
        have hlen := h4.len
        unfold openCode openL
        rw [if_pos rfl, if_neg (by omega), show box.length - 16 = q by omega, show q + 16 - 16 = q by omega]
        split at hy
        · rename_i hTY
          rw [if_pos hTY]
          exact hy
        · rename_i hTY
          rw [if_neg hTY]
          exact hy
    · have hcd : askCode n1 0 n2 (maxN n3 n4 : Int) = 2 := by
        by_cases h3' : 1000 < n3
        · exact ask_two hok (maxN_left h3')
        · exact ask_two hok (maxN_right (by omega))
      rw [hcd, show openCode 2 key nonce more box = 2 from rfl]
      exact no 2 (.inl rfl) (.inr ⟨hok, by omega, rfl⟩)
  · have hf := Bool.eq_false_iff.2 hok
    rw [ask_three hf, show openCode 3 key nonce more box = 3 from rfl]
    exact no 3 (.inr rfl) (.inl ⟨hf, rfl⟩)
end Go.Proofs.YtabhcolfkkfonaaGreatDoor
