import Derived.Test.YtabhcolfkkfonaaGreatDoorTopP
import Derived.Test.YtabhcolfkkfonaaGreatDoorBlkP
import Derived.Test.YtabhcolfkkfonaaGreatDoorJoinP
import Derived.Test.YtabhcolfkkfonaaGreatDoorMdlX
import Derived.Test.YtabhcolfkkfonaaGreatDoorSmxP
import Derived.Test.YtabhcolfkkfonaaGreatDoorAnsX

/-! BoxP -/
/- The tag of a box, of the program. -/
namespace Go.Proofs.YtabhcolfkkfonaaGreatDoor
open Go.RowKit

theorem lowOf_eight (p : Nat) (hp : p ≤ 100000) : lowOf (p : Int) 8 = lowOf (p : Int) 7 ++ [0] := by
  rw [lowOf_succ]
  congr 1
  congr 1
  have : (p : Int) / 256 ^ 7 = 0 := (lowOf_lt _ 7 (by omega)).2 (by omega)
  rw [this]
  rfl
theorem tagD_parts (more hidden : List Int) (p m : Nat) (hp : more.length = p) (hm : hidden.length = m) (hp2 : p ≤ 100000) (hm2 : m ≤ 100000) :
    tagD more hidden = more ++ (List.replicate (fillN p) 0 ++ (hidden ++ (List.replicate (fillN m) 0 ++ (lowOf (p : Int) 8 ++ lowOf (m : Int) 8)))) := by
  unfold tagD tagB tagA
  rw [lowOf_eight p hp2, lowOf_eight m hm2, hp, hm]
  have e1 : fillL (fillL more ++ hidden) = more ++ (List.replicate (fillN p) 0 ++ (hidden ++ List.replicate (fillN m) 0)) := by
    have e2 : (fillL more ++ hidden).length = p + fillN p + m := by rw [List.length_append, fillL_len, hp, hm]
    have e3 : fillN (p + fillN p + m) = fillN m := by unfold fillN; omega
    unfold fillL at e2 ⊢
    rw [e2, e3, hp]
    simp [List.append_assoc]
  rw [e1]
  simp [List.append_assoc]

theorem zerosBehind_any (A : Option Addr) (n c : Nat) (w : World) (hn : n ≤ 100000) :
    Calls Tryz.prog 198 #[.slice A n c] w fun e w' => e = .returned (.slice (some ⟨w.heap.size, 0, none⟩) (fillN n) (fillN n)) ∧ Blk w' w.heap.size (List.replicate (fillN n) 0) ∧ Below w.heap.size w w' := by
  have hf : fillN n = (16 - n % 16) % 16 := rfl
  have hmk := run_make_bytes (fillN n) (by omega)
  have e0 : (n : Int) % 16 = ((n % 16 : Nat) : Int) := by omega
  have e3 : ((16 : Int) - ((n : Int) % 16)) % 16 = (fillN n : Int) := by omega
  clear e0 hf
  generalize fillN n = N at *
  go_enter Tryz.func198, Tryz.ntmps198
  go_wp2
  go_ret
  exact ⟨rfl, by simpa using Blk.made w (List.replicate N 0), ab (Below.refl _ _) _⟩

set_option maxHeartbeats 2000000 in
theorem boxTag_any (b off c b2 off2 c2 : Nat) (key nonce : List Int) (A3 : Option Addr) (p c3 : Nat) (more : List Int) (A4 : Option Addr) (m c4 : Nat) (hidden : List Int) (w : World) (hT : Quar w) (hk : Bs w (some ⟨b, off, none⟩) 32 key) (hc : 32 ≤ c) (hno : Bs w (some ⟨b2, off2, none⟩) 12 nonce) (hc2 : 12 ≤ c2)
    (h3 : Bs w A3 p more) (hc3 : A3 = none → c3 = 0) (hp : p ≤ 2000) (h4 : Bs w A4 m hidden) (hc4 : A4 = none → c4 = 0) (hm : m ≤ 2000) :
    Calls Tryz.prog 165 #[.slice (some ⟨b, off, none⟩) 32 c, .slice (some ⟨b2, off2, none⟩) 12 c2, .slice A3 p c3, .slice A4 m c4] w fun e w' => (∃ g c', e = .returned (.slice (some ⟨g, 0, none⟩) 16 c') ∧ Row w' w.heap.size (.slice (some ⟨g, 0, none⟩) 16 c') (boxTag key nonce more hidden)) ∧ Below w.heap.size w w' := by
  have Hs := Shut.mk (fun (W : World) (hW : Below w.heap.size w W) => streamBlock_any b off c b2 off2 c2 key nonce 0 W (hT.keep hW) (hk.below hW) hc (hno.below hW) hc2 ⟨by omega, by omega⟩)
  have Lk := Shut.mk (keyBlock_len key 0 nonce)
  have Hb : Shut (boxTag key nonce more hidden = polyTag ((keyBlock key 0 nonce).take 32) (more ++ (List.replicate (fillN p) 0 ++ (hidden ++ (List.replicate (fillN m) 0 ++ (lowOf (p : Int) 8 ++ lowOf (m : Int) 8)))))) := ⟨by
    unfold boxTag
    rw [tagD_parts more hidden p m h3.len h4.len (by omega) (by omega)]⟩
  have f3 : fillN p ≤ 15 := by unfold fillN; omega
  have f4 : fillN m ≤ 15 := by unfold fillN; omega
  generalize boxTag key nonce more hidden = T at *
  generalize keyBlock key 0 nonce = K at *
  go_enter Tryz.func165, Tryz.ntmps165
  go_wp2_with fail
  refine (Hs.out _ (Below.refl _ _)).mono ?_
  rintro e w1 ⟨⟨A1, q1, rfl, r1⟩, b1⟩
  have o1 := r1.ow' Lk.out
  have v1 := r1.cap
  obtain ⟨g1, x1, rfl, _⟩ := o1.bs.at_ (by omega)
  go_wp2_with fail
  refine (zerosBehind_any A3 p c3 _ (by omega)).mono ?_
  rintro e w2 ⟨rfl, z2, b2'⟩
  go_wp2_with fail
  refine (zerosBehind_any A4 m c4 _ (by omega)).mono ?_
  rintro e w3 ⟨rfl, z3, b3'⟩
  go_wp2_with fail
  refine (spreadLow_any (p : Int) 8 _ (by omega)).mono ?_
  rintro e w4 ⟨rfl, z4, b4'⟩
  go_wp2_with fail
  refine (spreadLow_any (m : Int) 8 _ (by omega)).mono ?_
  rintro e w5 ⟨rfl, z5, b5'⟩
  go_wp2_with fail
  have B1 := b1
  have s1 := b1.size
  have s2 := b2'.size
  have s3 := b3'.size
  have s4 := b4'.size
  have s5 := b5'.size
  have B2 := ac B1 b2'
  have B3 := ac B2 b3'
  have B4 := ac B3 b4'
  have B5 := ac B4 b5'
  have t2 := z2.lt
  have t3 := z3.lt
  have t4 := z4.lt
  have y2 := (((z2.below b3' t2).below b4' (by omega)).below b5' (by omega)).alloc (.cells #[.slice A3 p c3, .slice (some ⟨w1.heap.size, 0, none⟩) (fillN p) (fillN p), .slice A4 m c4, .slice (some ⟨w2.heap.size, 0, none⟩) (fillN m) (fillN m), .slice (some ⟨w3.heap.size, 0, none⟩) 8 8, .slice (some ⟨w4.heap.size, 0, none⟩) 8 8] 22)
  have y3 := ((z3.below b4' t3).below b5' (by omega)).alloc (.cells #[.slice A3 p c3, .slice (some ⟨w1.heap.size, 0, none⟩) (fillN p) (fillN p), .slice A4 m c4, .slice (some ⟨w2.heap.size, 0, none⟩) (fillN m) (fillN m), .slice (some ⟨w3.heap.size, 0, none⟩) 8 8, .slice (some ⟨w4.heap.size, 0, none⟩) 8 8] 22)
  have y4 := (z4.below b5' t4).alloc (.cells #[.slice A3 p c3, .slice (some ⟨w1.heap.size, 0, none⟩) (fillN p) (fillN p), .slice A4 m c4, .slice (some ⟨w2.heap.size, 0, none⟩) (fillN m) (fillN m), .slice (some ⟨w3.heap.size, 0, none⟩) 8 8, .slice (some ⟨w4.heap.size, 0, none⟩) 8 8] 22)
  have y5 := z5.alloc (.cells #[.slice A3 p c3, .slice (some ⟨w1.heap.size, 0, none⟩) (fillN p) (fillN p), .slice A4 m c4, .slice (some ⟨w2.heap.size, 0, none⟩) (fillN m) (fillN m), .slice (some ⟨w3.heap.size, 0, none⟩) 8 8, .slice (some ⟨w4.heap.size, 0, none⟩) 8 8] 22)
  have B6 := ab B5 (.cells #[.slice A3 p c3, .slice (some ⟨w1.heap.size, 0, none⟩) (fillN p) (fillN p), .slice A4 m c4, .slice (some ⟨w2.heap.size, 0, none⟩) (fillN m) (fillN m), .slice (some ⟨w3.heap.size, 0, none⟩) 8 8, .slice (some ⟨w4.heap.size, 0, none⟩) 8 8] 22)
  have n6 := heap_alloc_new w5 (.cells #[.slice A3 p c3, .slice (some ⟨w1.heap.size, 0, none⟩) (fillN p) (fillN p), .slice A4 m c4, .slice (some ⟨w2.heap.size, 0, none⟩) (fillN m) (fillN m), .slice (some ⟨w3.heap.size, 0, none⟩) 8 8, .slice (some ⟨w4.heap.size, 0, none⟩) 8 8] 22)
  have b6w := ab (ac (ac (ac (ac (Below.refl _ w1) b2') b3') b4') b5') (.cells #[.slice A3 p c3, .slice (some ⟨w1.heap.size, 0, none⟩) (fillN p) (fillN p), .slice A4 m c4, .slice (some ⟨w2.heap.size, 0, none⟩) (fillN m) (fillN m), .slice (some ⟨w3.heap.size, 0, none⟩) 8 8, .slice (some ⟨w4.heap.size, 0, none⟩) 8 8] 22)
  have x5 : w5.heap.size < (w5.alloc (.cells #[.slice A3 p c3, .slice (some ⟨w1.heap.size, 0, none⟩) (fillN p) (fillN p), .slice A4 m c4, .slice (some ⟨w2.heap.size, 0, none⟩) (fillN m) (fillN m), .slice (some ⟨w3.heap.size, 0, none⟩) 8 8, .slice (some ⟨w4.heap.size, 0, none⟩) 8 8] 22)).heap.size := by simp
  have s6 : (w5.alloc (.cells #[.slice A3 p c3, .slice (some ⟨w1.heap.size, 0, none⟩) (fillN p) (fillN p), .slice A4 m c4, .slice (some ⟨w2.heap.size, 0, none⟩) (fillN m) (fillN m), .slice (some ⟨w3.heap.size, 0, none⟩) 8 8, .slice (some ⟨w4.heap.size, 0, none⟩) 8 8] 22)).heap.size = w5.heap.size + 1 := by simp
  generalize w5.alloc (.cells #[.slice A3 p c3, .slice (some ⟨w1.heap.size, 0, none⟩) (fillN p) (fillN p), .slice A4 m c4, .slice (some ⟨w2.heap.size, 0, none⟩) (fillN m) (fillN m), .slice (some ⟨w3.heap.size, 0, none⟩) 8 8, .slice (some ⟨w4.heap.size, 0, none⟩) 8 8] 22) = w6 at *
  obtain ⟨PS, hPS⟩ : ∃ PS : List Pt, PS = [⟨A3, p, c3, more⟩, ⟨some ⟨w1.heap.size, 0, none⟩, fillN p, fillN p, List.replicate (fillN p) 0⟩, ⟨A4, m, c4, hidden⟩, ⟨some ⟨w2.heap.size, 0, none⟩, fillN m, fillN m, List.replicate (fillN m) 0⟩, ⟨some ⟨w3.heap.size, 0, none⟩, 8, 8, lowOf (p : Int) 8⟩, ⟨some ⟨w4.heap.size, 0, none⟩, 8, 8, lowOf (m : Int) 8⟩] := ⟨_, rfl⟩
  have hz : ∀ k : Nat, By (List.replicate k 0) := fun k x hx => by obtain rfl := (List.mem_replicate.1 hx).2; omega
  have hps : Pts w6 w5.heap.size PS := by
    subst hPS
    refine ⟨x5, fun i q hq => ?_, fun i q hq => ?_, fun i q hq => ?_⟩
    · have hc := cell_of_row w6 w5.heap.size i _ _ _ n6
      rcases i with _ | _ | _ | _ | _ | _ | i
      · obtain rfl := Option.some.inj hq; exact hc
      · obtain rfl := Option.some.inj hq; exact hc
      · obtain rfl := Option.some.inj hq; exact hc
      · obtain rfl := Option.some.inj hq; exact hc
      · obtain rfl := Option.some.inj hq; exact hc
      · obtain rfl := Option.some.inj hq; exact hc
      · simp at hq
    · rcases i with _ | _ | _ | _ | _ | _ | i
      · obtain rfl := Option.some.inj hq; exact h3.below B6
      · obtain rfl := Option.some.inj hq; exact y2.bsn (hz _) (by simp)
      · obtain rfl := Option.some.inj hq; exact h4.below B6
      · obtain rfl := Option.some.inj hq; exact y3.bsn (hz _) (by simp)
      · obtain rfl := Option.some.inj hq; exact y4.bsn (lowOf_byte _ _) (lowOf_len _ _)
      · obtain rfl := Option.some.inj hq; exact y5.bsn (lowOf_byte _ _) (lowOf_len _ _)
      · simp at hq
    · rcases i with _ | _ | _ | _ | _ | _ | i
      · obtain rfl := Option.some.inj hq; exact hc3
      · obtain rfl := Option.some.inj hq; exact fun e => by cases e
      · obtain rfl := Option.some.inj hq; exact hc4
      · obtain rfl := Option.some.inj hq; exact fun e => by cases e
      · obtain rfl := Option.some.inj hq; exact fun e => by cases e
      · obtain rfl := Option.some.inj hq; exact fun e => by cases e
      · simp at hq
  have hsum : sumN PS = p + (fillN p + (m + (fillN m + 16))) := by subst hPS; simp [sumN]
  have hcat : catL PS = more ++ (List.replicate (fillN p) 0 ++ (hidden ++ (List.replicate (fillN m) 0 ++ (lowOf (p : Int) 8 ++ lowOf (m : Int) 8)))) := by subst hPS; simp [catL]
  have hn6 : PS.length = 6 := by subst hPS; rfl
  have hK32 := (o1.bs.below b6w).part_ 0 32 (by omega)
  rw [Nat.add_zero, List.drop_zero] at hK32
  have Hbe := Hb.out
  rw [← hcat] at Hbe
  have hcl : (catL PS).length = sumN PS := by
    have := catL_len hps PS.length (Nat.le_refl _)
    rwa [List.take_length] at this
  have hs2 : sumN PS ≤ 5000 := by omega
  clear hPS hcat hsum Hb y2 y3 y4 y5 n6 z2 z3 z4 z5 o1 r1 hz
  have HC := Shut.mk hcl
  have HB := Shut.mk Hbe
  clear hcl Hbe
  refine (concat_any w5.heap.size 6 6 PS w6 hps hn6 (by omega) (by omega)).mono ?_
  rintro e w7 ⟨⟨A7, c7, rfl, r7⟩, b7⟩
  have hd7 := (r7.ow' HC.out).bs
  have v7 := r7.cap
  generalize sumN PS = N at *
  generalize catL PS = D at *
  have s7 := b7.size
  go_wp2_with fail
  refine (polyTag_any g1 x1 q1 (K.take 32) A7 N c7 D w7 (hK32.below b7) (by omega) hd7 (by omega) v7).mono ?_
  rintro e w8 ⟨⟨g8, c8, rfl, r8⟩, b8⟩
  go_wp2
  go_ret
  exact ⟨⟨g8, c8, rfl, by rw [HB.out]; exact r8.mono (by omega)⟩, ac (ac B6 b7) b8⟩
end Go.Proofs.YtabhcolfkkfonaaGreatDoor

/-! SealP -/
/- SealBox of the program. -/
namespace Go.Proofs.YtabhcolfkkfonaaGreatDoor
open Go.RowKit

theorem maxN_le {p q : Nat} (h : p ≤ 1000) (h2 : q ≤ 1000) : (maxN p q : Int) ≤ 1000 := by unfold maxN; split <;> omega
theorem maxN_left {p q : Nat} (h : 1000 < p) : (1000 : Int) < (maxN p q : Int) := by unfold maxN; split <;> omega
theorem maxN_right {p q : Nat} (h : 1000 < q) : (1000 : Int) < (maxN p q : Int) := by unfold maxN; split <;> omega
theorem ask_zero_ {n1 : Nat} {k : Int} {n2 : Nat} {s : Int} (h : askOk n1 k n2 = true) (hs : s ≤ 1000) : askCode n1 k n2 s = 0 := by simp [askCode, h, hs]

set_option maxRecDepth 100000 in
set_option maxHeartbeats 2000000 in
theorem implSealBox_any (A : Option Addr) (n1 c1 : Nat) (key : List Int) (A2 : Option Addr) (n2 c2 : Nat) (nonce : List Int) (A3 : Option Addr) (n3 c3 : Nat) (more : List Int) (A4 : Option Addr) (n4 c4 : Nat) (text : List Int) (w : World) (hT : Quar w) (h1 : Bs w A n1 key) (hc1 : n1 ≤ c1) (h2 : Bs w A2 n2 nonce) (hc2 : n2 ≤ c2)
    (h3 : Bs w A3 n3 more) (hn3 : A3 = none → c3 = 0) (h4 : Bs w A4 n4 text) (hc4 : n4 ≤ c4) (hn4 : A4 = none → c4 = 0) :
    Calls Tryz.prog 111 #[.slice A n1 c1, .slice A2 n2 c2, .slice A3 n3 c3, .slice A4 n4 c4] w (SpanAns (askCode n1 0 n2 (maxN n3 n4 : Int)) (okN (askCode n1 0 n2 (maxN n3 n4 : Int)) (n4 + 16)) (okL (askCode n1 0 n2 (maxN n3 n4 : Int)) (sealL key nonce more text)) w) := by
  have hask := fun w => fitsStream_any A n1 c1 0 A2 n2 c2 w
  by_cases hok : askOk n1 0 n2 = true
  · by_cases hm3 : n3 ≤ 1000
    · by_cases hm4 : n4 ≤ 1000
      · have hcd := ask_zero_ hok (maxN_le hm3 hm4)
        generalize askCode n1 0 n2 (maxN n3 n4 : Int) = C at *
        subst hcd
        obtain ⟨rfl, rfl, _⟩ := ask_ok hok
        have Hf : Shut (okN 0 (n4 + 16) = n4 + 16 ∧ okL 0 (sealL key nonce more text) = sealL key nonce more text) := ⟨by simp [okN, okL]⟩
        rw [Hf.out.1, Hf.out.2]
        simp only [hok] at hask
        clear hok
        obtain ⟨b, off, rfl, _⟩ := h1.at_ (by omega)
        obtain ⟨b2, off2, rfl, _⟩ := h2.at_ (by omega)
        have HS : Shut (sealL key nonce more text = streamL key 1 nonce text ++ boxTag key nonce more (streamL key 1 nonce text)) := ⟨rfl⟩
        have LS : Shut ((sealL key nonce more text).length = n4 + 16) := ⟨by rw [sealL_len, h4.len]⟩
        have LH : Shut ((streamL key 1 nonce text).length = n4) := ⟨by rw [streamL_len, h4.len]⟩
        have hst := fun (W : World) (hW : Below w.heap.size w W) => streamed_any b off c1 b2 off2 c2 A4 n4 c4 key nonce text 1 W (hT.keep hW) (h1.below hW) hc1 (h2.below hW) hc2 (h4.below hW) hc4 hn4 (by omega) (by omega)
        have i3 : ¬ (1000 : Int) < (n3 : Int) := by omega
        have i4 : ¬ (1000 : Int) < (n4 : Int) := by omega
        generalize sealL key nonce more text = F at *
        generalize streamL key 1 nonce text = H at *
        go_enter Tryz.func111, Tryz.ntmps111
        go_wp2_with fail
        refine (hask _).mono ?_
        rintro e w' ⟨rfl, rfl⟩
        clear hask
        go_wp2_with fail
        refine (hst _ (ab (Below.refl _ w) _)).mono ?_
        clear hst
        rintro e w1 ⟨⟨A5, c5, rfl, hr1⟩, hb1⟩
        have hs1 := hb1.size
        have t1 := (Two.new w 46 (.int .i64 0) (.slice none 0 0)).below hb1 (by simp)
        have hbw := ac (ab (Below.refl _ w) (.cells #[.int .i64 0, .slice none 0 0] 46)) hb1
        rw [World.size_alloc] at hs1 hr1
        have hcap := hr1.nilcap
        have LT : Shut ((boxTag key nonce more H).length = 16) := ⟨boxTag_len _ _ _ _⟩
        have htg := boxTag_any b off c1 b2 off2 c2 key nonce A3 n3 c3 more A5 n4 c5 H w1 (hT.keep hbw) (h1.below hbw) hc1 (h2.below hbw) hc2 (h3.below hbw) hn3 (by omega) (hr1.ow' LH.out).bs hcap (by omega)
        generalize boxTag key nonce more H = T at *
        go_wp2_with fail
        refine htg.mono ?_
        clear htg
        rintro e w2 ⟨⟨g6, c6, rfl, hr2⟩, hb2⟩
        have hs2 := hb2.size
        have row2 := hr1.keep (w' := w2) (fun g _ h2 => hb2.block g h2)
        have B2 := ac hbw hb2
        have t2 := t1.below hb2 (by omega)
        have how2 := hr2.ow' LT.out
        clear hr1 hb2 hr2
        go_wp2_with (at_builtin; refine wpList_row_join rfl _ _ rfl _ (w.heap.size + 1) (.slice A5 n4 c5) _ _ rfl row2 (by omega) (some ⟨g6, 0, none⟩) 16 c6 rfl how2.bs (fun e => by cases e) (by rw [LH.out]; omega) ?_; rw [← HS.out]; intro v3 w3 hr3 hb3 hs3; obtain ⟨A7, c7, rfl, _⟩ := hr3.ow LS.out; have t3 := t2.below hb3 (by omega); obtain ⟨x0, x1, x2, x3⟩ := t3.cells)
        have how := hr3.ow' LS.out
        have hcap3 := hr3.cap
        have hnil3 := hr3.nilcap
        refine bodyPost_ret (v := .agg #[.int .i64 0, .slice A7 (n4 + 16) c7]) (by simp [results, Tryz.results111, go_sem, x0, x1]) rfl ?_
        refine ⟨⟨A7, c7, rfl, ((how.far (p := ⟨w.heap.size, 0, none⟩) (by simp) _).far (p := ⟨w.heap.size, 1, none⟩) (by simp) _).mono (by omega), hcap3, hnil3⟩, ?_⟩
        exact ((B2.trans (hb3.mono (by omega))).setCell (by simp) _).setCell (by simp) _
      · have hcd := ask_two hok (maxN_right (p := n3) (by omega : 1000 < n4))
        generalize askCode n1 0 n2 (maxN n3 n4 : Int) = C at *
        subst hcd
        have Hf : Shut (okN 2 (n4 + 16) = 0 ∧ okL 2 (sealL key nonce more text) = []) := ⟨by simp [okN, okL]⟩
        rw [Hf.out.1, Hf.out.2]
        simp only [hok] at hask
        clear hok
        have i3 : ¬ (1000 : Int) < (n3 : Int) := by omega
        have i4 : (1000 : Int) < (n4 : Int) := by omega
        go_enter Tryz.func111, Tryz.ntmps111
        go_wp2_with fail
        refine (hask _).mono ?_
        rintro e w' ⟨rfl, rfl⟩
        go_wp2
        go_returns
        exact ⟨⟨none, 0, rfl, Ow.nil_ _ _, Nat.le_refl _, fun _ => rfl⟩, by go_grown⟩
    · have hcd := ask_two hok (maxN_left (q := n4) (by omega : 1000 < n3))
      generalize askCode n1 0 n2 (maxN n3 n4 : Int) = C at *
      subst hcd
      have Hf : Shut (okN 2 (n4 + 16) = 0 ∧ okL 2 (sealL key nonce more text) = []) := ⟨by simp [okN, okL]⟩
      rw [Hf.out.1, Hf.out.2]
      simp only [hok] at hask
      clear hok
      have i3 : (1000 : Int) < (n3 : Int) := by omega
      go_enter Tryz.func111, Tryz.ntmps111
      go_wp2_with fail
      refine (hask _).mono ?_
      rintro e w' ⟨rfl, rfl⟩
      go_wp2
      go_returns
      exact ⟨⟨none, 0, rfl, Ow.nil_ _ _, Nat.le_refl _, fun _ => rfl⟩, by go_grown⟩
  · have hf := Bool.eq_false_iff.2 hok
    have hcd := ask_three hf (maxN n3 n4 : Int)
    generalize askCode n1 0 n2 (maxN n3 n4 : Int) = C at *
    subst hcd
    have Hf : Shut (okN 3 (n4 + 16) = 0 ∧ okL 3 (sealL key nonce more text) = []) := ⟨by simp [okN, okL]⟩
    rw [Hf.out.1, Hf.out.2]
    simp only [hf] at hask
    clear hok hf
    go_enter Tryz.func111, Tryz.ntmps111
    go_wp2_with fail
    refine (hask _).mono ?_
    rintro e w' ⟨rfl, rfl⟩
    go_wp2
    go_returns
    exact ⟨⟨none, 0, rfl, Ow.nil_ _ _, Nat.le_refl _, fun _ => rfl⟩, by go_grown⟩
end Go.Proofs.YtabhcolfkkfonaaGreatDoor
