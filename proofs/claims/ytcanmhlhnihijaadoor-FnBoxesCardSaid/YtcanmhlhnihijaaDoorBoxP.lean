/- The tag of a box, of the program. -/
import Derived.Test.YtcanmhlhnihijaaDoorTopP
import Derived.Test.YtcanmhlhnihijaaDoorBlkP
import Derived.Test.YtcanmhlhnihijaaDoorJoinP
import Derived.Test.YtcanmhlhnihijaaDoorSealC
namespace Go.Proofs.YtcanmhlhnihijaaDoor
open Go.RowKit

theorem lowOf_eight (p : Nat) (hp : p ≤ 100000) : lowOf (p : Int) 8 = lowOf (p : Int) 7 ++ [0] := by
  rw [lowOf_succ]
  congr 1
  congr 1
  have : (p : Int) / 256 ^ 7 = 0 := (lowOf_lt _ 7 (by omega)).2 (by omega)
  rw [this]
  rfl
theorem tagD_parts (more hidden : List Int) (p m : Nat) (hp : more.length = p) (hm : hidden.length = m) (hp2 : p ≤ 100000) (hm2 : m ≤ 100000) :
    tagD more hidden = more ++ (List.replicate (fillN p) 0 ++ (hidden ++ (List.replicate (fillN m) 0 ++ (lowOf (p : Int) 8 ++ lowOf (m : Int) 8)))) := by
  unfold tagD tagB tagA
  rw [lowOf_eight p hp2, lowOf_eight m hm2, hp, hm]
  have e1 : fillL (fillL more ++ hidden) = more ++ (List.replicate (fillN p) 0 ++ (hidden ++ List.replicate (fillN m) 0)) := by
    have e2 : (fillL more ++ hidden).length = p + fillN p + m := by rw [List.length_append, fillL_len, hp, hm]
    have e3 : fillN (p + fillN p + m) = fillN m := by unfold fillN; omega
    unfold fillL at e2 ⊢
    rw [e2, e3, hp]
    simp [List.append_assoc]
  rw [e1]
  simp [List.append_assoc]

theorem zerosBehind_any (A : Option Addr) (n c : Nat) (w : World) (hn : n ≤ 100000) :
    Calls Tryd.prog 66 #[.slice A n c] w fun e w' => e = .returned (.slice (some ⟨w.heap.size, 0, none⟩) (fillN n) (fillN n)) ∧ Blk w' w.heap.size (List.replicate (fillN n) 0) ∧ Below w.heap.size w w' := by
  have hf : fillN n = (16 - n % 16) % 16 := rfl
  have hmk := run_make_bytes (fillN n) (by omega)
  have e0 : (n : Int) % 16 = ((n % 16 : Nat) : Int) := by omega
  have e3 : ((16 : Int) - ((n : Int) % 16)) % 16 = (fillN n : Int) := by omega
  clear e0 hf
  generalize fillN n = N at *
  go_enter Tryd.func66, Tryd.ntmps66
  go_wp2
  go_ret
  exact ⟨rfl, by simpa using Blk.made w (List.replicate N 0), ab (Below.refl _ _) _⟩

set_option maxHeartbeats 2000000 in
theorem boxTag_any (b off c b2 off2 c2 : Nat) (key nonce : List Int) (A3 : Option Addr) (p c3 : Nat) (more : List Int) (A4 : Option Addr) (m c4 : Nat) (hidden : List Int) (w : World) (hT : Quar w) (hk : Bs w (some ⟨b, off, none⟩) 32 key) (hc : 32 ≤ c) (hno : Bs w (some ⟨b2, off2, none⟩) 12 nonce) (hc2 : 12 ≤ c2)
    (h3 : Bs w A3 p more) (hc3 : A3 = none → c3 = 0) (hp : p ≤ 2000) (h4 : Bs w A4 m hidden) (hc4 : A4 = none → c4 = 0) (hm : m ≤ 2000) :
    Calls Tryd.prog 44 #[.slice (some ⟨b, off, none⟩) 32 c, .slice (some ⟨b2, off2, none⟩) 12 c2, .slice A3 p c3, .slice A4 m c4] w fun e w' => (∃ g c', e = .returned (.slice (some ⟨g, 0, none⟩) 16 c') ∧ Row w' w.heap.size (.slice (some ⟨g, 0, none⟩) 16 c') (boxTag key nonce more hidden)) ∧ Below w.heap.size w w' := by
  have Hs := Shut.mk (fun (W : World) (hW : Below w.heap.size w W) => streamBlock_any b off c b2 off2 c2 key nonce 0 W (hT.keep hW) (hk.below hW) hc (hno.below hW) hc2 ⟨by omega, by omega⟩)
  have Lk := Shut.mk (keyBlock_len key 0 nonce)
  have Hb : Shut (boxTag key nonce more hidden = polyTag ((keyBlock key 0 nonce).take 32) (more ++ (List.replicate (fillN p) 0 ++ (hidden ++ (List.replicate (fillN m) 0 ++ (lowOf (p : Int) 8 ++ lowOf (m : Int) 8)))))) := ⟨by
    unfold boxTag
    rw [tagD_parts more hidden p m h3.len h4.len (by omega) (by omega)]⟩
  have f3 : fillN p ≤ 15 := by unfold fillN; omega
  have f4 : fillN m ≤ 15 := by unfold fillN; omega
  generalize boxTag key nonce more hidden = T at *
  generalize keyBlock key 0 nonce = K at *
  go_enter Tryd.func44, Tryd.ntmps44
  go_wp2_with fail
  refine (Hs.out _ (Below.refl _ _)).mono ?_
  rintro e w1 ⟨⟨A1, q1, rfl, r1⟩, b1⟩
  have o1 := r1.ow' Lk.out
  have v1 := r1.cap
  obtain ⟨g1, x1, rfl, _⟩ := o1.bs.at_ (by omega)
  go_wp2_with fail
  refine (zerosBehind_any A3 p c3 _ (by omega)).mono ?_
  rintro e w2 ⟨rfl, z2, b2'⟩
  go_wp2_with fail
  refine (zerosBehind_any A4 m c4 _ (by omega)).mono ?_
  rintro e w3 ⟨rfl, z3, b3'⟩
  go_wp2_with fail
  refine (spreadLow_any (p : Int) 8 _ (by omega)).mono ?_
  rintro e w4 ⟨rfl, z4, b4'⟩
  go_wp2_with fail
  refine (spreadLow_any (m : Int) 8 _ (by omega)).mono ?_
  rintro e w5 ⟨rfl, z5, b5'⟩
  go_wp2_with fail
  have B1 := b1
  have s1 := b1.size
  have s2 := b2'.size
  have s3 := b3'.size
  have s4 := b4'.size
  have s5 := b5'.size
  have B2 := ac B1 b2'
  have B3 := ac B2 b3'
  have B4 := ac B3 b4'
  have B5 := ac B4 b5'
  have t2 := z2.lt
  have t3 := z3.lt
  have t4 := z4.lt
  have y2 := (((z2.below b3' t2).below b4' (by omega)).below b5' (by omega)).alloc (.cells #[.slice A3 p c3, .slice (some ⟨w1.heap.size, 0, none⟩) (fillN p) (fillN p), .slice A4 m c4, .slice (some ⟨w2.heap.size, 0, none⟩) (fillN m) (fillN m), .slice (some ⟨w3.heap.size, 0, none⟩) 8 8, .slice (some ⟨w4.heap.size, 0, none⟩) 8 8] 22)
  have y3 := ((z3.below b4' t3).below b5' (by omega)).alloc (.cells #[.slice A3 p c3, .slice (some ⟨w1.heap.size, 0, none⟩) (fillN p) (fillN p), .slice A4 m c4, .slice (some ⟨w2.heap.size, 0, none⟩) (fillN m) (fillN m), .slice (some ⟨w3.heap.size, 0, none⟩) 8 8, .slice (some ⟨w4.heap.size, 0, none⟩) 8 8] 22)
  have y4 := (z4.below b5' t4).alloc (.cells #[.slice A3 p c3, .slice (some ⟨w1.heap.size, 0, none⟩) (fillN p) (fillN p), .slice A4 m c4, .slice (some ⟨w2.heap.size, 0, none⟩) (fillN m) (fillN m), .slice (some ⟨w3.heap.size, 0, none⟩) 8 8, .slice (some ⟨w4.heap.size, 0, none⟩) 8 8] 22)
  have y5 := z5.alloc (.cells #[.slice A3 p c3, .slice (some ⟨w1.heap.size, 0, none⟩) (fillN p) (fillN p), .slice A4 m c4, .slice (some ⟨w2.heap.size, 0, none⟩) (fillN m) (fillN m), .slice (some ⟨w3.heap.size, 0, none⟩) 8 8, .slice (some ⟨w4.heap.size, 0, none⟩) 8 8] 22)
  have B6 := ab B5 (.cells #[.slice A3 p c3, .slice (some ⟨w1.heap.size, 0, none⟩) (fillN p) (fillN p), .slice A4 m c4, .slice (some ⟨w2.heap.size, 0, none⟩) (fillN m) (fillN m), .slice (some ⟨w3.heap.size, 0, none⟩) 8 8, .slice (some ⟨w4.heap.size, 0, none⟩) 8 8] 22)
  have n6 := heap_alloc_new w5 (.cells #[.slice A3 p c3, .slice (some ⟨w1.heap.size, 0, none⟩) (fillN p) (fillN p), .slice A4 m c4, .slice (some ⟨w2.heap.size, 0, none⟩) (fillN m) (fillN m), .slice (some ⟨w3.heap.size, 0, none⟩) 8 8, .slice (some ⟨w4.heap.size, 0, none⟩) 8 8] 22)
  have b6w := ab (ac (ac (ac (ac (Below.refl _ w1) b2') b3') b4') b5') (.cells #[.slice A3 p c3, .slice (some ⟨w1.heap.size, 0, none⟩) (fillN p) (fillN p), .slice A4 m c4, .slice (some ⟨w2.heap.size, 0, none⟩) (fillN m) (fillN m), .slice (some ⟨w3.heap.size, 0, none⟩) 8 8, .slice (some ⟨w4.heap.size, 0, none⟩) 8 8] 22)
  have x5 : w5.heap.size < (w5.alloc (.cells #[.slice A3 p c3, .slice (some ⟨w1.heap.size, 0, none⟩) (fillN p) (fillN p), .slice A4 m c4, .slice (some ⟨w2.heap.size, 0, none⟩) (fillN m) (fillN m), .slice (some ⟨w3.heap.size, 0, none⟩) 8 8, .slice (some ⟨w4.heap.size, 0, none⟩) 8 8] 22)).heap.size := by simp
  have s6 : (w5.alloc (.cells #[.slice A3 p c3, .slice (some ⟨w1.heap.size, 0, none⟩) (fillN p) (fillN p), .slice A4 m c4, .slice (some ⟨w2.heap.size, 0, none⟩) (fillN m) (fillN m), .slice (some ⟨w3.heap.size, 0, none⟩) 8 8, .slice (some ⟨w4.heap.size, 0, none⟩) 8 8] 22)).heap.size = w5.heap.size + 1 := by simp
  generalize w5.alloc (.cells #[.slice A3 p c3, .slice (some ⟨w1.heap.size, 0, none⟩) (fillN p) (fillN p), .slice A4 m c4, .slice (some ⟨w2.heap.size, 0, none⟩) (fillN m) (fillN m), .slice (some ⟨w3.heap.size, 0, none⟩) 8 8, .slice (some ⟨w4.heap.size, 0, none⟩) 8 8] 22) = w6 at *
  obtain ⟨PS, hPS⟩ : ∃ PS : List Pt, PS = [⟨A3, p, c3, more⟩, ⟨some ⟨w1.heap.size, 0, none⟩, fillN p, fillN p, List.replicate (fillN p) 0⟩, ⟨A4, m, c4, hidden⟩, ⟨some ⟨w2.heap.size, 0, none⟩, fillN m, fillN m, List.replicate (fillN m) 0⟩, ⟨some ⟨w3.heap.size, 0, none⟩, 8, 8, lowOf (p : Int) 8⟩, ⟨some ⟨w4.heap.size, 0, none⟩, 8, 8, lowOf (m : Int) 8⟩] := ⟨_, rfl⟩
  have hz : ∀ k : Nat, By (List.replicate k 0) := fun k x hx => by obtain rfl := (List.mem_replicate.1 hx).2; omega
  have hps : Pts w6 w5.heap.size PS := by
    subst hPS
    refine ⟨x5, fun i q hq => ?_, fun i q hq => ?_, fun i q hq => ?_⟩
    · have hc := cell_of_row w6 w5.heap.size i _ _ _ n6
      rcases i with _ | _ | _ | _ | _ | _ | i
      · obtain rfl := Option.some.inj hq; exact hc
      · obtain rfl := Option.some.inj hq; exact hc
      · obtain rfl := Option.some.inj hq; exact hc
      · obtain rfl := Option.some.inj hq; exact hc
      · obtain rfl := Option.some.inj hq; exact hc
      · obtain rfl := Option.some.inj hq; exact hc
      · simp at hq
    · rcases i with _ | _ | _ | _ | _ | _ | i
      · obtain rfl := Option.some.inj hq; exact h3.below B6
      · obtain rfl := Option.some.inj hq; exact y2.bsn (hz _) (by simp)
      · obtain rfl := Option.some.inj hq; exact h4.below B6
      · obtain rfl := Option.some.inj hq; exact y3.bsn (hz _) (by simp)
      · obtain rfl := Option.some.inj hq; exact y4.bsn (lowOf_byte _ _) (lowOf_len _ _)
      · obtain rfl := Option.some.inj hq; exact y5.bsn (lowOf_byte _ _) (lowOf_len _ _)
      · simp at hq
    · rcases i with _ | _ | _ | _ | _ | _ | i
      · obtain rfl := Option.some.inj hq; exact hc3
      · obtain rfl := Option.some.inj hq; exact fun e => by cases e
      · obtain rfl := Option.some.inj hq; exact hc4
      · obtain rfl := Option.some.inj hq; exact fun e => by cases e
      · obtain rfl := Option.some.inj hq; exact fun e => by cases e
      · obtain rfl := Option.some.inj hq; exact fun e => by cases e
      · simp at hq
  have hsum : sumN PS = p + (fillN p + (m + (fillN m + 16))) := by subst hPS; simp [sumN]
  have hcat : catL PS = more ++ (List.replicate (fillN p) 0 ++ (hidden ++ (List.replicate (fillN m) 0 ++ (lowOf (p : Int) 8 ++ lowOf (m : Int) 8)))) := by subst hPS; simp [catL]
  have hn6 : PS.length = 6 := by subst hPS; rfl
  have hK32 := (o1.bs.below b6w).part_ 0 32 (by omega)
  rw [Nat.add_zero, List.drop_zero] at hK32
  have Hbe := Hb.out
  rw [← hcat] at Hbe
  have hcl : (catL PS).length = sumN PS := by
    have := catL_len hps PS.length (Nat.le_refl _)
    rwa [List.take_length] at this
  have hs2 : sumN PS ≤ 5000 := by omega
  clear hPS hcat hsum Hb y2 y3 y4 y5 n6 z2 z3 z4 z5 o1 r1 hz
  have HC := Shut.mk hcl
  have HB := Shut.mk Hbe
  clear hcl Hbe
  refine (concat_any w5.heap.size 6 6 PS w6 hps hn6 (by omega) (by omega)).mono ?_
  rintro e w7 ⟨⟨A7, c7, rfl, r7⟩, b7⟩
  have hd7 := (r7.ow' HC.out).bs
  have v7 := r7.cap
  generalize sumN PS = N at *
  generalize catL PS = D at *
  have s7 := b7.size
  go_wp2_with fail
  refine (polyTag_any g1 x1 q1 (K.take 32) A7 N c7 D w7 (hK32.below b7) (by omega) hd7 (by omega) v7).mono ?_
  rintro e w8 ⟨⟨g8, c8, rfl, r8⟩, b8⟩
  go_wp2
  go_ret
  exact ⟨⟨g8, c8, rfl, by rw [HB.out]; exact r8.mono (by omega)⟩, ac (ac B6 b7) b8⟩
end Go.Proofs.YtcanmhlhnihijaaDoor
