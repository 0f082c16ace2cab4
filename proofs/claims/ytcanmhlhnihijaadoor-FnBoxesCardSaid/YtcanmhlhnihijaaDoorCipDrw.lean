import Derived.Test.YtcanmhlhnihijaaDoorCipFnD
import Derived.Test.YtcanmhlhnihijaaDoorBase
import Derived.Test.YtcanmhlhnihijaaDoorSealC
import Derived.Deep.RegionLaw

/-! StreamsM -/
/- What is hidden twice is as it was; a stream goes on; what is sealed is opened: plain mathematics over the model's lists. -/
namespace Go.Proofs.YtcanmhlhnihijaaDoor
open Go.RowKit

theorem mixBytes_byte (R S : List Int) (i : Nat) : By (mixBytes R S i) := by
  induction i with
  | zero => exact By.nil
  | succ i ih => exact ih.append (lowOf_byte _ _)
theorem keyBlock_byte (key : List Int) (n : Int) (nonce : List Int) : By (keyBlock key n nonce) := mixBytes_byte _ _ _
theorem keyStream_byte (key : List Int) (n : Int) (nonce : List Int) (m : Nat) : By (keyStream key n nonce m) := fun x hx => by
  obtain ⟨j, _, rfl⟩ := List.mem_map.1 hx
  exact (keyBlock_byte key _ nonce).get _
theorem streamL_byte (key : List Int) (n : Int) (nonce data : List Int) (h : By data) : By (streamL key n nonce data) := xorL_byte _ _ h (keyStream_byte _ _ _ _)
theorem xorB_twice (x y : Int) (hx0 : 0 ≤ x) (hx1 : x < 256) (hy0 : 0 ≤ y) (hy1 : y < 256) : xorB (xorB x y) y = x := by
  have hb := xorB_bd x y hx0 hx1 hy0 hy1
  have e : xorB x y = ((x.toNat ^^^ y.toNat : Nat) : Int) := u8_xor x y hx0 hx1 hy0 hy1
  unfold xorB at hb ⊢
  rw [u8_xor _ y hb.1 hb.2 hy0 hy1]
  have e' : bits BinOp.xor IntKind.u8 x y = ((x.toNat ^^^ y.toNat : Nat) : Int) := e
  rw [e', Int.toNat_natCast, Nat.xor_assoc, Nat.xor_self, Nat.xor_zero]
  omega
theorem xorB_zero (y : Int) (hy0 : 0 ≤ y) (hy1 : y < 256) : xorB 0 y = y := by
  unfold xorB
  rw [u8_xor 0 y (by omega) (by omega) hy0 hy1]
  rw [show (0 : Int).toNat = 0 from rfl, Nat.zero_xor]
  omega
theorem xorL_twice (l r : List Int) (hl : By l) (hr : By r) (h : l.length = r.length) : xorL (xorL l r) r = l := by
  apply List.ext_getElem
  · rw [xorL_len _ _ (by rw [xorL_len l r h]; exact h), xorL_len l r h]
  · intro i h1 h2
    have e1 : (xorL (xorL l r) r)[i] = xorB (xorB l[i] (r[i]'(by omega))) (r[i]'(by omega)) := by simp [xorL]
    rw [e1]
    have b1 := hl _ (List.getElem_mem h2)
    have b2 := hr _ (List.getElem_mem (l := r) (n := i) (by omega))
    exact xorB_twice _ _ b1.1 b1.2 b2.1 b2.2
theorem stream_twice (key : List Int) (n : Int) (nonce data : List Int) (h : By data) : streamL key n nonce (streamL key n nonce data) = data := by
  have hl := streamL_len key n nonce data
  unfold streamL at hl ⊢
  rw [hl]
  exact xorL_twice _ _ h (keyStream_byte _ _ _ _) (keyStream_len _ _ _ _).symm
theorem getD_at (l : List Int) (j : Nat) (hj : j < l.length) : l[j] = l.getD j 0 := by simp [List.getD, List.getElem?_eq_getElem hj]
theorem stream_zeros (key : List Int) (n : Int) (nonce Z : List Int) (hl : Z.length = 64) (hz : ∀ i, Z.getD i 0 = 0) : streamL key n nonce Z = keyBlock key n nonce := by
  apply List.ext_getElem
  · rw [streamL_len, keyBlock_len, hl]
  · intro i h1 h2
    have h3 := h2
    rw [keyBlock_len] at h3
    have e2 := streamL_get key n nonce Z 0 i h3 (by omega)
    rw [Nat.mul_zero, Nat.zero_add, hz, show n + ((0 : Nat) : Int) = n by simp] at e2
    have hb := (keyBlock_byte key n nonce).get i
    rw [xorB_zero _ hb.1 hb.2] at e2
    rw [getD_at _ _ h1, getD_at _ _ h2, e2]
theorem stream_zero (key : List Int) (n : Int) (nonce : List Int) : streamL key n nonce (List.replicate 64 0) = keyBlock key n nonce :=
  stream_zeros key n nonce _ (List.length_replicate ..) (fun i => by rw [List.getD, List.getElem?_replicate]; split <;> rfl)
theorem stream_on (key : List Int) (n : Int) (nonce data : List Int) (h : 64 ≤ data.length) : (streamL key n nonce data).drop 64 = streamL key (n + 1) nonce (data.drop 64) := by
  have hd : (data.drop 64).length = data.length - 64 := by rw [List.length_drop]
  apply List.ext_getElem
  · rw [List.length_drop, streamL_len, streamL_len, hd]
  · intro i h1 h2
    rw [List.length_drop, streamL_len] at h1
    have hi : i = 64 * (i / 64) + i % 64 := by omega
    have hm : i % 64 < 64 := by omega
    have g1 := streamL_get key n nonce data (i / 64 + 1) (i % 64) hm (by omega)
    have g2 := streamL_get key (n + 1) nonce (data.drop 64) (i / 64) (i % 64) hm (by omega)
    rw [show 64 * (i / 64 + 1) + i % 64 = 64 + i by omega] at g1
    rw [show 64 * (i / 64) + i % 64 = i by omega] at g2
    have e0 : ∀ (l : List Int) (j : Nat) (hj : j < l.length), l[j] = l.getD j 0 := fun l j hj => by simp [List.getD, List.getElem?_eq_getElem hj]
    have e1 : ((streamL key n nonce data).drop 64)[i]'(by rw [List.length_drop, streamL_len]; omega) = (streamL key n nonce data).getD (64 + i) 0 := by
      rw [List.getElem_drop, e0]
    rw [e1, e0, g1, g2]
    rw [show (data.drop 64).getD i 0 = data.getD (64 + i) 0 from by simp [List.getD, List.getElem?_drop]]
    rw [show n + ((i / 64 + 1 : Nat) : Int) = n + 1 + ((i / 64 : Nat) : Int) by omega]
theorem seal_take (key nonce more text : List Int) : (sealL key nonce more text).take text.length = streamL key 1 nonce text := by
  unfold sealL
  rw [List.take_left' (streamL_len _ _ _ _)]
theorem seal_drop (key nonce more text : List Int) : (sealL key nonce more text).drop text.length = boxTag key nonce more (streamL key 1 nonce text) := by
  unfold sealL
  rw [List.drop_left' (streamL_len _ _ _ _)]
/-- what is sealed is opened -/
theorem open_seal (key nonce more text : List Int) (h : By text) : openCode 0 key nonce more (sealL key nonce more text) = 0 ∧ openL key nonce (sealL key nonce more text) = text := by
  have e : (sealL key nonce more text).length - 16 = text.length := by rw [sealL_len]; omega
  unfold openCode openL
  rw [e, seal_take, seal_drop, if_pos rfl, if_neg (by rw [sealL_len]; omega), if_pos rfl]
  exact ⟨rfl, stream_twice key 1 nonce text h⟩
/-- what is opened is what was sealed -/
theorem seal_open (key nonce more box : List Int) (h : By box) (ho : openCode 0 key nonce more box = 0) : 16 ≤ box.length ∧ sealL key nonce more (openL key nonce box) = box := by
  unfold openCode at ho
  rw [if_pos rfl] at ho
  split at ho
  · omega
  · split at ho
    · rename_i h1 h2
      refine ⟨by omega, ?_⟩
      unfold sealL openL
      rw [stream_twice key 1 nonce _ (fun x hx => h x (List.mem_of_mem_take hx)), h2, List.take_append_drop]
    · omega
end Go.Proofs.YtcanmhlhnihijaaDoor

/-! CipDraw -/
/- The draws of chapter 3: keys, nonces, data. -/
namespace Go.Proofs.YtcanmhlhnihijaaDoor
open Go.RowKit

/-- a byte of a row written over -/
theorem Row.set_ {w : World} {B g n c : Nat} {l : List Int} (h : Row w B (.slice (some ⟨g, 0, none⟩) n c) l) (i : Nat) {x : Int} (h0 : 0 ≤ x) (h1 : x < 256) :
    Row (w.setCell ⟨g, i, none⟩ (.int .u8 x)) B (.slice (some ⟨g, 0, none⟩) n c) (l.set i x) := by
  refine ⟨fun y hy => ?_, ?_⟩
  · rcases List.mem_or_eq_of_mem_set hy with h2 | rfl
    · exact h.byte y h2
    · exact ⟨h0, h1⟩
  rcases h.own.2 with ⟨e, _⟩ | ⟨g', cap, cur, e, hB, hg, h3, h4, h5, h6⟩
  · injection e with e1; cases e1
  · injection e with e1 e2 e3
    injection e1 with e1
    injection e1 with e1
    subst e1 e2 e3
    refine ⟨by simp, .inr ⟨g, c, cur.setIfInBounds i (.int .u8 x), by rw [List.length_set], hB, ?_, by rw [List.length_set]; exact h3, h4, by simpa using h5, ?_⟩⟩
    · simp [World.setCell, Array.getElem?_modify, hg]
    · rw [Nat.mul_one] at h6 ⊢
      rw [List.length_set, Array.toList_setIfInBounds, List.take_set, h6, List.map_set]

def noncePick : List Int := [11, 13]
theorem noncePick_bd : ∀ x ∈ noncePick, 0 ≤ x ∧ x ≤ 13 := by decide

theorem l3Nonce_any (p k c : Nat) (A : Option Addr) (at_ : Nat) (w : World) (hat : at_ ≤ 99000) (l : List Int) (hkm : k ≤ 1048576) (h : Src w p A k c l at_) :
    Calls Tryd.prog 35 #[.pointer (some ⟨p, 0, none⟩)] w fun e w' => (∃ A' c' n r, e = .returned (.slice A' n c') ∧ Row w' w.heap.size (.slice A' n c') r ∧ r.length = n ∧ n ≤ 13) ∧ (∃ q, Src w' p A k c l q ∧ q ≤ at_ + 20) ∧ But p w.heap.size w w' := by
  have hp := h.lt
  go_enter Tryd.func35, Tryd.ntmps35
  go_wp2_with fail
  refine (chance_any p k c A at_ 14 _ (by omega) (by omega) (by omega) l hkm h).mono ?_
  rintro e w3 ⟨⟨v, rfl⟩, s3, b3, z3⟩
  have B3 : But p w.heap.size w w3 := b3 w.heap.size
  have z3' : w.heap.size ≤ w3.heap.size := by omega
  clear z3 b3
  cases v
  · go_wp2_with fail
    refine (some_any p k c A (at_ + 1) 12 _ (by omega) l hkm s3).mono ?_
    rintro e w4 ⟨⟨A4, c4, r4, rfl, row4, hr4⟩, s4, b4⟩
    have B4 := B3.trans (b4.mono (by omega))
    have row4' := row4.mono (show w.heap.size ≤ w3.heap.size by omega)
    have Hr4 := Lib.hid hr4
    clear hr4 row4
    go_wp2
    go_ret
    exact ⟨⟨A4, c4, 12, r4, rfl, row4', Hr4.out, by omega⟩, ⟨_, s4, by omega⟩, B4⟩
  · go_wp2_with fail
    refine (pick_any p k c A (at_ + 1) w3.heap.size 2 2 noncePick _ (by omega) (by omega) (by omega) l hkm (s3.but (ab (Below.refl _ _) _) (Nat.le_refl _)) rfl (by omega) (ints_cells w3 noncePick _ _ rfl)).mono ?_
    rintro e w4 ⟨⟨y, hy, rfl⟩, s4, b4, z4⟩
    have z4' : w3.heap.size < w4.heap.size := by rw [z4]; simp
    have B4 : But p w.heap.size w w4 := B3.trans ((But.of_below (ab (Below.refl _ w3) _)).trans (b4 w3.heap.size) |>.mono (by omega))
    obtain ⟨hy0, hy1⟩ := noncePick_bd y hy
    obtain ⟨m', rfl⟩ := Int.eq_ofNat_of_zero_le hy0
    clear z4 hy b4
    go_wp2_with fail
    refine (some_any p k c A (at_ + 1 + 1) m' _ (by omega) l hkm s4).mono ?_
    rintro e w5 ⟨⟨A5, c5, r5, rfl, row5, hr5⟩, s5, b5⟩
    have B5 := B4.trans (b5.mono (by omega))
    have row5' := row5.mono (show w.heap.size ≤ w4.heap.size by omega)
    have Hr5 := Lib.hid hr5
    clear hr5 row5
    go_wp2
    go_ret
    exact ⟨⟨A5, c5, m', r5, rfl, row5', Hr5.out, by omega⟩, ⟨_, s5, by omega⟩, B5⟩

def keyPick : List Int := [31, 33, 0]
theorem keyPick_bd : ∀ x ∈ keyPick, 0 ≤ x ∧ x ≤ 33 := by decide

set_option maxHeartbeats 1000000 in
theorem l3Key_any (p k c : Nat) (A : Option Addr) (at_ : Nat) (w : World) (hat : at_ ≤ 99000) (l : List Int) (hkm : k ≤ 1048576) (h : Src w p A k c l at_) :
    Calls Tryd.prog 34 #[.pointer (some ⟨p, 0, none⟩)] w fun e w' => (∃ A' c' n r, e = .returned (.slice A' n c') ∧ Row w' w.heap.size (.slice A' n c') r ∧ r.length = n ∧ n ≤ 33) ∧ (∃ q, Src w' p A k c l q ∧ q ≤ at_ + 40) ∧ But p w.heap.size w w' := by
  have hp := h.lt
  go_enter Tryd.func34, Tryd.ntmps34
  go_wp2_with fail
  refine (chance_any p k c A at_ 14 _ (by omega) (by omega) (by omega) l hkm h).mono ?_
  rintro e w3 ⟨⟨v, rfl⟩, s3, b3, z3⟩
  have B3 : But p w.heap.size w w3 := b3 w.heap.size
  have z3' : w.heap.size ≤ w3.heap.size := by omega
  clear z3 b3
  cases v
  · go_wp2_with fail
    refine (some_any p k c A (at_ + 1) 32 _ (by omega) l hkm s3).mono ?_
    rintro e w4 ⟨⟨A4, c4, r4, rfl, row4, hr4⟩, s4, b4⟩
    have B4 := B3.trans (b4.mono (by omega))
    have row4' := row4.mono (show w.heap.size ≤ w3.heap.size by omega)
    have z4 := b4.size
    have Hr4 := Lib.hid hr4
    clear hr4 row4 b4
    go_wp2_with fail
    refine (chance_any p k c A (at_ + 1 + 32) 9 _ (by omega) (by omega) (by omega) l hkm s4).mono ?_
    rintro e w5 ⟨⟨v, rfl⟩, s5, b5, z5⟩
    have B5 : But p w.heap.size w w5 := B4.trans ((b5 w4.heap.size).mono (by omega))
    have row5 := row4'.keep (w' := w5) (fun g h1 h2 => (b5 w4.heap.size).block g h2 (by omega))
    clear b5 row4' s4
    cases v
    · go_wp2
      go_ret
      exact ⟨⟨A4, c4, 32, r4, rfl, row5, Hr4.out, by omega⟩, ⟨_, s5, by omega⟩, B5⟩
    · obtain ⟨g, rfl, hgB, hgl, _⟩ := (row5.ow' Hr4.out).at_ (by omega)
      have hgp : p < g := by omega
      have hws : w.heap.size ≤ w5.heap.size := by omega
      go_wp2
      go_loopw [18] (fun i wr => ∃ (j : Nat) (r : List Int), j ≤ 32 ∧ i = .int .i64 (j : Int) ∧ r.length = 32 ∧ Row wr w.heap.size (.slice (some ⟨g, 0, none⟩) 32 c4) r ∧ But g w5.heap.size w5 wr) (fun i _ => 32 - (intOf i).toNat)
      case atStart => exact ⟨0, r4, by omega, rfl, Hr4.out, row5, But.refl _ _ _⟩
      case round =>
        obtain ⟨j, r, hj, rfl, hr, hrow, hbut⟩ := hrel
        by_cases hlt : j < 32
        · obtain ⟨g2, e, _, _, hc, hf⟩ := (hrow.ow' hr).at_ (by omega)
          injection e with e
          injection e with e
          subst e
          have q0 := hc j hlt
          have f0 := hf j
          have Hr := Lib.hid hr
          clear hc hf hr
          go_wp2
          exact ⟨⟨j + 1, r.set j 255, by omega, by go_num, by rw [List.length_set]; exact Hr.out, hrow.set_ j (by omega) (by omega), hbut.setCell _ _⟩, by simp [intOf]; omega⟩
        · obtain rfl : j = 32 := by omega
          have s6 := s5.under (hbut.below hws hgB) (by omega)
          have B6 := B5.trans (But.of_below (hbut.below hws hgB))
          have Hr := Lib.hid hr
          clear hr
          go_wp2
          go_ret
          exact ⟨⟨_, c4, 32, r, rfl, hrow, Hr.out, by omega⟩, ⟨_, s6, by omega⟩, B6⟩
  · go_wp2_with fail
    refine (pick_any p k c A (at_ + 1) w3.heap.size 3 3 keyPick _ (by omega) (by omega) (by omega) l hkm (s3.but (ab (Below.refl _ _) _) (Nat.le_refl _)) rfl (by omega) (ints_cells w3 keyPick _ _ rfl)).mono ?_
    rintro e w4 ⟨⟨y, hy, rfl⟩, s4, b4, z4⟩
    have z4' : w3.heap.size < w4.heap.size := by rw [z4]; simp
    have B4 : But p w.heap.size w w4 := B3.trans ((But.of_below (ab (Below.refl _ w3) _)).trans (b4 w3.heap.size) |>.mono (by omega))
    obtain ⟨hy0, hy1⟩ := keyPick_bd y hy
    obtain ⟨m', rfl⟩ := Int.eq_ofNat_of_zero_le hy0
    clear z4 hy b4
    go_wp2_with fail
    refine (some_any p k c A (at_ + 1 + 1) m' _ (by omega) l hkm s4).mono ?_
    rintro e w5 ⟨⟨A5, c5, r5, rfl, row5, hr5⟩, s5, b5⟩
    have B5 := B4.trans (b5.mono (by omega))
    have row5' := row5.mono (show w.heap.size ≤ w4.heap.size by omega)
    have Hr5 := Lib.hid hr5
    clear hr5 row5
    go_wp2
    go_ret
    exact ⟨⟨A5, c5, m', r5, rfl, row5', Hr5.out, by omega⟩, ⟨_, s5, by omega⟩, B5⟩

def dataPick : List Int := [0, 1, 15, 16, 17, 40, 63, 64, 65, 130]
theorem dataPick_bd : ∀ x ∈ dataPick, 0 ≤ x ∧ x ≤ 1001 := by decide
def bigPick : List Int := [1000, 1001]
theorem bigPick_bd : ∀ x ∈ bigPick, 0 ≤ x ∧ x ≤ 1001 := by decide

set_option maxHeartbeats 2000000 in
theorem l3Data_any (p k c : Nat) (A : Option Addr) (at_ : Nat) (w : World) (hat : at_ ≤ 90000) (l : List Int) (hkm : k ≤ 1048576) (h : Src w p A k c l at_) :
    Calls Tryd.prog 37 #[.pointer (some ⟨p, 0, none⟩)] w fun e w' => (∃ A' c' n r, e = .returned (.slice A' n c') ∧ Row w' w.heap.size (.slice A' n c') r ∧ r.length = n ∧ n ≤ 1001) ∧ (∃ q, Src w' p A k c l q ∧ q ≤ at_ + 2000) ∧ But p w.heap.size w w' := by
  have hp := h.lt
  go_enter Tryd.func37, Tryd.ntmps37
  go_wp2_with fail
  refine (pick_any p k c A at_ w.heap.size 10 10 dataPick _ (by omega) (by omega) (by omega) l hkm (h.but (ab (Below.refl _ _) _) (Nat.le_refl _)) rfl (by omega) (ints_cells w dataPick _ _ rfl)).mono ?_
  rintro e w2 ⟨⟨x, hx, rfl⟩, s2, b2, z2⟩
  have z2' : w.heap.size < w2.heap.size := by rw [z2]; simp
  have B2 : But p w.heap.size w w2 := (But.of_below (ab (Below.refl _ w) _)).trans (b2 w.heap.size)
  obtain ⟨hx0, hx1⟩ := dataPick_bd x hx
  obtain ⟨m, rfl⟩ := Int.eq_ofNat_of_zero_le hx0
  clear z2 hx b2
  go_wp2_with fail
  refine (chance_any p k c A (at_ + 1) 50 _ (by omega) (by omega) (by omega) l hkm s2).mono ?_
  rintro e w3 ⟨⟨v, rfl⟩, s3, b3, z3⟩
  have B3 : But p w.heap.size w w3 := B2.trans (b3 w.heap.size)
  have z3' : w.heap.size < w3.heap.size := by omega
  clear z3 b3
  cases v
  · go_wp2_with fail
    refine (some_any p k c A (at_ + 1 + 1) m _ (by omega) l hkm s3).mono ?_
    rintro e w4 ⟨⟨A4, c4, r4, rfl, row4, hr4⟩, s4, b4⟩
    have B4 := B3.trans (b4.mono (by omega))
    have row4' := row4.mono (show w.heap.size ≤ w3.heap.size by omega)
    have z4 := b4.size
    have Hr4 := Lib.hid hr4
    clear hr4 row4 b4
    go_wp2_with fail
    refine (chance_any p k c A (at_ + 1 + 1 + m) 6 _ (by omega) (by omega) (by omega) l hkm s4).mono ?_
    rintro e w5 ⟨⟨v, rfl⟩, s5, b5, z5⟩
    have B5 : But p w.heap.size w w5 := B4.trans ((b5 w4.heap.size).mono (by omega))
    have row5 := row4'.keep (w' := w5) (fun g h1 h2 => (b5 w4.heap.size).block g h2 (by omega))
    clear b5 row4' s4
    cases v
    · go_wp2
      go_ret
      exact ⟨⟨A4, c4, m, r4, rfl, row5, Hr4.out, by omega⟩, ⟨_, s5, by omega⟩, B5⟩
    · have hws : w.heap.size ≤ w5.heap.size := by omega
      go_wp2
      go_loopw [21] (fun i wr => ∃ (j : Nat) (r : List Int), j ≤ m ∧ i = .int .i64 (j : Int) ∧ r.length = m ∧ Row wr w.heap.size (.slice A4 m c4) r ∧ Below w.heap.size w5 wr) (fun i _ => m - (intOf i).toNat)
      case atStart => exact ⟨0, r4, by omega, rfl, Hr4.out, row5, Below.refl _ _⟩
      case round =>
        obtain ⟨j, r, hj, rfl, hr, hrow, hbel⟩ := hrel
        by_cases hlt : j < m
        · obtain ⟨g2, rfl, hgB, _, hc, hf⟩ := (hrow.ow' hr).at_ (by omega)
          have q0 := hc j hlt
          have f0 := hf j
          have Hr := Lib.hid hr
          have hlt' : (j : Int) < (m : Int) := by omega
          clear hc hf hr
          go_wp2
          exact ⟨⟨j + 1, r.set j 255, by omega, by go_num, by rw [List.length_set]; exact Hr.out, hrow.set_ j (by omega) (by omega), hbel.setCell hgB _⟩, by simp [intOf]; omega⟩
        · obtain rfl : j = m := by omega
          have s6 := s5.under hbel (by omega)
          have B6 := B5.trans (But.of_below hbel)
          have Hr := Lib.hid hr
          clear hr
          go_wp2
          go_ret
          exact ⟨⟨_, c4, _, r, rfl, hrow, Hr.out, by omega⟩, ⟨_, s6, by omega⟩, B6⟩
  · go_wp2_with fail
    refine (pick_any p k c A (at_ + 1 + 1) w3.heap.size 2 2 bigPick _ (by omega) (by omega) (by omega) l hkm (s3.but (ab (Below.refl _ _) _) (Nat.le_refl _)) rfl (by omega) (ints_cells w3 bigPick _ _ rfl)).mono ?_
    rintro e w9 ⟨⟨y, hy, rfl⟩, s9, b9, z9⟩
    have z9' : w3.heap.size < w9.heap.size := by rw [z9]; simp
    replace B3 : But p w.heap.size w w9 := B3.trans ((But.of_below (ab (Below.refl _ w3) _)).trans (b9 w3.heap.size) |>.mono (by omega))
    obtain ⟨hy0, hy1⟩ := bigPick_bd y hy
    obtain ⟨m', rfl⟩ := Int.eq_ofNat_of_zero_le hy0
    clear z9 hy b9
    go_wp2_with fail
    refine (some_any p k c A (at_ + 1 + 1 + 1) m' _ (by omega) l hkm s9).mono ?_
    rintro e w4 ⟨⟨A4, c4, r4, rfl, row4, hr4⟩, s4, b4⟩
    have B4 := B3.trans (b4.mono (by omega))
    have row4' := row4.mono (show w.heap.size ≤ w9.heap.size by omega)
    have z4 := b4.size
    have Hr4 := Lib.hid hr4
    clear hr4 row4 b4
    go_wp2_with fail
    refine (chance_any p k c A (at_ + 1 + 1 + 1 + m') 6 _ (by omega) (by omega) (by omega) l hkm s4).mono ?_
    rintro e w5 ⟨⟨v, rfl⟩, s5, b5, z5⟩
    have B5 : But p w.heap.size w w5 := B4.trans ((b5 w4.heap.size).mono (by omega))
    have row5 := row4'.keep (w' := w5) (fun g h1 h2 => (b5 w4.heap.size).block g h2 (by omega))
    clear b5 row4' s4
    cases v
    · go_wp2
      go_ret
      exact ⟨⟨A4, c4, m', r4, rfl, row5, Hr4.out, by omega⟩, ⟨_, s5, by omega⟩, B5⟩
    · have hws : w.heap.size ≤ w5.heap.size := by omega
      go_wp2
      go_loopw [21] (fun i wr => ∃ (j : Nat) (r : List Int), j ≤ m' ∧ i = .int .i64 (j : Int) ∧ r.length = m' ∧ Row wr w.heap.size (.slice A4 m' c4) r ∧ Below w.heap.size w5 wr) (fun i _ => m' - (intOf i).toNat)
      case atStart => exact ⟨0, r4, by omega, rfl, Hr4.out, row5, Below.refl _ _⟩
      case round =>
        obtain ⟨j, r, hj, rfl, hr, hrow, hbel⟩ := hrel
        by_cases hlt : j < m'
        · obtain ⟨g2, rfl, hgB, _, hc, hf⟩ := (hrow.ow' hr).at_ (by omega)
          have q0 := hc j hlt
          have f0 := hf j
          have Hr := Lib.hid hr
          have hlt' : (j : Int) < (m' : Int) := by omega
          clear hc hf hr
          go_wp2
          exact ⟨⟨j + 1, r.set j 255, by omega, by go_num, by rw [List.length_set]; exact Hr.out, hrow.set_ j (by omega) (by omega), hbel.setCell hgB _⟩, by simp [intOf]; omega⟩
        · obtain rfl : j = m' := by omega
          have s6 := s5.under hbel (by omega)
          have B6 := B5.trans (But.of_below hbel)
          have Hr := Lib.hid hr
          clear hr
          go_wp2
          go_ret
          exact ⟨⟨_, c4, _, r, rfl, hrow, Hr.out, by omega⟩, ⟨_, s6, by omega⟩, B6⟩
end Go.Proofs.YtcanmhlhnihijaaDoor

/-! CipDrawE -/
/- The draws of chapter 3. -/
namespace Go.Proofs.YtcanmhlhnihijaaDoor
open Go.RowKit

/-- a drawn slice of bytes: a row of its own, from block B on -/
def Drawn (w : World) (B : Nat) (A : Option Addr) (n c : Nat) (r : List Int) : Prop := Row w B (.slice A n c) r ∧ r.length = n
theorem Drawn.past {w w' : World} {B p n c C : Nat} {A : Option Addr} {r : List Int} (h : Drawn w B A n c r) (hb : But p C w w') (hC : w.heap.size ≤ C) (hp : p < B) : Drawn w' B A n c r :=
  ⟨h.1.keep (fun g h1 h2 => hb.block g (by omega) (by omega)), h.2⟩
theorem Drawn.mono {w : World} {B C n c : Nat} {A : Option Addr} {r : List Int} (h : Drawn w B A n c r) (hC : C ≤ B) : Drawn w C A n c r := ⟨h.1.mono hC, h.2⟩

theorem drawPolyTag_any (A : Option Addr) (n c : Nat) (l : List Int) (w : World) (h : Bs w A n l) (hn : n ≤ 1048576) :
    Calls Tryd.prog 22 #[.slice A n c] w fun e w' => (∃ A1 c1 n1 r1 A2 c2 n2 r2, e = .returned (.tuple #[.slice A1 n1 c1, .slice A2 n2 c2]) ∧ Drawn w' w.heap.size A1 n1 c1 r1 ∧ Drawn w' w.heap.size A2 n2 c2 r2 ∧ n1 ≤ 33 ∧ n2 ≤ 1001) ∧ Below w.heap.size w w' := by
  go_enter Tryd.func22, Tryd.ntmps22
  go_wp2_with fail
  refine (source_any _ _ _ _ _ h).mono ?_
  rintro e w1 ⟨rfl, s1, b1, z1⟩
  have z1' : w.heap.size < w1.heap.size := by omega
  clear z1
  go_wp2_with fail
  refine (l3Key_any w.heap.size n c A 0 _ (by omega) l hn s1).mono ?_
  rintro e w2 ⟨⟨A2, c2, m2, r2, rfl, row2, hr2, hm2⟩, ⟨q2, s2, hq2⟩, b2⟩
  have d2 : Drawn w2 w1.heap.size A2 m2 c2 r2 := ⟨row2, hr2⟩
  have z2 := b2.size
  have B2 : Below w.heap.size w w2 := b1.trans (b2.below (by omega) (Nat.le_refl _))
  clear row2 hr2 b1 s1
  go_wp2_with fail
  refine (l3Data_any w.heap.size n c A q2 _ (by omega) l hn s2).mono ?_
  rintro e w3 ⟨⟨A3, c3, m3, r3, rfl, row3, hr3, hm3⟩, ⟨q3, s3, hq3⟩, b3⟩
  have d3 : Drawn w3 w2.heap.size A3 m3 c3 r3 := ⟨row3, hr3⟩
  have d23 := d2.past b3 (Nat.le_refl _) z1'
  have B3 : Below w.heap.size w w3 := B2.trans (b3.below (by omega) (Nat.le_refl _))
  have z3 := b3.size
  clear row3 hr3 b3 s3 s2 d2 b2
  have Fin := Shut.mk d3
  have Fin2 := Shut.mk d23
  clear d3 d23
  go_wp2
  go_ret2
  exact ⟨⟨A2, c2, m2, r2, A3, c3, m3, r3, rfl, Fin2.out.mono (by omega), Fin.out.mono (by omega), hm2, hm3⟩, B3⟩

def blockPick : List Int := [0, 1, 1000000, 1000001, -1, 7, 9]
theorem blockPick_bd : ∀ x ∈ blockPick, -1 ≤ x ∧ x ≤ 1000001 := by decide

theorem drawStreamBlock_any (A : Option Addr) (n c : Nat) (l : List Int) (w : World) (h : Bs w A n l) (hn : n ≤ 1048576) :
    Calls Tryd.prog 12 #[.slice A n c] w fun e w' => (∃ A1 c1 n1 r1 k A2 c2 n2 r2, e = .returned (.tuple #[.slice A1 n1 c1, .int .i64 k, .slice A2 n2 c2]) ∧ Drawn w' w.heap.size A1 n1 c1 r1 ∧ Drawn w' w.heap.size A2 n2 c2 r2 ∧ n1 ≤ 33 ∧ n2 ≤ 13 ∧ -1 ≤ k ∧ k ≤ 1000001) ∧ Below w.heap.size w w' := by
  go_enter Tryd.func12, Tryd.ntmps12
  go_wp2_with fail
  refine (source_any _ _ _ _ _ h).mono ?_
  rintro e w1 ⟨rfl, s1, b1, z1⟩
  have z1' : w.heap.size < w1.heap.size := by omega
  clear z1
  go_wp2_with fail
  refine (l3Key_any w.heap.size n c A 0 _ (by omega) l hn s1).mono ?_
  rintro e w2 ⟨⟨A2, c2, m2, r2, rfl, row2, hr2, hm2⟩, ⟨q2, s2, hq2⟩, b2⟩
  have d2 : Drawn w2 w1.heap.size A2 m2 c2 r2 := ⟨row2, hr2⟩
  have z2 := b2.size
  have B2 : Below w.heap.size w w2 := b1.trans (b2.below (by omega) (Nat.le_refl _))
  clear row2 hr2 b1 s1
  go_wp2_with fail
  refine (pick_any w.heap.size n c A q2 w2.heap.size 7 7 blockPick _ (by omega) (by omega) (by omega) l hn (s2.but (ab (Below.refl _ _) _) (Nat.le_refl _)) rfl (by omega) (ints_cells w2 blockPick _ _ rfl)).mono ?_
  rintro e w3 ⟨⟨y, hy, rfl⟩, s3, b3, z3⟩
  have z3' : w2.heap.size < w3.heap.size := by rw [z3]; simp
  have B23 : But w.heap.size w2.heap.size w2 w3 := (But.of_below (ab (Below.refl _ w2) _)).trans (b3 w2.heap.size)
  have d23 := d2.past B23 (Nat.le_refl _) z1'
  have B3 : Below w.heap.size w w3 := B2.trans (B23.below (by omega) (Nat.le_refl _))
  have hyb := blockPick_bd y hy
  clear z3 hy b3 B23 d2 s2 b2 B2
  go_wp2_with fail
  refine (l3Nonce_any w.heap.size n c A (q2 + 1) _ (by omega) l hn s3).mono ?_
  rintro e w4 ⟨⟨A4, c4, m4, r4, rfl, row4, hr4, hm4⟩, ⟨q4, s4, hq4⟩, b4⟩
  have d4 : Drawn w4 w3.heap.size A4 m4 c4 r4 := ⟨row4, hr4⟩
  have d24 := d23.past b4 (Nat.le_refl _) z1'
  have B4 : Below w.heap.size w w4 := B3.trans (b4.below (by omega) (Nat.le_refl _))
  have z4 := b4.size
  clear row4 hr4 b4 s4 s3 d23
  have Fin := Shut.mk d4
  have Fin2 := Shut.mk d24
  clear d4 d24
  go_wp2
  go_ret3
  exact ⟨⟨A2, c2, m2, r2, y, A4, c4, m4, r4, rfl, Fin2.out.mono (by omega), Fin.out.mono (by omega), hm2, hm4, hyb⟩, B4⟩
end Go.Proofs.YtcanmhlhnihijaaDoor

/-! CipDrawF -/
/- The draws of chapter 3 that have four results. -/
namespace Go.Proofs.YtcanmhlhnihijaaDoor
open Go.RowKit

def xorPick : List Int := [0, 1, 1000000, 1000001, 5, 6]
theorem xorPick_bd : ∀ x ∈ xorPick, -1 ≤ x ∧ x ≤ 1000001 := by decide

theorem drawStreamXor_any (A : Option Addr) (n c : Nat) (l : List Int) (w : World) (h : Bs w A n l) (hn : n ≤ 1048576) :
    Calls Tryd.prog 10 #[.slice A n c] w fun e w' => (∃ A1 c1 n1 r1 k A2 c2 n2 r2 A3 c3 n3 r3, e = .returned (.tuple #[.slice A1 n1 c1, .int .i64 k, .slice A2 n2 c2, .slice A3 n3 c3]) ∧ Drawn w' w.heap.size A1 n1 c1 r1 ∧ Drawn w' w.heap.size A2 n2 c2 r2 ∧ Drawn w' w.heap.size A3 n3 c3 r3 ∧ n1 ≤ 33 ∧ n2 ≤ 13 ∧ n3 ≤ 1001 ∧ -1 ≤ k ∧ k ≤ 1000001) ∧ Below w.heap.size w w' := by
  go_enter Tryd.func10, Tryd.ntmps10
  go_wp2_with fail
  refine (source_any _ _ _ _ _ h).mono ?_
  rintro e w1 ⟨rfl, s1, b1, z1⟩
  have z1' : w.heap.size < w1.heap.size := by omega
  clear z1
  go_wp2_with fail
  refine (l3Key_any w.heap.size n c A 0 _ (by omega) l hn s1).mono ?_
  rintro e w2 ⟨⟨A2, c2, m2, r2, rfl, row2, hr2, hm2⟩, ⟨q2, s2, hq2⟩, b2⟩
  have d2 : Drawn w2 w1.heap.size A2 m2 c2 r2 := ⟨row2, hr2⟩
  have z2 := b2.size
  have B2 : Below w.heap.size w w2 := b1.trans (b2.below (by omega) (Nat.le_refl _))
  clear row2 hr2 b1 s1
  go_wp2_with fail
  refine (l3Nonce_any w.heap.size n c A q2 _ (by omega) l hn s2).mono ?_
  rintro e w3 ⟨⟨A3, c3, m3, r3, rfl, row3, hr3, hm3⟩, ⟨q3, s3, hq3⟩, b3⟩
  have d3 : Drawn w3 w2.heap.size A3 m3 c3 r3 := ⟨row3, hr3⟩
  have d23 := d2.past b3 (Nat.le_refl _) z1'
  have B3 : Below w.heap.size w w3 := B2.trans (b3.below (by omega) (Nat.le_refl _))
  have z3 := b3.size
  clear row3 hr3 b3 s2 d2 b2 B2
  go_wp2_with fail
  refine (pick_any w.heap.size n c A q3 w3.heap.size 6 6 xorPick _ (by omega) (by omega) (by omega) l hn (s3.but (ab (Below.refl _ _) _) (Nat.le_refl _)) rfl (by omega) (ints_cells w3 xorPick _ _ rfl)).mono ?_
  rintro e w4 ⟨⟨y, hy, rfl⟩, s4, b4, z4⟩
  have z4' : w3.heap.size < w4.heap.size := by rw [z4]; simp
  have B34 : But w.heap.size w3.heap.size w3 w4 := (But.of_below (ab (Below.refl _ w3) _)).trans (b4 w3.heap.size)
  have d24 := d23.past B34 (Nat.le_refl _) z1'
  have d34 := d3.past B34 (Nat.le_refl _) (by omega)
  have B4 : Below w.heap.size w w4 := B3.trans (B34.below (by omega) (Nat.le_refl _))
  have hyb := xorPick_bd y hy
  clear z4 hy b4 B34 d23 d3 s3 B3
  go_wp2_with fail
  refine (l3Data_any w.heap.size n c A (q3 + 1) _ (by omega) l hn s4).mono ?_
  rintro e w5 ⟨⟨A5, c5, m5, r5, rfl, row5, hr5, hm5⟩, ⟨q5, s5, hq5⟩, b5⟩
  have d5 : Drawn w5 w4.heap.size A5 m5 c5 r5 := ⟨row5, hr5⟩
  have d25 := d24.past b5 (Nat.le_refl _) z1'
  have d35 := d34.past b5 (Nat.le_refl _) (by omega)
  have B5 : Below w.heap.size w w5 := B4.trans (b5.below (by omega) (Nat.le_refl _))
  have z5 := b5.size
  clear row5 hr5 b5 s5 s4 d24 d34 B4
  have Fin := Shut.mk d5
  have Fin2 := Shut.mk d25
  have Fin3 := Shut.mk d35
  clear d5 d25 d35
  go_wp2
  refine bodyPost_ret (v := .tuple #[.slice A2 m2 c2, .int .i64 y, .slice A3 m3 c3, .slice A5 m5 c5]) (by simp [results, Tryd.results10, go_sem]) rfl ?_
  exact ⟨⟨A2, c2, m2, r2, y, A3, c3, m3, r3, A5, c5, m5, r5, rfl, Fin2.out.mono (by omega), Fin3.out.mono (by omega), Fin.out.mono (by omega), hm2, hm3, hm5, hyb⟩, B5⟩

theorem drawSealBox_any (A : Option Addr) (n c : Nat) (l : List Int) (w : World) (h : Bs w A n l) (hn : n ≤ 1048576) :
    Calls Tryd.prog 18 #[.slice A n c] w fun e w' => (∃ A1 c1 n1 r1 A2 c2 n2 r2 A3 c3 n3 r3 A4 c4 n4 r4, e = .returned (.tuple #[.slice A1 n1 c1, .slice A2 n2 c2, .slice A3 n3 c3, .slice A4 n4 c4]) ∧ Drawn w' w.heap.size A1 n1 c1 r1 ∧ Drawn w' w.heap.size A2 n2 c2 r2 ∧ Drawn w' w.heap.size A3 n3 c3 r3 ∧ Drawn w' w.heap.size A4 n4 c4 r4 ∧ n1 ≤ 33 ∧ n2 ≤ 13 ∧ n3 ≤ 1001 ∧ n4 ≤ 1001) ∧ Below w.heap.size w w' := by
  go_enter Tryd.func18, Tryd.ntmps18
  go_wp2_with fail
  refine (source_any _ _ _ _ _ h).mono ?_
  rintro e w1 ⟨rfl, s1, b1, z1⟩
  have z1' : w.heap.size < w1.heap.size := by omega
  clear z1
  go_wp2_with fail
  refine (l3Key_any w.heap.size n c A 0 _ (by omega) l hn s1).mono ?_
  rintro e w2 ⟨⟨A2, c2, m2, r2, rfl, row2, hr2, hm2⟩, ⟨q2, s2, hq2⟩, b2⟩
  have d2 : Drawn w2 w1.heap.size A2 m2 c2 r2 := ⟨row2, hr2⟩
  have z2 := b2.size
  have B2 : Below w.heap.size w w2 := b1.trans (b2.below (by omega) (Nat.le_refl _))
  clear row2 hr2 b1 s1
  go_wp2_with fail
  refine (l3Nonce_any w.heap.size n c A q2 _ (by omega) l hn s2).mono ?_
  rintro e w3 ⟨⟨A3, c3, m3, r3, rfl, row3, hr3, hm3⟩, ⟨q3, s3, hq3⟩, b3⟩
  have d3 : Drawn w3 w2.heap.size A3 m3 c3 r3 := ⟨row3, hr3⟩
  have d23 := d2.past b3 (Nat.le_refl _) z1'
  have B3 : Below w.heap.size w w3 := B2.trans (b3.below (by omega) (Nat.le_refl _))
  have z3 := b3.size
  clear row3 hr3 b3 s2 d2 b2 B2
  go_wp2_with fail
  refine (l3Data_any w.heap.size n c A q3 _ (by omega) l hn s3).mono ?_
  rintro e w4 ⟨⟨A4, c4, m4, r4, rfl, row4, hr4, hm4⟩, ⟨q4, s4, hq4⟩, b4⟩
  have d4 : Drawn w4 w3.heap.size A4 m4 c4 r4 := ⟨row4, hr4⟩
  have d24 := d23.past b4 (Nat.le_refl _) z1'
  have d34 := d3.past b4 (Nat.le_refl _) (by omega)
  have B4 : Below w.heap.size w w4 := B3.trans (b4.below (by omega) (Nat.le_refl _))
  have z4 := b4.size
  clear row4 hr4 b4 s3 d23 d3 B3
  go_wp2_with fail
  refine (l3Data_any w.heap.size n c A q4 _ (by omega) l hn s4).mono ?_
  rintro e w5 ⟨⟨A5, c5, m5, r5, rfl, row5, hr5, hm5⟩, ⟨q5, s5, hq5⟩, b5⟩
  have d5 : Drawn w5 w4.heap.size A5 m5 c5 r5 := ⟨row5, hr5⟩
  have d25 := d24.past b5 (Nat.le_refl _) z1'
  have d35 := d34.past b5 (Nat.le_refl _) (by omega)
  have d45 := d4.past b5 (Nat.le_refl _) (by omega)
  have B5 : Below w.heap.size w w5 := B4.trans (b5.below (by omega) (Nat.le_refl _))
  have z5 := b5.size
  clear row5 hr5 b5 s5 s4 d24 d34 d4 B4
  have Fin := Shut.mk d5
  have Fin2 := Shut.mk d25
  have Fin3 := Shut.mk d35
  have Fin4 := Shut.mk d45
  clear d5 d25 d35 d45
  go_wp2
  refine bodyPost_ret (v := .tuple #[.slice A2 m2 c2, .slice A3 m3 c3, .slice A4 m4 c4, .slice A5 m5 c5]) (by simp [results, Tryd.results18, go_sem]) rfl ?_
  exact ⟨⟨A2, c2, m2, r2, A3, c3, m3, r3, A4, c4, m4, r4, A5, c5, m5, r5, rfl, Fin2.out.mono (by omega), Fin3.out.mono (by omega), Fin4.out.mono (by omega), Fin.out.mono (by omega), hm2, hm3, hm4, hm5⟩, B5⟩
end Go.Proofs.YtcanmhlhnihijaaDoor

/-! CipDrawG -/
/- The draw of a box to open. -/
namespace Go.Proofs.YtcanmhlhnihijaaDoor
open Go.RowKit

/-- a row cut short -/
theorem Drawn.cut {w : World} {B n c m : Nat} {A : Option Addr} {r : List Int} (h : Drawn w B A n c r) (hm : m ≤ n) : Drawn w B A m c (r.take m) := by
  obtain ⟨h, hl⟩ := h
  refine ⟨⟨fun x hx => h.byte x (List.mem_of_mem_take hx), ?_⟩, by rw [List.length_take]; omega⟩
  have hlm : (r.take m).length = m := by rw [List.length_take]; omega
  rw [hlm]
  rcases h.own.2 with ⟨e, hz⟩ | ⟨g, cap, cur, e, hB, hg, h3, h4, h5, h6⟩
  · injection e with e1 e2 e3
    subst e1 e3
    have hn0 : n = 0 := by omega
    exact ⟨by rw [List.length_map, Nat.mul_one]; exact hlm, .inl ⟨by rw [show m = 0 by omega], by omega⟩⟩
  · injection e with e1 e2 e3
    subst e1 e3
    refine ⟨by rw [List.length_map, Nat.mul_one]; exact hlm, .inr ⟨g, c, cur, rfl, hB, hg, by omega, h4, h5, ?_⟩⟩
    rw [Nat.mul_one] at h6 ⊢
    rw [List.map_take, ← h6, List.take_take, Nat.min_eq_left (by omega)]

/-- a row of which the own block stays as it is stays -/
theorem Drawn.keepOwn {w w' : World} {B n c : Nat} {A : Option Addr} {r : List Int} (h : Drawn w B A n c r) (hk : ∀ g, (Value.slice A n c).ownBlock = some g → w'.heap[g]? = w.heap[g]?) : Drawn w' B A n c r := by
  refine ⟨⟨h.1.byte, h.1.own.1, ?_⟩, h.2⟩
  rcases h.1.own.2 with h0 | ⟨g, cap, cur, e, hB, hg, h1, h2, h3, h4⟩
  · exact .inl h0
  · exact .inr ⟨g, cap, cur, e, hB, (hk g (by rw [e]; rfl)).trans hg, h1, h2, h3, h4⟩
theorem Drawn.other {w w' : World} {B n c lo hi lo' hi' : Nat} {A : Option Addr} {r : List Int} {v : Value} (h : Drawn w B A n c r) (he : Else v w w') (ht : ∀ g, (Value.slice A n c).ownBlock = some g → lo ≤ g ∧ g < hi) (hv : ∀ g, v.ownBlock = some g → lo' ≤ g ∧ g < hi') (hd : hi ≤ lo' ∨ hi' ≤ lo) (hs : hi ≤ w.heap.size) : Drawn w' B A n c r :=
  h.keepOwn fun g e => he g (by have := ht g e; omega) (fun e2 => by have := ht g e; have := hv g e2; omega)

theorem Drawn.cell {w : World} {B g n c j : Nat} {r : List Int} (h : Drawn w B (some ⟨g, 0, none⟩) n c r) (hj : j < n) : w.cell? ⟨g, j, none⟩ = some (.int .u8 (r.getD j 0)) ∧ w.frozen? ⟨g, j, none⟩ = false := by
  obtain ⟨b, e, _, _, hc, hf⟩ := (h.1.ow' h.2).at_ (by omega)
  injection e with e
  injection e with e
  subst e
  exact ⟨hc j hj, hf j⟩
theorem Drawn.set_ {w : World} {B g n c : Nat} {r : List Int} (h : Drawn w B (some ⟨g, 0, none⟩) n c r) (i : Nat) {x : Int} (h0 : 0 ≤ x) (h1 : x < 256) : Drawn (w.setCell ⟨g, i, none⟩ (.int .u8 x)) B (some ⟨g, 0, none⟩) n c (r.set i x) :=
  ⟨h.1.set_ i h0 h1, by rw [List.length_set]; exact h.2⟩
theorem Drawn.far {w : World} {B n c lo hi : Nat} {A : Option Addr} {r : List Int} (h : Drawn w B A n c r) (ht : ∀ g, (Value.slice A n c).ownBlock = some g → lo ≤ g ∧ g < hi) (p : Addr) (hp : p.block < lo ∨ hi ≤ p.block) (v : Value) : Drawn (w.setCell p v) B A n c r :=
  h.keepOwn fun g e => Below.heap_setCell w p v g (by have := ht g e; omega)

def FourDrawn (w : World) (e : Ending) (w' : World) : Prop :=
  (∃ A1 c1 n1 r1 A2 c2 n2 r2 A3 c3 n3 r3 A4 c4 n4 r4, e = .returned (.tuple #[.slice A1 n1 c1, .slice A2 n2 c2, .slice A3 n3 c3, .slice A4 n4 c4]) ∧ Drawn w' w.heap.size A1 n1 c1 r1 ∧ Drawn w' w.heap.size A2 n2 c2 r2 ∧ Drawn w' w.heap.size A3 n3 c3 r3 ∧ Drawn w' w.heap.size A4 n4 c4 r4 ∧ n1 ≤ 33 ∧ n2 ≤ 13 ∧ n3 ≤ 1001 ∧ n4 ≤ 1001) ∧ Below w.heap.size w w'

set_option maxRecDepth 100000 in
set_option maxHeartbeats 4000000 in
theorem drawOpenBox_any (A : Option Addr) (n c : Nat) (l : List Int) (w : World) (h : Bs w A n l) (hn : n ≤ 1048576) :
    Calls Tryd.prog 20 #[.slice A n c] w (FourDrawn w) := by
  go_enter Tryd.func20, Tryd.ntmps20
  go_wp2_with fail
  refine (source_any _ _ _ _ _ h).mono ?_
  rintro e w1 ⟨rfl, s1, b1, z1⟩
  have z1' : w.heap.size < w1.heap.size := by omega
  clear z1
  go_wp2_with fail
  refine (l3Key_any w.heap.size n c A 0 _ (by omega) l hn s1).mono ?_
  rintro e w2 ⟨⟨A2, c2, m2, r2, rfl, row2, hr2, hm2⟩, ⟨q2, s2, hq2⟩, b2⟩
  have d2 : Drawn w2 w1.heap.size A2 m2 c2 r2 := ⟨row2, hr2⟩
  have T2 := Shut.mk (fun (g : Nat) (e : (Value.slice A2 m2 c2).ownBlock = some g) => row2.ownlt e)
  have z2 := b2.size
  have B2 : Below w.heap.size w w2 := b1.trans (b2.below (by omega) (Nat.le_refl _))
  clear row2 hr2 b1 s1
  go_wp2_with fail
  refine (l3Nonce_any w.heap.size n c A q2 _ (by omega) l hn s2).mono ?_
  rintro e w3 ⟨⟨A3, c3, m3, r3, rfl, row3, hr3, hm3⟩, ⟨q3, s3, hq3⟩, b3⟩
  have d3 : Drawn w3 w2.heap.size A3 m3 c3 r3 := ⟨row3, hr3⟩
  have T3 := Shut.mk (fun (g : Nat) (e : (Value.slice A3 m3 c3).ownBlock = some g) => row3.ownlt e)
  have d23 := d2.past b3 (Nat.le_refl _) z1'
  have B3 : Below w.heap.size w w3 := B2.trans (b3.below (by omega) (Nat.le_refl _))
  have z3 := b3.size
  clear row3 hr3 b3 s2 d2 b2 B2
  go_wp2_with fail
  refine (l3Data_any w.heap.size n c A q3 _ (by omega) l hn s3).mono ?_
  rintro e w4 ⟨⟨A4, c4, m4, r4, rfl, row4, hr4, hm4⟩, ⟨q4, s4, hq4⟩, b4⟩
  have d4 : Drawn w4 w3.heap.size A4 m4 c4 r4 := ⟨row4, hr4⟩
  have T4 := Shut.mk (fun (g : Nat) (e : (Value.slice A4 m4 c4).ownBlock = some g) => row4.ownlt e)
  have d24 := d23.past b4 (Nat.le_refl _) z1'
  have d34 := d3.past b4 (Nat.le_refl _) (by omega)
  have B4 : Below w.heap.size w w4 := B3.trans (b4.below (by omega) (Nat.le_refl _))
  have z4 := b4.size
  clear row4 hr4 b4 s3 d23 d3 B3
  go_wp2_with fail
  refine (l3Data_any w.heap.size n c A q4 _ (by omega) l hn s4).mono ?_
  rintro e w5 ⟨⟨A5, c5, m5, r5, rfl, row5, hr5, hm5⟩, ⟨q5, s5, hq5⟩, b5⟩
  have d5 : Drawn w5 w4.heap.size A5 m5 c5 r5 := ⟨row5, hr5⟩
  have d25 := d24.past b5 (Nat.le_refl _) z1'
  have d35 := d34.past b5 (Nat.le_refl _) (by omega)
  have d45 := d4.past b5 (Nat.le_refl _) (by omega)
  have B5 : Below w.heap.size w w5 := B4.trans (b5.below (by omega) (Nat.le_refl _))
  have z5 := b5.size
  clear row5 hr5 b5 s4 d24 d34 d4 B4
  have Fin : Shut (∀ (W : World) (B : Nat) (A6 : Option Addr) (c6 n6 : Nat) (r6 : List Int) (A7 : Option Addr) (c7 n7 : Nat) (r7 : List Int), w.heap.size < B → Drawn W w1.heap.size A2 m2 c2 r2 → Drawn W w2.heap.size A3 m3 c3 r3 → Drawn W B A6 n6 c6 r6 → Drawn W B A7 n7 c7 r7 → n6 ≤ 1001 → n7 ≤ 1001 → Below w.heap.size w W → FourDrawn w (.returned (.tuple #[.slice A2 m2 c2, .slice A3 m3 c3, .slice A6 n6 c6, .slice A7 n7 c7])) W) :=
    ⟨fun W B A6 c6 n6 r6 A7 c7 n7 r7 hB e1 e2 e3 e4 k1 k2 hb => ⟨⟨A2, c2, m2, r2, A3, c3, m3, r3, A6, c6, n6, r6, A7, c7, n7, r7, rfl, e1.mono (by omega), e2.mono (by omega), e3.mono (by omega), e4.mono (by omega), hm2, hm3, k1, k2⟩, hb⟩⟩
  have Easy : Shut (FourDrawn w (.returned (.tuple #[.slice A2 m2 c2, .slice A3 m3 c3, .slice A4 m4 c4, .slice A5 m5 c5])) w5) := ⟨Fin.out w5 w3.heap.size A4 c4 m4 r4 A5 c5 m5 r5 (by omega) d25 d35 d45 (d5.mono (by omega)) hm4 hm5 B5⟩
  by_cases h1 : m2 = 32
  · subst h1
    by_cases h2 : m3 = 12
    · subst h2
      by_cases h3 : m4 ≤ 200
      · by_cases h4 : m5 ≤ 200
        · have hsl := l3Seal_any A2 c2 r2 A3 c3 r3 A4 m4 c4 r4 A5 m5 c5 r5 w5 (d25.1.ow' d25.2).bs d25.1.cap (d35.1.ow' d35.2).bs d35.1.cap (d45.1.ow' d45.2).bs (by omega) d45.1.nilcap (d5.1.ow' d5.2).bs (by omega)
          have Lb : Shut ((sealL r2 r3 r4 r5).length = m5 + 16) := ⟨by rw [sealL_len, d5.2]⟩
          generalize sealL r2 r3 r4 r5 = K at *
          clear Easy
          have D2 := Shut.mk d25
          have D3 := Shut.mk d35
          have D4 := Shut.mk d45
          clear d25 d35 d45 d5
          have h3' : (m4 : Int) ≤ 200 := by omega
          have h4' : (m5 : Int) ≤ 200 := by omega
          go_wp2_with fail
          refine hsl.mono ?_
          clear hsl
          rintro e w6 ⟨⟨A6, c6, rfl, row6⟩, b6⟩
          have d6 : Drawn w6 w5.heap.size A6 (m5 + 16) c6 K := ⟨row6, Lb.out⟩
          have T6 := Shut.mk (fun (g : Nat) (e : (Value.slice A6 (m5 + 16) c6).ownBlock = some g) => row6.ownlt e)
          have s6 := s5.but b6 (Nat.le_refl _)
          have z6 := b6.size
          have B6 : Below w.heap.size w w6 := B5.trans (b6.mono (by omega))
          have E2 := Shut.mk (D2.out.past (p := w.heap.size) (But.of_below b6) (Nat.le_refl _) z1')
          have E3 := Shut.mk (D3.out.past (p := w.heap.size) (But.of_below b6) (Nat.le_refl _) (by omega))
          have E4 := Shut.mk (D4.out.past (p := w.heap.size) (But.of_below b6) (Nat.le_refl _) (by omega))
          have E6 := Shut.mk d6
          clear row6 d6 b6 s5 D2 D3 D4 B5
          go_wp2_with fail
          refine (next_any w.heap.size n c A q5 5 _ (by omega) (by omega) (by omega) l hn s6).mono ?_
          rintro e w7 ⟨⟨y, hy0, hy1, rfl⟩, s7, b7, z7⟩
          have z7a := Nat.le_of_eq z7
          have z7b := Nat.le_of_eq z7.symm
          clear z7
          have F2 := Shut.mk (E2.out.past (b7 w6.heap.size) (Nat.le_refl _) z1')
          have F3 := Shut.mk (E3.out.past (b7 w6.heap.size) (Nat.le_refl _) (by omega))
          have F4 := Shut.mk (E4.out.past (b7 w6.heap.size) (Nat.le_refl _) (by omega))
          have F6 := Shut.mk (E6.out.past (b7 w6.heap.size) (Nat.le_refl _) (by omega))
          have B7 : Below w.heap.size w w7 := B6.trans ((b7 w.heap.size).below (Nat.le_refl _) (Nat.le_refl _))
          clear E2 E3 E4 E6 b7 B6 s6
          have ey : y = 0 ∨ y = 1 ∨ y = 2 ∨ (y ≠ 0 ∧ y ≠ 1 ∧ y ≠ 2) := by omega
          rcases ey with rfl | rfl | rfl | hy
          · obtain ⟨g6, rfl, hg6, hgl6, _, _⟩ := (F6.out.1.ow' F6.out.2).at_ (by omega)
            have hzd : w7.heap.size ≤ w7.drew.heap.size := Nat.le_refl _
            have LK := F6.out.2
            have KB := F6.out.1.byte
            have n1 := next_any w.heap.size n c A (q5 + 1) ((m5 : Int) + 16) w7.drew (by omega) (by omega) (by omega) l hn (s7.under (Below.refl (w.heap.size + 1) w7).drew (by omega))
            have C2 : But w.heap.size w7.heap.size w7 w7.drew := (But.refl _ _ _).drewN 1
            have G2 := Shut.mk (F2.out.past C2 (Nat.le_refl _) z1')
            have G3 := Shut.mk (F3.out.past C2 (Nat.le_refl _) (by omega))
            have G4 := Shut.mk (F4.out.past C2 (Nat.le_refl _) (by omega))
            have G6 := Shut.mk (F6.out.past C2 (Nat.le_refl _) (by omega))
            have B7d : Below w.heap.size w w7.drew := B7.drew
            have hwz : w.heap.size ≤ w7.drew.heap.size := B7d.size
            have hg6p : w.heap.size < w5.heap.size := by omega
            clear F2 F3 F4 F6 B7 s7 C2
            go_wp2_with fail
            go_region_law (first
              | (go_simp; go_at_call 46; refine (next_any w.heap.size n c A (q5 + 1 + 1) 255 w8 (by omega) (by omega) (by omega) l hn s8).mono ?_; rintro e w9 ⟨⟨y2, hx0, hx1, rfl⟩, s9, b9, z9⟩; have z9a := Nat.le_of_eq z9; have z9b := Nat.le_of_eq z9.symm; clear z9; have F9 := Shut.mk (F8.out.past (b9 w8.heap.size) (Nat.le_refl _) hg6p); have q9 := ((b9 w8.heap.size).block g6 (by omega) (by omega)); have q1 := (World.cell?_of_block (a := ⟨g6, j, none⟩) q9).trans q0; have f1 := (World.frozen?_of_block (a := ⟨g6, j, none⟩) q9).trans f0)
              | (go_simp; go_at_call 46; refine n1.mono ?_; rintro e w8 ⟨⟨y, hy0, hy1, rfl⟩, s8, b8, z8⟩; obtain ⟨j, rfl⟩ := Int.eq_ofNat_of_zero_le hy0; have hj : j < m5 + 16 := (by omega); have z8a := Nat.le_of_eq z8; have z8b := Nat.le_of_eq z8.symm; clear z8; have F8 := Shut.mk (G6.out.past (b8 w7.drew.heap.size) (Nat.le_refl _) hg6p); obtain ⟨X, hX⟩ : ∃ X, X = K.getD j 0 := ⟨_, rfl⟩; have hXb := KB.get j; have q0 := F8.out.cell hj; rw [← hX] at hXb q0; obtain ⟨q0, f0⟩ := q0; clear hX))
            all_goals
              have J2 := Shut.mk (((G2.out.past (b8 w7.drew.heap.size) (Nat.le_refl _) z1').past (b9 w8.heap.size) (Nat.le_refl _) z1').far T2.out ⟨g6, j, none⟩ (.inr (by simp; omega)))
              have J3 := Shut.mk (((G3.out.past (b8 w7.drew.heap.size) (Nat.le_refl _) (by omega)).past (b9 w8.heap.size) (Nat.le_refl _) (by omega)).far T3.out ⟨g6, j, none⟩ (.inr (by simp; omega)))
              have J4 := Shut.mk (((G4.out.past (b8 w7.drew.heap.size) (Nat.le_refl _) (by omega)).past (b9 w8.heap.size) (Nat.le_refl _) (by omega)).far T4.out ⟨g6, j, none⟩ (.inr (by simp; omega)))
              have B9 : Below w.heap.size w w9 := (B7d.trans ((b8 w.heap.size).below (Nat.le_refl _) (Nat.le_refl _))).trans ((b9 w.heap.size).below (Nat.le_refl _) (Nat.le_refl _))
              have hgw : w.heap.size ≤ g6 := by omega
              clear b8 b9 s8 s9 G2 G3 G4 G6 n1
              have hwb : 0 ≤ IntKind.u8.wrap (IntKind.i64.wrap (1 + y2)) ∧ IntKind.u8.wrap (IntKind.i64.wrap (1 + y2)) < 256 := by rw [IntKind.wrap_u8']; omega
              have hxb : 0 ≤ bits BinOp.xor IntKind.u8 X (IntKind.u8.wrap (IntKind.i64.wrap (1 + y2))) ∧ bits BinOp.xor IntKind.u8 X (IntKind.u8.wrap (IntKind.i64.wrap (1 + y2))) < 256 := xorB_bd X _ hXb.1 hXb.2 hwb.1 hwb.2
              have Hx := Shut.mk hxb
              clear hwb hxb
              go_wp2
              refine bodyPost_ret (v := .tuple #[.slice A2 32 c2, .slice A3 12 c3, .slice A4 m4 c4, .slice (some ⟨g6, 0, none⟩) (m5 + 16) c6]) (by simp [results, Tryd.results20, go_sem]) rfl ?_
              exact Fin.out _ w3.heap.size A4 c4 m4 _ (some ⟨g6, 0, none⟩) c6 (m5 + 16) _ (by omega) (J2.out _) (J3.out _) (J4.out _) ((F9.out.set_ j Hx.out.1 Hx.out.2).mono (by omega)) (by omega) (by omega) (B9.setCell hgw _)
          · have L4 := F4.out.2
            have hz7 : w6.heap.size ≤ w7.heap.size := by omega
            have G2 := Shut.mk (F2.out.past (p := w.heap.size) (But.of_below (ab (Below.refl _ _) (.cells #[.int .u8 0] 5))) (Nat.le_refl _) z1')
            have G3 := Shut.mk (F3.out.past (p := w.heap.size) (But.of_below (ab (Below.refl _ _) (.cells #[.int .u8 0] 5))) (Nat.le_refl _) (by omega))
            have G6 := Shut.mk (F6.out.past (p := w.heap.size) (But.of_below (ab (Below.refl _ _) (.cells #[.int .u8 0] 5))) (Nat.le_refl _) (by omega))
            go_wp2_with (at_builtin; refine wpList_row_append_at rfl _ _ rfl _ w3.heap.size (.slice A4 m4 c4) r4 rfl (F4.out.1.alloc _) (by simp; omega) ⟨w7.heap.size, 0, none⟩ 1 0 rfl (cell_one _ _ _) (by omega) (by omega) (by omega) ?_; intro v8 w8 hr8 hb8 hs8 hl8 he8; obtain ⟨A8, c8, rfl, _⟩ := hr8.ow (n := m4 + 1) (by rw [List.length_append, L4]; rfl))
            have hs8' : w7.heap.size < w8.heap.size := by rw [World.size_alloc] at hs8; omega
            have H2 := Shut.mk (G2.out.other he8 T2.out T4.out (.inl (by omega)) (by rw [World.size_alloc]; omega))
            have H3 := Shut.mk (G3.out.other he8 T3.out T4.out (.inl (by omega)) (by rw [World.size_alloc]; omega))
            have H6 := Shut.mk (G6.out.other he8 T6.out T4.out (.inr (by omega)) (by rw [World.size_alloc]; omega))
            have H4 : Shut (Drawn w8 w3.heap.size A8 (m4 + 1) c8 (r4 ++ [0])) := ⟨hr8, by rw [List.length_append, L4]; rfl⟩
            have B8 : Below w.heap.size w w8 := (B7.alloc (by omega) _).trans (hb8.mono (by omega))
            clear he8 hl8 hr8 hb8 G2 G3 G6 F2 F3 F4 F6
            go_wp2
            refine bodyPost_ret (v := .tuple #[.slice A2 32 c2, .slice A3 12 c3, .slice A8 (m4 + 1) c8, .slice A6 (m5 + 16) c6]) (by simp [results, Tryd.results20, go_sem]) rfl ?_
            exact Fin.out w8 w3.heap.size A8 c8 (m4 + 1) _ A6 c6 (m5 + 16) _ (by omega) H2.out H3.out H4.out (H6.out.mono (by omega)) (by omega) (by omega) B8
          · go_wp2_with fail
            refine (next_any w.heap.size n c A (q5 + 1) ((m5 + 16 : Nat) : Int) _ (by omega) (by omega) (by omega) l hn s7).mono ?_
            rintro e w8 ⟨⟨y, hy0, hy1, rfl⟩, s8, b8, z8⟩
            have z8a := Nat.le_of_eq z8
            have z8b := Nat.le_of_eq z8.symm
            clear z8
            obtain ⟨j, rfl⟩ := Int.eq_ofNat_of_zero_le hy0
            have G2 := Shut.mk (F2.out.past (b8 w7.heap.size) (Nat.le_refl _) z1')
            have G3 := Shut.mk (F3.out.past (b8 w7.heap.size) (Nat.le_refl _) (by omega))
            have G4 := Shut.mk (F4.out.past (b8 w7.heap.size) (Nat.le_refl _) (by omega))
            have G6 := Shut.mk ((F6.out.past (b8 w7.heap.size) (Nat.le_refl _) (by omega)).cut (m := j) (by omega))
            have B8 : Below w.heap.size w w8 := B7.trans ((b8 w.heap.size).below (Nat.le_refl _) (Nat.le_refl _))
            have hcap := F6.out.1.cap
            have hj1 : (j : Int) ≤ (c6 : Int) := by omega
            have hj2 : (j : Int) ≤ (m5 : Int) + 16 := by omega
            clear b8 F2 F3 F4 F6 B7 s7 s8
            go_wp2
            refine bodyPost_ret (v := .tuple #[.slice A2 32 c2, .slice A3 12 c3, .slice A4 m4 c4, .slice A6 j c6]) (by simp [results, Tryd.results20, go_sem]) rfl ?_
            exact Fin.out w8 w3.heap.size A4 c4 m4 _ A6 c6 j _ (by omega) G2.out G3.out G4.out (G6.out.mono (by omega)) (by omega) (by omega) B8
          · obtain ⟨hy2, hy3, hy4⟩ := hy
            go_wp2
            refine bodyPost_ret (v := .tuple #[.slice A2 32 c2, .slice A3 12 c3, .slice A4 m4 c4, .slice A6 (m5 + 16) c6]) (by simp [results, Tryd.results20, go_sem]) rfl ?_
            exact Fin.out w7 w3.heap.size A4 c4 m4 _ A6 c6 (m5 + 16) _ (by omega) F2.out F3.out F4.out (F6.out.mono (by omega)) (by omega) (by omega) B7
        · have h4' : ¬ (m5 : Int) ≤ 200 := by omega
          clear d25 d35 d45 d5 Fin
          go_wp2
          refine bodyPost_ret (v := .tuple #[.slice A2 32 c2, .slice A3 12 c3, .slice A4 m4 c4, .slice A5 m5 c5]) (by simp [results, Tryd.results20, go_sem]) rfl ?_
          exact Easy.out
      · have h3' : ¬ (m4 : Int) ≤ 200 := by omega
        clear d25 d35 d45 d5 Fin
        go_wp2
        refine bodyPost_ret (v := .tuple #[.slice A2 32 c2, .slice A3 12 c3, .slice A4 m4 c4, .slice A5 m5 c5]) (by simp [results, Tryd.results20, go_sem]) rfl ?_
        exact Easy.out
    · have h2' : ((m3 : Int) == 12) = false := by simp; omega
      clear d25 d35 d45 d5 Fin
      go_wp2
      refine bodyPost_ret (v := .tuple #[.slice A2 32 c2, .slice A3 m3 c3, .slice A4 m4 c4, .slice A5 m5 c5]) (by simp [results, Tryd.results20, go_sem]) rfl ?_
      exact Easy.out
  · have h1' : ((m2 : Int) == 32) = false := by simp; omega
    clear d25 d35 d45 d5 Fin
    go_wp2
    refine bodyPost_ret (v := .tuple #[.slice A2 m2 c2, .slice A3 m3 c3, .slice A4 m4 c4, .slice A5 m5 c5]) (by simp [results, Tryd.results20, go_sem]) rfl ?_
    exact Easy.out
end Go.Proofs.YtcanmhlhnihijaaDoor
