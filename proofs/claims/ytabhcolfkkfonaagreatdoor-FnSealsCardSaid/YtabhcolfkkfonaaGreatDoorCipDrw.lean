import Derived.Test.YtabhcolfkkfonaaGreatDoorAnsX
import Derived.Test.YtabhcolfkkfonaaGreatDoorBase
import Derived.Test.YtabhcolfkkfonaaGreatDoorMdlX
import Derived.Deep.RegionLaw

/-! StreamsM -/
/- What is hidden twice is as it was; a stream goes on; what is sealed is opened: plain mathematics over the model's lists. -/
namespace Go.Proofs.YtabhcolfkkfonaaGreatDoor
open Go.RowKit

theorem mixBytes_byte (R S : List Int) (i : Nat) : By (mixBytes R S i) := by
  induction i with
  | zero => exact By.nil
  | succ i ih => exact ih.append (lowOf_byte _ _)
theorem keyBlock_byte (key : List Int) (n : Int) (nonce : List Int) : By (keyBlock key n nonce) := mixBytes_byte _ _ _
theorem keyStream_byte (key : List Int) (n : Int) (nonce : List Int) (m : Nat) : By (keyStream key n nonce m) := fun x hx => by
  obtain ⟨j, _, rfl⟩ := List.mem_map.1 hx
  exact (keyBlock_byte key _ nonce).get _
theorem streamL_byte (key : List Int) (n : Int) (nonce data : List Int) (h : By data) : By (streamL key n nonce data) := xorL_byte _ _ h (keyStream_byte _ _ _ _)
theorem xorB_twice (x y : Int) (hx0 : 0 ≤ x) (hx1 : x < 256) (hy0 : 0 ≤ y) (hy1 : y < 256) : xorB (xorB x y) y = x := by
  have hb := xorB_bd x y hx0 hx1 hy0 hy1
  have e : xorB x y = ((x.toNat ^^^ y.toNat : Nat) : Int) := u8_xor x y hx0 hx1 hy0 hy1
  unfold xorB at hb ⊢
  rw [u8_xor _ y hb.1 hb.2 hy0 hy1]
  have e' : bits BinOp.xor IntKind.u8 x y = ((x.toNat ^^^ y.toNat : Nat) : Int) := e
  rw [e', Int.toNat_natCast, Nat.xor_assoc, Nat.xor_self, Nat.xor_zero]
  omega
theorem xorB_zero (y : Int) (hy0 : 0 ≤ y) (hy1 : y < 256) : xorB 0 y = y := by
  unfold xorB
  rw [u8_xor 0 y (by omega) (by omega) hy0 hy1]
  rw [show (0 : Int).toNat = 0 from rfl, Nat.zero_xor]
  omega
theorem xorL_twice (l r : List Int) (hl : By l) (hr : By r) (h : l.length = r.length) : xorL (xorL l r) r = l := by
  apply List.ext_getElem
  · rw [xorL_len _ _ (by rw [xorL_len l r h]; exact h), xorL_len l r h]
  · intro i h1 h2
    have e1 : (xorL (xorL l r) r)[i] = xorB (xorB l[i] (r[i]'(by omega))) (r[i]'(by omega)) := by simp [xorL]
    rw [e1]
    have b1 := hl _ (List.getElem_mem h2)
    have b2 := hr _ (List.getElem_mem (l := r) (n := i) (by omega))
    exact xorB_twice _ _ b1.1 b1.2 b2.1 b2.2
theorem stream_twice (key : List Int) (n : Int) (nonce data : List Int) (h : By data) : streamL key n nonce (streamL key n nonce data) = data := by
  have hl := streamL_len key n nonce data
  unfold streamL at hl ⊢
  rw [hl]
  exact xorL_twice _ _ h (keyStream_byte _ _ _ _) (keyStream_len _ _ _ _).symm
theorem getD_at (l : List Int) (j : Nat) (hj : j < l.length) : l[j] = l.getD j 0 := by simp [List.getD, List.getElem?_eq_getElem hj]
theorem stream_zeros (key : List Int) (n : Int) (nonce Z : List Int) (hl : Z.length = 64) (hz : ∀ i, Z.getD i 0 = 0) : streamL key n nonce Z = keyBlock key n nonce := by
  apply List.ext_getElem
  · rw [streamL_len, keyBlock_len, hl]
  · intro i h1 h2
    have h3 := h2
    rw [keyBlock_len] at h3
    have e2 := streamL_get key n nonce Z 0 i h3 (by omega)
    rw [Nat.mul_zero, Nat.zero_add, hz, show n + ((0 : Nat) : Int) = n by simp] at e2
    have hb := (keyBlock_byte key n nonce).get i
    rw [xorB_zero _ hb.1 hb.2] at e2
    rw [getD_at _ _ h1, getD_at _ _ h2, e2]
theorem stream_zero (key : List Int) (n : Int) (nonce : List Int) : streamL key n nonce (List.replicate 64 0) = keyBlock key n nonce :=
  stream_zeros key n nonce _ (List.length_replicate ..) (fun i => by rw [List.getD, List.getElem?_replicate]; split <;> rfl)
theorem stream_on (key : List Int) (n : Int) (nonce data : List Int) (h : 64 ≤ data.length) : (streamL key n nonce data).drop 64 = streamL key (n + 1) nonce (data.drop 64) := by
  have hd : (data.drop 64).length = data.length - 64 := by rw [List.length_drop]
  apply List.ext_getElem
  · rw [List.length_drop, streamL_len, streamL_len, hd]
  · intro i h1 h2
    rw [List.length_drop, streamL_len] at h1
    have hi : i = 64 * (i / 64) + i % 64 := by omega
    have hm : i % 64 < 64 := by omega
    have g1 := streamL_get key n nonce data (i / 64 + 1) (i % 64) hm (by omega)
    have g2 := streamL_get key (n + 1) nonce (data.drop 64) (i / 64) (i % 64) hm (by omega)
    rw [show 64 * (i / 64 + 1) + i % 64 = 64 + i by omega] at g1
    rw [show 64 * (i / 64) + i % 64 = i by omega] at g2
    have e0 : ∀ (l : List Int) (j : Nat) (hj : j < l.length), l[j] = l.getD j 0 := fun l j hj => by simp [List.getD, List.getElem?_eq_getElem hj]
    have e1 : ((streamL key n nonce data).drop 64)[i]'(by rw [List.length_drop, streamL_len]; omega) = (streamL key n nonce data).getD (64 + i) 0 := by
      rw [List.getElem_drop, e0]
    rw [e1, e0, g1, g2]
    rw [show (data.drop 64).getD i 0 = data.getD (64 + i) 0 from by simp [List.getD, List.getElem?_drop]]
    rw [show n + ((i / 64 + 1 : Nat) : Int) = n + 1 + ((i / 64 : Nat) : Int) by omega]
theorem seal_take (key nonce more text : List Int) : (sealL key nonce more text).take text.length = streamL key 1 nonce text := by
  unfold sealL
  rw [List.take_left' (streamL_len _ _ _ _)]
theorem seal_drop (key nonce more text : List Int) : (sealL key nonce more text).drop text.length = boxTag key nonce more (streamL key 1 nonce text) := by
  unfold sealL
  rw [List.drop_left' (streamL_len _ _ _ _)]
/-- what is sealed is opened -/
theorem open_seal (key nonce more text : List Int) (h : By text) : openCode 0 key nonce more (sealL key nonce more text) = 0 ∧ openL key nonce (sealL key nonce more text) = text := by
  have e : (sealL key nonce more text).length - 16 = text.length := by rw [sealL_len]; omega
  unfold openCode openL
  rw [e, seal_take, seal_drop, if_pos rfl, if_neg (by rw [sealL_len]; omega), if_pos rfl]
  exact ⟨rfl, stream_twice key 1 nonce text h⟩
/-- what is opened is what was sealed -/
theorem seal_open (key nonce more box : List Int) (h : By box) (ho : openCode 0 key nonce more box = 0) : 16 ≤ box.length ∧ sealL key nonce more (openL key nonce box) = box := by
  unfold openCode at ho
  rw [if_pos rfl] at ho
  split at ho
  · omega
  · split at ho
    · rename_i h1 h2
      refine ⟨by omega, ?_⟩
      unfold sealL openL
      rw [stream_twice key 1 nonce _ (fun x hx => h x (List.mem_of_mem_take hx)), h2, List.take_append_drop]
    · omega
end Go.Proofs.YtabhcolfkkfonaaGreatDoor

/-! CipDraw -/
/- The draws of chapter 3: keys, nonces, data. -/
namespace Go.Proofs.YtabhcolfkkfonaaGreatDoor
open Go.RowKit

/-- a byte of a row written over -/
theorem Row.set_ {w : World} {B g n c : Nat} {l : List Int} (h : Row w B (.slice (some ⟨g, 0, none⟩) n c) l) (i : Nat) {x : Int} (h0 : 0 ≤ x) (h1 : x < 256) :
    Row (w.setCell ⟨g, i, none⟩ (.int .u8 x)) B (.slice (some ⟨g, 0, none⟩) n c) (l.set i x) := by
  refine ⟨fun y hy => ?_, ?_⟩
  · rcases List.mem_or_eq_of_mem_set hy with h2 | rfl
    · exact h.byte y h2
    · exact ⟨h0, h1⟩
  rcases h.own.2 with ⟨e, _⟩ | ⟨g', cap, cur, e, hB, hg, h3, h4, h5, h6⟩
  · injection e with e1; cases e1
  · injection e with e1 e2 e3
    injection e1 with e1
    injection e1 with e1
    subst e1 e2 e3
    refine ⟨by simp, .inr ⟨g, c, cur.setIfInBounds i (.int .u8 x), by rw [List.length_set], hB, ?_, by rw [List.length_set]; exact h3, h4, by simpa using h5, ?_⟩⟩
    · simp [World.setCell, Array.getElem?_modify, hg]
    · rw [Nat.mul_one] at h6 ⊢
      rw [List.length_set, Array.toList_setIfInBounds, List.take_set, h6, List.map_set]

def noncePick : List Int := [11, 13]
theorem noncePick_bd : ∀ x ∈ noncePick, 0 ≤ x ∧ x ≤ 13 := by decide

def keyPick : List Int := [31, 33, 0]
theorem keyPick_bd : ∀ x ∈ keyPick, 0 ≤ x ∧ x ≤ 33 := by decide

set_option maxHeartbeats 1000000 in
theorem l3Key_any (p k c : Nat) (A : Option Addr) (at_ : Nat) (w : World) (hat : at_ ≤ 99000) (l : List Int) (hkm : k ≤ 1048576) (h : Src w p A k c l at_) :
    Calls Tryz.prog 105 #[.pointer (some ⟨p, 0, none⟩)] w fun e w' => (∃ A' c' n r, e = .returned (.slice A' n c') ∧ Row w' w.heap.size (.slice A' n c') r ∧ r.length = n ∧ n ≤ 33) ∧ (∃ q, Src w' p A k c l q ∧ q ≤ at_ + 40) ∧ But p w.heap.size w w' := by
  have hp := h.lt
  go_enter Tryz.func105, Tryz.ntmps105
  go_wp2_with fail
  refine (chance_any p k c A at_ 14 _ (by omega) (by omega) (by omega) l hkm h).mono ?_
  rintro e w3 ⟨⟨v, rfl⟩, s3, b3, z3⟩
  have B3 : But p w.heap.size w w3 := b3 w.heap.size
  have z3' : w.heap.size ≤ w3.heap.size := by omega
  clear z3 b3
  cases v
  · go_wp2_with fail
    refine (some_any p k c A (at_ + 1) 32 _ (by omega) l hkm s3).mono ?_
    rintro e w4 ⟨⟨A4, c4, r4, rfl, row4, hr4⟩, s4, b4⟩
    have B4 := B3.trans (b4.mono (by omega))
    have row4' := row4.mono (show w.heap.size ≤ w3.heap.size by omega)
    have z4 := b4.size
    have Hr4 := Lib.hid hr4
    clear hr4 row4 b4
    go_wp2_with fail
    refine (chance_any p k c A (at_ + 1 + 32) 9 _ (by omega) (by omega) (by omega) l hkm s4).mono ?_
    rintro e w5 ⟨⟨v, rfl⟩, s5, b5, z5⟩
    have B5 : But p w.heap.size w w5 := B4.trans ((b5 w4.heap.size).mono (by omega))
    have row5 := row4'.keep (w' := w5) (fun g h1 h2 => (b5 w4.heap.size).block g h2 (by omega))
    clear b5 row4' s4
    cases v
    · go_wp2
      go_ret
      exact ⟨⟨A4, c4, 32, r4, rfl, row5, Hr4.out, by omega⟩, ⟨_, s5, by omega⟩, B5⟩
    · obtain ⟨g, rfl, hgB, hgl, _⟩ := (row5.ow' Hr4.out).at_ (by omega)
      have hgp : p < g := by omega
      have hws : w.heap.size ≤ w5.heap.size := by omega
      go_wp2
      go_loopw [18] (fun i wr => ∃ (j : Nat) (r : List Int), j ≤ 32 ∧ i = .int .i64 (j : Int) ∧ r.length = 32 ∧ Row wr w.heap.size (.slice (some ⟨g, 0, none⟩) 32 c4) r ∧ But g w5.heap.size w5 wr) (fun i _ => 32 - (intOf i).toNat)
      case atStart => exact ⟨0, r4, by omega, rfl, Hr4.out, row5, But.refl _ _ _⟩
      case round =>
        obtain ⟨j, r, hj, rfl, hr, hrow, hbut⟩ := hrel
        by_cases hlt : j < 32
        · obtain ⟨g2, e, _, _, hc, hf⟩ := (hrow.ow' hr).at_ (by omega)
          injection e with e
          injection e with e
          subst e
          have q0 := hc j hlt
          have f0 := hf j
          have Hr := Lib.hid hr
          clear hc hf hr
          go_wp2
          exact ⟨⟨j + 1, r.set j 255, by omega, by go_num, by rw [List.length_set]; exact Hr.out, hrow.set_ j (by omega) (by omega), hbut.setCell _ _⟩, by simp [intOf]; omega⟩
        · obtain rfl : j = 32 := by omega
          have s6 := s5.under (hbut.below hws hgB) (by omega)
          have B6 := B5.trans (But.of_below (hbut.below hws hgB))
          have Hr := Lib.hid hr
          clear hr
          go_wp2
          go_ret
          exact ⟨⟨_, c4, 32, r, rfl, hrow, Hr.out, by omega⟩, ⟨_, s6, by omega⟩, B6⟩
  · go_wp2_with fail
    refine (pick_any p k c A (at_ + 1) w3.heap.size 3 3 keyPick _ (by omega) (by omega) (by omega) l hkm (s3.but (ab (Below.refl _ _) _) (Nat.le_refl _)) rfl (by omega) (ints_cells w3 keyPick _ _ rfl)).mono ?_
    rintro e w4 ⟨⟨y, hy, rfl⟩, s4, b4, z4⟩
    have z4' : w3.heap.size < w4.heap.size := by rw [z4]; simp
    have B4 : But p w.heap.size w w4 := B3.trans ((But.of_below (ab (Below.refl _ w3) _)).trans (b4 w3.heap.size) |>.mono (by omega))
    obtain ⟨hy0, hy1⟩ := keyPick_bd y hy
    obtain ⟨m', rfl⟩ := Int.eq_ofNat_of_zero_le hy0
    clear z4 hy b4
    go_wp2_with fail
    refine (some_any p k c A (at_ + 1 + 1) m' _ (by omega) l hkm s4).mono ?_
    rintro e w5 ⟨⟨A5, c5, r5, rfl, row5, hr5⟩, s5, b5⟩
    have B5 := B4.trans (b5.mono (by omega))
    have row5' := row5.mono (show w.heap.size ≤ w4.heap.size by omega)
    have Hr5 := Lib.hid hr5
    clear hr5 row5
    go_wp2
    go_ret
    exact ⟨⟨A5, c5, m', r5, rfl, row5', Hr5.out, by omega⟩, ⟨_, s5, by omega⟩, B5⟩

def dataPick : List Int := [0, 1, 15, 16, 17, 40, 63, 64, 65, 130]
theorem dataPick_bd : ∀ x ∈ dataPick, 0 ≤ x ∧ x ≤ 1001 := by decide
def bigPick : List Int := [1000, 1001]
theorem bigPick_bd : ∀ x ∈ bigPick, 0 ≤ x ∧ x ≤ 1001 := by decide

end Go.Proofs.YtabhcolfkkfonaaGreatDoor

/-! CipDrawE -/
/- The draws of chapter 3. -/
namespace Go.Proofs.YtabhcolfkkfonaaGreatDoor
open Go.RowKit

/-- a drawn slice of bytes: a row of its own, from block B on -/
def Drawn (w : World) (B : Nat) (A : Option Addr) (n c : Nat) (r : List Int) : Prop := Row w B (.slice A n c) r ∧ r.length = n
theorem Drawn.past {w w' : World} {B p n c C : Nat} {A : Option Addr} {r : List Int} (h : Drawn w B A n c r) (hb : But p C w w') (hC : w.heap.size ≤ C) (hp : p < B) : Drawn w' B A n c r :=
  ⟨h.1.keep (fun g h1 h2 => hb.block g (by omega) (by omega)), h.2⟩
theorem Drawn.mono {w : World} {B C n c : Nat} {A : Option Addr} {r : List Int} (h : Drawn w B A n c r) (hC : C ≤ B) : Drawn w C A n c r := ⟨h.1.mono hC, h.2⟩

def blockPick : List Int := [0, 1, 1000000, 1000001, -1, 7, 9]
theorem blockPick_bd : ∀ x ∈ blockPick, -1 ≤ x ∧ x ≤ 1000001 := by decide

end Go.Proofs.YtabhcolfkkfonaaGreatDoor

/-! CipDrawF -/
/- The draws of chapter 3 that have four results. -/
namespace Go.Proofs.YtabhcolfkkfonaaGreatDoor
open Go.RowKit

def xorPick : List Int := [0, 1, 1000000, 1000001, 5, 6]
theorem xorPick_bd : ∀ x ∈ xorPick, -1 ≤ x ∧ x ≤ 1000001 := by decide

end Go.Proofs.YtabhcolfkkfonaaGreatDoor

/-! CipDrawG -/
/- The draw of a box to open. -/
namespace Go.Proofs.YtabhcolfkkfonaaGreatDoor
open Go.RowKit

/-- a row cut short -/
theorem Drawn.cut {w : World} {B n c m : Nat} {A : Option Addr} {r : List Int} (h : Drawn w B A n c r) (hm : m ≤ n) : Drawn w B A m c (r.take m) := by
  obtain ⟨h, hl⟩ := h
  refine ⟨⟨fun x hx => h.byte x (List.mem_of_mem_take hx), ?_⟩, by rw [List.length_take]; omega⟩
  have hlm : (r.take m).length = m := by rw [List.length_take]; omega
  rw [hlm]
  rcases h.own.2 with ⟨e, hz⟩ | ⟨g, cap, cur, e, hB, hg, h3, h4, h5, h6⟩
  · injection e with e1 e2 e3
    subst e1 e3
    have hn0 : n = 0 := by omega
    exact ⟨by rw [List.length_map, Nat.mul_one]; exact hlm, .inl ⟨by rw [show m = 0 by omega], by omega⟩⟩
  · injection e with e1 e2 e3
    subst e1 e3
    refine ⟨by rw [List.length_map, Nat.mul_one]; exact hlm, .inr ⟨g, c, cur, rfl, hB, hg, by omega, h4, h5, ?_⟩⟩
    rw [Nat.mul_one] at h6 ⊢
    rw [List.map_take, ← h6, List.take_take, Nat.min_eq_left (by omega)]

/-- a row of which the own block stays as it is stays -/
theorem Drawn.keepOwn {w w' : World} {B n c : Nat} {A : Option Addr} {r : List Int} (h : Drawn w B A n c r) (hk : ∀ g, (Value.slice A n c).ownBlock = some g → w'.heap[g]? = w.heap[g]?) : Drawn w' B A n c r := by
  refine ⟨⟨h.1.byte, h.1.own.1, ?_⟩, h.2⟩
  rcases h.1.own.2 with h0 | ⟨g, cap, cur, e, hB, hg, h1, h2, h3, h4⟩
  · exact .inl h0
  · exact .inr ⟨g, cap, cur, e, hB, (hk g (by rw [e]; rfl)).trans hg, h1, h2, h3, h4⟩
theorem Drawn.other {w w' : World} {B n c lo hi lo' hi' : Nat} {A : Option Addr} {r : List Int} {v : Value} (h : Drawn w B A n c r) (he : Else v w w') (ht : ∀ g, (Value.slice A n c).ownBlock = some g → lo ≤ g ∧ g < hi) (hv : ∀ g, v.ownBlock = some g → lo' ≤ g ∧ g < hi') (hd : hi ≤ lo' ∨ hi' ≤ lo) (hs : hi ≤ w.heap.size) : Drawn w' B A n c r :=
  h.keepOwn fun g e => he g (by have := ht g e; omega) (fun e2 => by have := ht g e; have := hv g e2; omega)

theorem Drawn.cell {w : World} {B g n c j : Nat} {r : List Int} (h : Drawn w B (some ⟨g, 0, none⟩) n c r) (hj : j < n) : w.cell? ⟨g, j, none⟩ = some (.int .u8 (r.getD j 0)) ∧ w.frozen? ⟨g, j, none⟩ = false := by
  obtain ⟨b, e, _, _, hc, hf⟩ := (h.1.ow' h.2).at_ (by omega)
  injection e with e
  injection e with e
  subst e
  exact ⟨hc j hj, hf j⟩
theorem Drawn.set_ {w : World} {B g n c : Nat} {r : List Int} (h : Drawn w B (some ⟨g, 0, none⟩) n c r) (i : Nat) {x : Int} (h0 : 0 ≤ x) (h1 : x < 256) : Drawn (w.setCell ⟨g, i, none⟩ (.int .u8 x)) B (some ⟨g, 0, none⟩) n c (r.set i x) :=
  ⟨h.1.set_ i h0 h1, by rw [List.length_set]; exact h.2⟩
theorem Drawn.far {w : World} {B n c lo hi : Nat} {A : Option Addr} {r : List Int} (h : Drawn w B A n c r) (ht : ∀ g, (Value.slice A n c).ownBlock = some g → lo ≤ g ∧ g < hi) (p : Addr) (hp : p.block < lo ∨ hi ≤ p.block) (v : Value) : Drawn (w.setCell p v) B A n c r :=
  h.keepOwn fun g e => Below.heap_setCell w p v g (by have := ht g e; omega)

def FourDrawn (w : World) (e : Ending) (w' : World) : Prop :=
  (∃ A1 c1 n1 r1 A2 c2 n2 r2 A3 c3 n3 r3 A4 c4 n4 r4, e = .returned (.tuple #[.slice A1 n1 c1, .slice A2 n2 c2, .slice A3 n3 c3, .slice A4 n4 c4]) ∧ Drawn w' w.heap.size A1 n1 c1 r1 ∧ Drawn w' w.heap.size A2 n2 c2 r2 ∧ Drawn w' w.heap.size A3 n3 c3 r3 ∧ Drawn w' w.heap.size A4 n4 c4 r4 ∧ n1 ≤ 33 ∧ n2 ≤ 13 ∧ n3 ≤ 1001 ∧ n4 ≤ 1001) ∧ Below w.heap.size w w'

end Go.Proofs.YtabhcolfkkfonaaGreatDoor
