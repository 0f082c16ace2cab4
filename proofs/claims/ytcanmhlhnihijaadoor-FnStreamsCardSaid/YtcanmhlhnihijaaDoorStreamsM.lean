/- What is hidden twice is as it was; a stream goes on; what is sealed is opened: plain mathematics over the model's lists. -/
import Derived.Test.YtcanmhlhnihijaaDoorCipFnD
namespace Go.Proofs.YtcanmhlhnihijaaDoor
open Go.RowKit

theorem mixBytes_byte (R S : List Int) (i : Nat) : By (mixBytes R S i) := by
  induction i with
  | zero => exact By.nil
  | succ i ih => exact ih.append (lowOf_byte _ _)
theorem keyBlock_byte (key : List Int) (n : Int) (nonce : List Int) : By (keyBlock key n nonce) := mixBytes_byte _ _ _
theorem keyStream_byte (key : List Int) (n : Int) (nonce : List Int) (m : Nat) : By (keyStream key n nonce m) := fun x hx => by
  obtain ⟨j, _, rfl⟩ := List.mem_map.1 hx
  exact (keyBlock_byte key _ nonce).get _
theorem streamL_byte (key : List Int) (n : Int) (nonce data : List Int) (h : By data) : By (streamL key n nonce data) := xorL_byte _ _ h (keyStream_byte _ _ _ _)
theorem xorB_twice (x y : Int) (hx0 : 0 ≤ x) (hx1 : x < 256) (hy0 : 0 ≤ y) (hy1 : y < 256) : xorB (xorB x y) y = x := by
  have hb := xorB_bd x y hx0 hx1 hy0 hy1
  have e : xorB x y = ((x.toNat ^^^ y.toNat : Nat) : Int) := u8_xor x y hx0 hx1 hy0 hy1
  unfold xorB at hb ⊢
  rw [u8_xor _ y hb.1 hb.2 hy0 hy1]
  have e' : bits BinOp.xor IntKind.u8 x y = ((x.toNat ^^^ y.toNat : Nat) : Int) := e
  rw [e', Int.toNat_natCast, Nat.xor_assoc, Nat.xor_self, Nat.xor_zero]
  omega
theorem xorB_zero (y : Int) (hy0 : 0 ≤ y) (hy1 : y < 256) : xorB 0 y = y := by
  unfold xorB
  rw [u8_xor 0 y (by omega) (by omega) hy0 hy1]
  rw [show (0 : Int).toNat = 0 from rfl, Nat.zero_xor]
  omega
theorem xorL_twice (l r : List Int) (hl : By l) (hr : By r) (h : l.length = r.length) : xorL (xorL l r) r = l := by
  apply List.ext_getElem
  · rw [xorL_len _ _ (by rw [xorL_len l r h]; exact h), xorL_len l r h]
  · intro i h1 h2
    have e1 : (xorL (xorL l r) r)[i] = xorB (xorB l[i] (r[i]'(by omega))) (r[i]'(by omega)) := by simp [xorL]
    rw [e1]
    have b1 := hl _ (List.getElem_mem h2)
    have b2 := hr _ (List.getElem_mem (l := r) (n := i) (by omega))
    exact xorB_twice _ _ b1.1 b1.2 b2.1 b2.2
theorem stream_twice (key : List Int) (n : Int) (nonce data : List Int) (h : By data) : streamL key n nonce (streamL key n nonce data) = data := by
  have hl := streamL_len key n nonce data
  unfold streamL at hl ⊢
  rw [hl]
  exact xorL_twice _ _ h (keyStream_byte _ _ _ _) (keyStream_len _ _ _ _).symm
theorem getD_at (l : List Int) (j : Nat) (hj : j < l.length) : l[j] = l.getD j 0 := by simp [List.getD, List.getElem?_eq_getElem hj]
theorem stream_zeros (key : List Int) (n : Int) (nonce Z : List Int) (hl : Z.length = 64) (hz : ∀ i, Z.getD i 0 = 0) : streamL key n nonce Z = keyBlock key n nonce := by
  apply List.ext_getElem
  · rw [streamL_len, keyBlock_len, hl]
  · intro i h1 h2
    have h3 := h2
    rw [keyBlock_len] at h3
    have e2 := streamL_get key n nonce Z 0 i h3 (by omega)
    rw [Nat.mul_zero, Nat.zero_add, hz, show n + ((0 : Nat) : Int) = n by simp] at e2
    have hb := (keyBlock_byte key n nonce).get i
    rw [xorB_zero _ hb.1 hb.2] at e2
    rw [getD_at _ _ h1, getD_at _ _ h2, e2]
theorem stream_zero (key : List Int) (n : Int) (nonce : List Int) : streamL key n nonce (List.replicate 64 0) = keyBlock key n nonce :=
  stream_zeros key n nonce _ (List.length_replicate ..) (fun i => by rw [List.getD, List.getElem?_replicate]; split <;> rfl)
theorem stream_on (key : List Int) (n : Int) (nonce data : List Int) (h : 64 ≤ data.length) : (streamL key n nonce data).drop 64 = streamL key (n + 1) nonce (data.drop 64) := by
  have hd : (data.drop 64).length = data.length - 64 := by rw [List.length_drop]
  apply List.ext_getElem
  · rw [List.length_drop, streamL_len, streamL_len, hd]
  · intro i h1 h2
    rw [List.length_drop, streamL_len] at h1
    have hi : i = 64 * (i / 64) + i % 64 := by omega
    have hm : i % 64 < 64 := by omega
    have g1 := streamL_get key n nonce data (i / 64 + 1) (i % 64) hm (by omega)
    have g2 := streamL_get key (n + 1) nonce (data.drop 64) (i / 64) (i % 64) hm (by omega)
    rw [show 64 * (i / 64 + 1) + i % 64 = 64 + i by omega] at g1
    rw [show 64 * (i / 64) + i % 64 = i by omega] at g2
    have e0 : ∀ (l : List Int) (j : Nat) (hj : j < l.length), l[j] = l.getD j 0 := fun l j hj => by simp [List.getD, List.getElem?_eq_getElem hj]
    have e1 : ((streamL key n nonce data).drop 64)[i]'(by rw [List.length_drop, streamL_len]; omega) = (streamL key n nonce data).getD (64 + i) 0 := by
      rw [List.getElem_drop, e0]
    rw [e1, e0, g1, g2]
    rw [show (data.drop 64).getD i 0 = data.getD (64 + i) 0 from by simp [List.getD, List.getElem?_drop]]
    rw [show n + ((i / 64 + 1 : Nat) : Int) = n + 1 + ((i / 64 : Nat) : Int) by omega]
theorem seal_take (key nonce more text : List Int) : (sealL key nonce more text).take text.length = streamL key 1 nonce text := by
  unfold sealL
  rw [List.take_left' (streamL_len _ _ _ _)]
theorem seal_drop (key nonce more text : List Int) : (sealL key nonce more text).drop text.length = boxTag key nonce more (streamL key 1 nonce text) := by
  unfold sealL
  rw [List.drop_left' (streamL_len _ _ _ _)]
/-- what is sealed is opened -/
theorem open_seal (key nonce more text : List Int) (h : By text) : openCode 0 key nonce more (sealL key nonce more text) = 0 ∧ openL key nonce (sealL key nonce more text) = text := by
  have e : (sealL key nonce more text).length - 16 = text.length := by rw [sealL_len]; omega
  unfold openCode openL
  rw [e, seal_take, seal_drop, if_pos rfl, if_neg (by rw [sealL_len]; omega), if_pos rfl]
  exact ⟨rfl, stream_twice key 1 nonce text h⟩
/-- what is opened is what was sealed -/
theorem seal_open (key nonce more box : List Int) (h : By box) (ho : openCode 0 key nonce more box = 0) : 16 ≤ box.length ∧ sealL key nonce more (openL key nonce box) = box := by
  unfold openCode at ho
  rw [if_pos rfl] at ho
  split at ho
  · omega
  · split at ho
    · rename_i h1 h2
      refine ⟨by omega, ?_⟩
      unfold sealL openL
      rw [stream_twice key 1 nonce _ (fun x hx => h x (List.mem_of_mem_take hx)), h2, List.take_append_drop]
    · omega
end Go.Proofs.YtcanmhlhnihijaaDoor
