/- Data xor the blocks of a stream, of the model. -/
import Derived.Test.YtpoiecdifhkegaaDoorBlockC
import Derived.Test.YtpoiecdifhkegaaDoorBase
namespace Go.Proofs.YtpoiecdifhkegaaDoor
open Go.RowKit

/-- the first m bytes of the blocks of n, n + 1 and so on -/
def keyStream (key : List Int) (n : Int) (nonce : List Int) (m : Nat) : List Int := (List.range m).map fun j => (keyBlock key (n + ((j / 64 : Nat) : Int)) nonce).getD (j % 64) 0
theorem keyStream_len (key : List Int) (n : Int) (nonce : List Int) (m : Nat) : (keyStream key n nonce m).length = m := by simp [keyStream]
theorem keyStream_get (key : List Int) (n : Int) (nonce : List Int) (m j : Nat) (h : j < m) : (keyStream key n nonce m).getD j 0 = (keyBlock key (n + ((j / 64 : Nat) : Int)) nonce).getD (j % 64) 0 := by
  simp [keyStream, List.getD, h]
/-- data hidden: xor a stream -/
def streamL (key : List Int) (n : Int) (nonce data : List Int) : List Int := xorL data (keyStream key n nonce data.length)
theorem streamL_len (key : List Int) (n : Int) (nonce data : List Int) : (streamL key n nonce data).length = data.length := xorL_len _ _ (keyStream_len _ _ _ _).symm
theorem streamL_get (key : List Int) (n : Int) (nonce data : List Int) (t i : Nat) (hi : i < 64) (h : 64 * t + i < data.length) :
    (streamL key n nonce data).getD (64 * t + i) 0 = xorB (data.getD (64 * t + i) 0) ((keyBlock key (n + (t : Int)) nonce).getD i 0) := by
  unfold streamL
  rw [xorL_get _ _ _ h (by rw [keyStream_len]; exact h), keyStream_get _ _ _ _ _ h]
  rw [show (64 * t + i) / 64 = t by omega, show (64 * t + i) % 64 = i by omega]
theorem streamL_succ (key : List Int) (n : Int) (nonce data : List Int) (t i : Nat) (hi : i < 64) (h : 64 * t + i < data.length) :
    (streamL key n nonce data).take (64 * t + (i + 1)) = (streamL key n nonce data).take (64 * t + i) ++ [xorB (data.getD (64 * t + i) 0) ((keyBlock key (n + (t : Int)) nonce).getD i 0)] := by
  rw [← Nat.add_assoc, take_getD _ _ (by rw [streamL_len]; exact h), streamL_get _ _ _ _ _ _ hi h]

set_option maxRecDepth 100000 in
set_option maxHeartbeats 4000000 in
theorem l3Stream_any (A : Option Addr) (c : Nat) (key : List Int) (n : Int) (A2 : Option Addr) (c2 : Nat) (nonce : List Int) (A3 : Option Addr) (m c3 : Nat) (data : List Int) (w : World)
    (hk : Bs w A 32 key) (hc : 32 ≤ c) (hn : Bs w A2 12 nonce) (hc2 : 12 ≤ c2) (hd : Bs w A3 m data) (hm : m ≤ 100000) (h0 : 0 ≤ n) (h1 : n ≤ 1000000) :
    Calls Tryd.prog 44 #[.slice A 32 c, .int .i64 n, .slice A2 12 c2, .slice A3 m c3] w fun e w' => (∃ A' c', e = .returned (.slice A' m c') ∧ Row w' w.heap.size (.slice A' m c') (streamL key n nonce data)) ∧ Below w.heap.size w w' := by
  have Hd := Shut.mk hd.len
  have Hx := Shut.mk ((streamL_len key n nonce data).trans hd.len)
  have Hs : Shut (∀ t i : Nat, i < 64 → 64 * t + i < m → (streamL key n nonce data).take (64 * t + (i + 1)) = (streamL key n nonce data).take (64 * t + i) ++ [xorB (data.getD (64 * t + i) 0) ((keyBlock key (n + (t : Int)) nonce).getD i 0)]) :=
    ⟨fun t i hi h => streamL_succ _ _ _ _ _ _ hi (by rw [Hd.out]; exact h)⟩
  generalize streamL key n nonce data = Z at *
  go_enter Tryd.func44, Tryd.ntmps44
  go_wp2
  go_loopw [1, 9, 10] (fun q v i wr => ∃ t : Nat, 64 * t < m + 64 ∧ q = .int .i64 (n + (t : Int)) ∧ i = .int .i64 (64 * (t : Int)) ∧ Row wr w.heap.size v (Z.take (64 * t)) ∧ Below w.heap.size w wr) (fun _ _ i _ => m + 64 - (intOf i).toNat)
  case atStart => exact ⟨0, by omega, by simp, rfl, Row.empty w _ (Nat.le_refl _) rfl, ab (Below.refl _ _) _⟩
  case round =>
    obtain ⟨t, ht, rfl, rfl, hrow, hbel⟩ := hrel
    by_cases hlt : 64 * t < m
    · have hb := l3Block_any A c key (n + (t : Int)) A2 c2 nonce wr (hk.below hbel) hc (hn.below hbel) hc2
      obtain ⟨wh, rfl⟩ : ∃ x, x = wr := ⟨_, rfl⟩
      obtain ⟨vo, rfl⟩ : ∃ x, x = u9 := ⟨_, rfl⟩
      have hsz := hbel.size
      go_wp2_with fail
      refine hb.mono ?_
      clear hb
      rintro e w1 ⟨⟨Ab, cb, rfl, hrb⟩, b1⟩
      have HB := Shut.mk (keyBlock_len key (n + (t : Int)) nonce)
      have hob := hrb.ow' HB.out
      obtain ⟨gb, rfl, hgB, hgl, hcb, _⟩ := hob.at_ (by omega)
      have hbb := Shut.mk hob.byte
      have row1 := hrow.keep (w' := w1) (fun g _ h2 => b1.block g h2)
      have ap1 : Apart gb vo w1 w1 := ⟨fun e => by have := (hrow.ownlt e).2; omega, rfl, Nat.le_refl _⟩
      have B1 := ac hbel b1
      have Hs2 : Shut (∀ i : Nat, i < 64 → 64 * t + i < m → Z.take (64 * t + (i + 1)) = Z.take (64 * t + i) ++ [xorB (data.getD (64 * t + i) 0) ((keyBlock key (n + (t : Int)) nonce).getD i 0)]) := ⟨fun i hi h => Hs.out t i hi h⟩
      generalize keyBlock key (n + (t : Int)) nonce = W at *
      have hrow1 : Row w1 w.heap.size vo (Z.take (64 * t + 0)) := row1
      clear row1 hrow hob hrb b1
      have hq : decide (64 * (t : Int) < (m : Int)) = true := by simp; omega
      go_wp2
      go_loopw [9, 12] (fun v i wq => ∃ k : Nat, k ≤ 64 ∧ 64 * t + k ≤ m ∧ i = .int .i64 (k : Int) ∧ Row wq w.heap.size v (Z.take (64 * t + k)) ∧ Below w.heap.size w wq ∧ Apart gb v w1 wq) (fun _ i _ => 64 - (intOf i).toNat)
      case atStart => exact ⟨0, by omega, by omega, rfl, hrow1, B1, ap1⟩
      case round =>
        clear hrow1 B1 ap1
        obtain ⟨k, hk64, hkm, rfl, hrow, hbel, hap⟩ := hrel
        by_cases hlk : k < 64
        · by_cases hlm : 64 * t + k < m
          · obtain ⟨b3, o3, X, rfl, hbs, hX0, hX1, HX, hx⟩ := hd.get hlm
            have hx' := (hbel.cell (p := ⟨b3, o3 + (64 * t + k), none⟩) hbs).trans hx
            have hy' := (World.cell?_of_block (a := ⟨gb, k, none⟩) hap.same).trans (hcb k hlk)
            have hY := hbb.out.get k
            have Hz := Hs2.out k hlk hlm
            rw [HX.out] at Hz
            generalize W.getD k 0 = Y at *
            obtain ⟨hY0, hY1⟩ := hY
            obtain ⟨hq0, hq1⟩ := xorB_bd X Y hX0 hX1 hY0 hY1
            have Hz := Shut.mk Hz
            clear hx
            have hsz := hbel.size
            have hlen : (Z.take (64 * t + k)).length ≤ 140737488351232 := by rw [List.length_take]; omega
            have hkn : 64 * (t : Int) + (k : Int) < (m : Int) := by omega
            have hk6 : (k : Int) < 64 := by omega
            have hwr : IntKind.i64.wrap (64 * (t : Int) + (k : Int)) = 64 * (t : Int) + (k : Int) := IntWalk.i64_in _ (by omega)
            have hk0 : 0 ≤ 64 * (t : Int) + (k : Int) := by omega
            have hidx : (64 * (t : Int) + (k : Int)).toNat = 64 * t + k := by omega
            go_wp2
            go_region_law (refine step_row_append_at rfl _ _ rfl _ w.heap.size _ _ rfl (hrow.alloc _).drew (by simp; omega) ⟨wr.heap.size, 0, none⟩ 1 (xorB X Y) rfl (cell_one wr _ _) hq0 hq1 hlen ?_; intro v2 w2 hr2 hb2 hs2 hl2 he2)
            all_goals
              rw [← Hz.out] at hr2
              have hap2 := ((hap.alloc hgl _).drew).step hgl hl2 he2 hs2
              go_wp2
              exact ⟨⟨k + 1, by omega, by omega, by go_num, hr2, (ab hbel _).drew.trans hb2, hap2⟩, by simp [intOf]; omega⟩
          · have hz : Z.take (64 * t + k) = Z.take (64 * (t + 1)) := by
              rw [List.take_of_length_le (by rw [Hx.out]; omega), List.take_of_length_le (by rw [Hx.out]; omega)]
            rw [hz] at hrow
            have hk6 : (k : Int) < 64 := by omega
            have hkn : ¬ 64 * (t : Int) + (k : Int) < (m : Int) := by omega
            clear hz
            go_wp2
            exact ⟨⟨t + 1, by omega, by go_num, by go_num, hrow, hbel⟩, by simp [intOf]; omega⟩
        · obtain rfl : k = 64 := by omega
          go_wp2
          exact ⟨⟨t + 1, by omega, by go_num, by go_num, hrow, hbel⟩, by simp [intOf]; omega⟩
    · have hz : Z.take (64 * t) = Z := List.take_of_length_le (by rw [Hx.out]; omega)
      rw [hz] at hrow
      obtain ⟨A', c', rfl, how⟩ := hrow.ow Hx.out
      go_wp2
      go_ret
      exact ⟨⟨A', c', rfl, hrow⟩, hbel⟩
end Go.Proofs.YtpoiecdifhkegaaDoor
