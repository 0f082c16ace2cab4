/- A block of the stream, of the model. -/
import Derived.Test.YtpoiecdifhkegaaDoorChaC
import Derived.Test.YtpoiecdifhkegaaDoorShaD
import Derived.Test.YtpoiecdifhkegaaDoorStartC
import Derived.Test.YtpoiecdifhkegaaDoorBase
namespace Go.Proofs.YtpoiecdifhkegaaDoor
open Go.RowKit

def colsV (V : List Int) : Nat → List Int
  | 0 => V
  | k + 1 => qr (colsV V k) k (4 + k) (8 + k) (12 + k)
def diagV (V : List Int) : Nat → List Int
  | 0 => V
  | k + 1 => qr (diagV V k) k (4 + (k + 1) % 4) (8 + (k + 2) % 4) (12 + (k + 3) % 4)
def turnsV (V : List Int) : Nat → List Int
  | 0 => V
  | t + 1 => diagV (colsV (turnsV V t) 4) 4
theorem colsV_len (V : List Int) (k : Nat) : (colsV V k).length = V.length := by
  induction k with
  | zero => rfl
  | succ k ih => exact (qr_len _ _ _ _ _).trans ih
theorem diagV_len (V : List Int) (k : Nat) : (diagV V k).length = V.length := by
  induction k with
  | zero => rfl
  | succ k ih => exact (qr_len _ _ _ _ _).trans ih
theorem turnsV_len (V : List Int) (t : Nat) : (turnsV V t).length = V.length := by
  induction t with
  | zero => rfl
  | succ t ih => exact ((diagV_len _ _).trans (colsV_len _ _)).trans ih
def mixBytes (R S : List Int) : Nat → List Int
  | 0 => []
  | i + 1 => mixBytes R S i ++ lowOf (addW (R.getD i 0) (S.getD i 0)) 4
theorem mixBytes_len (R S : List Int) (i : Nat) : (mixBytes R S i).length = 4 * i := by
  induction i with
  | zero => rfl
  | succ i ih => rw [mixBytes, List.length_append, ih, lowOf_len]; omega
/-- the block of a key, a number and a nonce -/
def keyBlock (key : List Int) (n : Int) (nonce : List Int) : List Int := mixBytes (turnsV (startW key n nonce) 10) (startW key n nonce) 16
theorem keyBlock_len (key : List Int) (n : Int) (nonce : List Int) : (keyBlock key n nonce).length = 64 := mixBytes_len _ _ _

/-- bytes put behind a row, as one step of a region that draws its order -/
theorem step_row_join {ops : Array Oper} {o : Oper} {a : Act} {K : Act → World → Prop} {Q : Exit → Act → World → Prop} {E : Prop} (hgd : o.guard = none) (s x : Operand)
    (ho : o.op = .call { callee := .builtin .append, args := #[s, x], argTypes := #[22, 22] })
    (w : World) (B : Nat) (v : Value) (l r : List Int) (hs : a.eval s = v) (hrow : Row w B v l) (hB : B ≤ w.heap.size)
    (A : Option Addr) (n c : Nat) (hx : a.eval x = .slice A n c) (hbs : Bs w A n r) (hn0 : 0 < n) (hlen : l.length + n ≤ 140737488351232)
    (h : ∀ v' w', Row w' B v' (l ++ r) → Below B w w' → w.heap.size ≤ w'.heap.size → K (a.put o.dst v') w') :
    if Region.wanted o (yielded ops a.tmps) = true then Oper.wp Tryd.prog o a w K Q else E := by
  have hw : Region.wanted o (yielded ops a.tmps) = true := by simp [Region.wanted, hgd]
  rw [if_pos hw]
  obtain ⟨i0, hi, hz0, hz1, hz2⟩ := info_parts info_u8
  have hrl := hbs.len
  obtain ⟨b, off, rfl, _, hc⟩ := hbs.at_ hn0
  have hcell : ∀ j u, (r.map (Value.int .u8))[j]? = some u → w.cell? ((⟨b, off, none⟩ : Addr).add j) = some u := by
    intro j u hu
    have hj : j < r.length := by
      rcases Nat.lt_or_ge j r.length with h1 | h1
      · exact h1
      · rw [List.getElem?_eq_none (by simpa using h1)] at hu; cases hu
    have hadd : (⟨b, off, none⟩ : Addr).add j = ⟨b, off + j, none⟩ := by unfold Addr.add; split <;> simp_all
    rw [hadd, hc j (by omega)]
    rw [List.getElem?_map, List.getElem?_eq_getElem hj] at hu
    simpa [List.getD, List.getElem?_eq_getElem hj] using hu
  refine wp_append_own w s x 22 ho B 5 i0 (.int .u8 0) 1 1 Tryd.underlying22 hi hz0 hz1 hz2 rfl (by decide) v l.length _ hs hrow.own ⟨b, off, none⟩ n c (r.map (Value.int .u8)) hx (by simp [hrl]) hcell
    (fun u hu => by obtain ⟨y, _, rfl⟩ := List.mem_map.1 hu; rfl) (by unfold maxLen; omega) (by omega) hB ?_
  intro v' w' hown hgrow _
  refine h v' w' ⟨hrow.byte.append hbs.byte, ?_⟩ ⟨hgrow.os, hgrow.tape, hgrow.output, hgrow.size, fun k hk => hgrow.block k (by omega) (fun e => ?_)⟩ hgrow.size
  · rw [List.length_append, List.map_append, hrl]; exact hown
  · have := (hrow.own.lt k e.symm).1
    omega

set_option maxRecDepth 100000 in
set_option maxHeartbeats 4000000 in
theorem l3Block_any (A : Option Addr) (c : Nat) (key : List Int) (n : Int) (A2 : Option Addr) (c2 : Nat) (nonce : List Int) (w : World) (hk : Bs w A 32 key) (hc : 32 ≤ c) (hn : Bs w A2 12 nonce) (hc2 : 12 ≤ c2) :
    Calls Tryd.prog 51 #[.slice A 32 c, .int .i64 n, .slice A2 12 c2] w fun e w' => (∃ A' c', e = .returned (.slice A' 64 c') ∧ Row w' w.heap.size (.slice A' 64 c') (keyBlock key n nonce)) ∧ Below w.heap.size w w' := by
  have HS := Shut.mk (startW_len key n nonce)
  have hst := l3Start_any A c key n A2 c2 nonce w hk hc hn hc2
  have Hk : Shut (keyBlock key n nonce = mixBytes (turnsV (startW key n nonce) 10) (startW key n nonce) 16) := ⟨rfl⟩
  generalize keyBlock key n nonce = KB0 at *
  generalize startW key n nonce = S at *
  go_enter Tryd.func51, Tryd.ntmps51
  go_wp2_with fail
  refine hst.mono ?_
  clear hst
  rintro e w1 ⟨⟨gf, cf, rfl, hgf, kf⟩, b1⟩
  have hlf := kf.lt
  go_wp2_with (at_builtin; refine wpList_words_copy rfl _ _ rfl _ w1.heap.size gf 16 cf S rfl (heap_alloc_new w1 _) rfl HS.out (kf.alloc _) (by omega) ?_ (by omega); intro g cg w2 kv hg hb2 hs2)
  have kf2 := (kf.alloc (.cells #[] 62)).below hb2 hlf
  have hs1 := b1.size
  rw [World.size_alloc] at hs2
  have B2 : Below w.heap.size w w2 := (ab b1 (.cells #[] 62)).trans (hb2.mono (by omega))
  clear kf hb2 hk hn
  go_loopw [9] (fun i wr => ∃ t : Nat, t ≤ 10 ∧ i = .int .i64 (t : Int) ∧ KOw .u32 wr g (turnsV S t) ∧ But g w2.heap.size w2 wr) (fun i _ => 10 - (intOf i).toNat)
  case atStart => exact ⟨0, by omega, rfl, kv, But.refl _ _ _⟩
  case round =>
    obtain ⟨t, ht, rfl, hv, hbut⟩ := hrel
    by_cases hlt : t < 10
    · obtain ⟨wh, rfl⟩ : ∃ x, x = wr := ⟨_, rfl⟩
      have HV := Shut.mk ((turnsV_len S t).trans HS.out)
      have Ht : Shut (turnsV S (t + 1) = diagV (colsV (turnsV S t) 4) 4) := ⟨rfl⟩
      generalize turnsV S t = V at *
      have hd : decide ((t : Int) < 10) = true := by simp; omega
      go_wp2
      go_loopw [10] (fun i wq => ∃ k : Nat, k ≤ 4 ∧ i = .int .i64 (k : Int) ∧ KOw .u32 wq g (colsV V k) ∧ But g w2.heap.size w2 wq) (fun i _ => 4 - (intOf i).toNat)
      case atStart => exact ⟨0, by omega, rfl, hv, hbut⟩
      case round =>
        clear hv hbut
        obtain ⟨k, hk4, rfl, hv, hbut⟩ := hrel
        have hsz := hbut.size
        by_cases hlk : k < 4
        · have hq : Calls Tryd.prog 66 #[.slice (some ⟨g, 0, none⟩) 16 cg, .int .i64 (k : Int), .int .i64 (4 + (k : Int)), .int .i64 (8 + (k : Int)), .int .i64 (12 + (k : Int))] wr fun e w' => e = .returned (.tuple #[]) ∧ KOw .u32 w' g (colsV V (k + 1)) ∧ But g wr.heap.size wr w' :=
            l3Quarter_any g cg (colsV V k) k (4 + k) (8 + k) (12 + k) wr hv ((colsV_len V k).trans HV.out) (by omega) (by omega) (by omega) (by omega) (by omega) (by omega) (by omega) (by omega) (by omega) (by omega)
          go_wp2_with fail
          refine hq.mono ?_
          rintro e w4 ⟨rfl, k4, b4⟩
          clear hq
          go_wp2
          exact ⟨⟨k + 1, by omega, by go_num, k4, hbut.trans (b4.mono hsz)⟩, by simp [intOf]; omega⟩
        · obtain rfl : k = 4 := by omega
          obtain ⟨wi, rfl⟩ : ∃ x, x = wr := ⟨_, rfl⟩
          have HV4 := Shut.mk ((colsV_len V 4).trans HV.out)
          generalize colsV V 4 = V4 at *
          go_wp2
          simp only [Int.cast_ofNat_Int]
          go_loopw [11] (fun i wq => ∃ k : Nat, k ≤ 4 ∧ i = .int .i64 (k : Int) ∧ KOw .u32 wq g (diagV V4 k) ∧ But g w2.heap.size w2 wq) (fun i _ => 4 - (intOf i).toNat)
          case atStart => exact ⟨0, by omega, rfl, hv, hbut⟩
          case round =>
            clear hv hbut hsz
            obtain ⟨k, hk4, rfl, hv, hbut⟩ := hrel
            have hsz := hbut.size
            by_cases hlk : k < 4
            · have hq : Calls Tryd.prog 66 #[.slice (some ⟨g, 0, none⟩) 16 cg, .int .i64 (k : Int), .int .i64 (4 + ((k : Int) + 1) % 4), .int .i64 (8 + ((k : Int) + 2) % 4), .int .i64 (12 + ((k : Int) + 3) % 4)] wr fun e w' => e = .returned (.tuple #[]) ∧ KOw .u32 w' g (diagV V4 (k + 1)) ∧ But g wr.heap.size wr w' :=
                l3Quarter_any g cg (diagV V4 k) k (4 + (k + 1) % 4) (8 + (k + 2) % 4) (12 + (k + 3) % 4) wr hv ((diagV_len V4 k).trans HV4.out) (by omega) (by omega) (by omega) (by omega) (by omega) (by omega) (by omega) (by omega) (by omega) (by omega)
              go_wp2_with fail
              refine hq.mono ?_
              rintro e w4 ⟨rfl, k4, b4⟩
              clear hq
              go_wp2
              exact ⟨⟨k + 1, by omega, by go_num, k4, hbut.trans (b4.mono hsz)⟩, by simp [intOf]; omega⟩
            · obtain rfl : k = 4 := by omega
              rw [← Ht.out] at hv
              go_wp2
              exact ⟨⟨t + 1, by omega, by go_num, hv, hbut⟩, by simp [intOf]; omega⟩
    · obtain rfl : t = 10 := by omega
      have HR := Shut.mk ((turnsV_len S 10).trans HS.out)
      generalize turnsV S 10 = R at *
      have hsz := hbut.size
      have kfr : KOw .u32 wr gf S := kf2.keep (hbut.block gf kf2.lt (by omega)) hbut.size
      have Br : Below w.heap.size w wr := B2.trans (hbut.below (by omega) (by omega))
      obtain ⟨wh, rfl⟩ : ∃ x, x = wr := ⟨_, rfl⟩
      clear hbut B2 kf2 kv ht hlt
      go_wp2
      simp only [Int.cast_ofNat_Int]
      go_loopw [12, 13] (fun v i wq => ∃ m : Nat, m ≤ 16 ∧ i = .int .i64 (m : Int) ∧ Row wq wh.heap.size v (mixBytes R S m) ∧ Below wh.heap.size wh wq) (fun _ i _ => 16 - (intOf i).toNat)
      case atStart => exact ⟨0, by omega, rfl, Row.empty wh _ (Nat.le_refl _) rfl, ab (Below.refl _ _) _⟩
      case round =>
        obtain ⟨m, hm, rfl, hrow, hbel⟩ := hrel
        have hol := mixBytes_len R S m
        obtain ⟨A5, c5, rfl, _⟩ := hrow.ow hol
        have hs5 := hbel.size
        have Hol := Shut.mk hol
        clear hol
        by_cases hlm : m < 16
        · have q0 := (hv.below hbel hv.lt).cell m (by rw [HR.out]; omega)
          have q1 := (kfr.below hbel kfr.lt).cell m (by rw [HS.out]; omega)
          have Hs : Shut (mixBytes R S (m + 1) = mixBytes R S m ++ lowOf (addW (R.getD m 0) (S.getD m 0)) 4) := ⟨rfl⟩
          have r0 := addW_bd (R.getD m 0) (S.getD m 0)
          have im : (m : Int) < 16 := by omega
          generalize R.getD m 0 = X at *
          generalize S.getD m 0 = Y at *
          unfold addW at r0 Hs
          obtain ⟨r00, r01⟩ := r0
          have hwr : IntKind.i64.wrap (IntKind.u32.wrap (X + Y)) = (X + Y) % 4294967296 := by rw [IntKind.wrap_u32, IntWalk.i64_in _ (by omega)]
          generalize (X + Y) % 4294967296 = Z at *
          have hcal := l1Low_any Z 4 wr.drew r00 (by omega) (by omega)
          go_wp2
          go_region_law (first
            | (refine step_row_join rfl _ _ rfl _ wh.heap.size (.slice A5 (4 * m) c5) _ _ rfl (by assumption) (by omega) _ 4 _ rfl (by assumption) (by omega) (by rw [Hol.out]; omega) ?_; intro v7 w7 hr7 hb7 hs7)
            | (go_simp; go_at_call 43; refine hcal.mono ?_; rintro e w6 ⟨⟨A6, c6, rfl, how6⟩, hb6⟩; have hs6 : wr.heap.size ≤ w6.heap.size := hb6.size; have row6 := (hrow.drew).keep (w' := w6) (fun g _ h2 => hb6.block g h2); have bs6 := how6.bs))
          all_goals
            rw [← Hs.out] at hr7
            have hb8 : Below wh.heap.size wh w7 := (ac hbel.drew hb6).trans hb7
            go_wp2
            exact ⟨⟨m + 1, by omega, by go_num, hr7, hb8⟩, by simp [intOf]; omega⟩
        · obtain rfl : m = 16 := by omega
          go_wp2
          go_ret
          rw [Hk.out]
          exact ⟨⟨A5, c5, rfl, hrow.mono (by omega)⟩, Br.trans (hbel.mono (by omega))⟩
end Go.Proofs.YtpoiecdifhkegaaDoor
