/- No data, of some room, hidden by a stream, of the program. -/
import Derived.Test.YtcanmhlhnihijaaDoorStzP
namespace Go.Proofs.YtcanmhlhnihijaaDoor
open Go.RowKit Go.Shelf

attribute [local go_sem] Oper.semAt_some

set_option maxRecDepth 100000 in
set_option maxHeartbeats 1200000 in
theorem streamedy_in (F : Fence) (fn0 : Nat) (hall : ∀ f, F.fn f) (hlift : ∀ (k : Nat) (f : FuncId) (args : Array Value) (W : World) (R : Ending → World → Prop), Calls Tryd.prog f args W R → CallsIn F k Tryd.prog f args W R) (hro : F.round = none) (hn : 5 ≤ fn0)
    (b off c b2 off2 c2 : Nat) (b3 off3 : Nat) (t3 : Option Nat) (c3 : Nat) (key nonce data : List Int) (n : Int) (w : World) (hT : Quar w) (hk : Bs w (some ⟨b, off, none⟩) 32 key) (hc : 32 ≤ c) (hno : Bs w (some ⟨b2, off2, none⟩) 12 nonce) (hc2 : 12 ≤ c2) (hc30 : ¬ c3 = 0) (hd : Bs w (some ⟨b3, off3, t3⟩) 0 data) (h0 : 0 ≤ n ∧ n ≤ 1000000) :
    CallsIn F fn0 Tryd.prog 39 #[.slice (some ⟨b, off, none⟩) 32 c, .int .u32 n, .slice (some ⟨b2, off2, none⟩) 12 c2, .slice (some ⟨b3, off3, t3⟩) 0 c3] w fun e w' =>
      (∃ A c', e = .returned (.slice A 0 c') ∧ Row w' w.heap.size (.slice A 0 c') (streamL key n nonce data)) ∧ Below w.heap.size w w' := by
  have h1 : 1 ≤ fn0 := by omega
  have hmk : ∀ W : World, (Instr.makeSlice 22 (.int .i64 0) (.int .i64 (0 : Int))).run Tryd.prog W = .ok (.slice (some ⟨W.heap.size, 0, none⟩) 0 0) (W.alloc (.cells (zeroB 0) 5)) := fun W => run_make_room 0 (by omega) W
  refine callsIn_of_wp_marks Tryd.func39 rfl (hall _) ?_ hro
  simp only [Tryd.ntmps39, List.size_toArray, List.length_cons, List.length_nil, Nat.reduceAdd, Nat.reduceSub, Array.replicate_succ, Array.replicate_zero, List.push_toArray, List.append_toArray, List.nil_append, List.cons_append]
  gi_wp2_with (gi_at_call 56; refine (streamFrom_in F (fn0 - 1) (hall _) hro _ _ n _ _ _ _ _ _ _ rfl rfl).mono ?_; rintro e w' ⟨rfl, rfl⟩)
  have hI0 : StrZ w b off c b2 off2 c2 (some ⟨b3, off3, t3⟩) 0 c3 key nonce data n w.heap.size 0 ((((((w.alloc (.cells #[.slice (some ⟨b3, off3, t3⟩) 0 c3] 22)).alloc (.cells (zeroB 0) 5)).alloc (.cells #[.slice (some ⟨w.heap.size + 1, 0, none⟩) 0 0] 22)).alloc (.cells #[.slice (some ⟨b, off, none⟩) 32 c] 22)).alloc (.cells #[.int .u32 n] 51)).alloc (.cells #[.slice (some ⟨b2, off2, none⟩) 12 c2] 22)) ∧ w.heap.size + 6 = (((((((w.alloc (.cells #[.slice (some ⟨b3, off3, t3⟩) 0 c3] 22)).alloc (.cells (zeroB 0) 5)).alloc (.cells #[.slice (some ⟨w.heap.size + 1, 0, none⟩) 0 0] 22)).alloc (.cells #[.slice (some ⟨b, off, none⟩) 32 c] 22)).alloc (.cells #[.int .u32 n] 51)).alloc (.cells #[.slice (some ⟨b2, off2, none⟩) 12 c2] 22))).heap.size := by
    have B6 := ab (ab (ab (ab (ab (ab (Below.refl _ w) (.cells #[.slice (some ⟨b3, off3, t3⟩) 0 c3] 22)) (.cells (zeroB 0) 5)) (.cells #[.slice (some ⟨w.heap.size + 1, 0, none⟩) 0 0] 22)) (.cells #[.slice (some ⟨b, off, none⟩) 32 c] 22)) (.cells #[.int .u32 n] 51)) (.cells #[.slice (some ⟨b2, off2, none⟩) 12 c2] 22)
    have r1 := Row.room (w.alloc (.cells #[.slice (some ⟨b3, off3, t3⟩) 0 c3] 22)) 0 (by omega) _ rfl
    have x2 := Boxed.new ((w.alloc (.cells #[.slice (some ⟨b3, off3, t3⟩) 0 c3] 22)).alloc (.cells (zeroB 0) 5)) 22 (.slice (some ⟨w.heap.size + 1, 0, none⟩) 0 0)
    have x3 := Boxed.new (((w.alloc (.cells #[.slice (some ⟨b3, off3, t3⟩) 0 c3] 22)).alloc (.cells (zeroB 0) 5)).alloc (.cells #[.slice (some ⟨w.heap.size + 1, 0, none⟩) 0 0] 22)) 22 (.slice (some ⟨b, off, none⟩) 32 c)
    have x4 := Boxed.new ((((w.alloc (.cells #[.slice (some ⟨b3, off3, t3⟩) 0 c3] 22)).alloc (.cells (zeroB 0) 5)).alloc (.cells #[.slice (some ⟨w.heap.size + 1, 0, none⟩) 0 0] 22)).alloc (.cells #[.slice (some ⟨b, off, none⟩) 32 c] 22)) 51 (.int .u32 n)
    have x5 := Boxed.new (((((w.alloc (.cells #[.slice (some ⟨b3, off3, t3⟩) 0 c3] 22)).alloc (.cells (zeroB 0) 5)).alloc (.cells #[.slice (some ⟨w.heap.size + 1, 0, none⟩) 0 0] 22)).alloc (.cells #[.slice (some ⟨b, off, none⟩) 32 c] 22)).alloc (.cells #[.int .u32 n] 51)) 22 (.slice (some ⟨b2, off2, none⟩) 12 c2)
    simp only [World.size_alloc] at r1 x2 x3 x4 x5
    exact ⟨⟨.inl rfl, ⟨_, ((x2.alloc _).alloc _).alloc _, ((((r1.alloc _).alloc _).alloc _).alloc _)⟩, ((((((Boxed.new w _ _).alloc _).alloc _).alloc _).alloc _).alloc _), ⟨(x3.alloc _).alloc _, x4.alloc _, x5⟩, by simp, B6⟩, by simp⟩
  obtain ⟨hI0, z6⟩ := hI0
  generalize ((((((w.alloc (.cells #[.slice (some ⟨b3, off3, t3⟩) 0 c3] 22)).alloc (.cells (zeroB 0) 5)).alloc (.cells #[.slice (some ⟨w.heap.size + 1, 0, none⟩) 0 0] 22)).alloc (.cells #[.slice (some ⟨b, off, none⟩) 32 c] 22)).alloc (.cells #[.int .u32 n] 51)).alloc (.cells #[.slice (some ⟨b2, off2, none⟩) 12 c2] 22)) = w6 at *
  obtain ⟨p, hp⟩ : ∃ p, p = w.heap.size := ⟨_, rfl⟩
  rw [← hp] at hI0 z6 ⊢
  have hpw : w.heap.size ≤ p := by omega
  have hdl := hd.len
  have HP := Shut.mk hp
  clear hp hmk
  refine rangeFunc_left hro h1 (gf := 86) (lb := #[.pointer (some ⟨p + 1 + 1 + 1 + 1, 0, none⟩), .pointer (some ⟨p + 1 + 1 + 1, 0, none⟩), .pointer (some ⟨p + 1 + 1 + 1 + 1 + 1, 0, none⟩)]) rfl (hall _) (enters_of Tryd.func86 (by kernel_rfl) rfl) rfl
    (StrZ w b off c b2 off2 c2 (some ⟨b3, off3, t3⟩) 0 c3 key nonce data n p) (fun e W => e = .exit 0 ∧ Mixed W p (streamL key n nonce data) ∧ p + 6 ≤ W.heap.size ∧ Below p w W) (Came64 key n nonce)
    (fun k W W' h hb => h.same hb) (fun k W l o o' hl ho hc h => h.turn (by omega) o' ho hc) (fun e W l o o' hl ho hc h => ⟨h.1, h.2.1.putObj (by omega) o' ho hc, by have := h.2.2.1; simpa [World.putObj] using this, below_put h.2.2.2 (by omega) o' ho⟩)
    (fun k v W l o o' hl ho hc h => by obtain ⟨A, c', e, hb, h64⟩ := h; exact ⟨A, c', e, hb.putObj o' ho hc, h64⟩) hI0
    (fun l J Jx W hJs hJI hY hJ0 => from1_in F (fn0 - 1) hall hlift hro (by omega) (0 / 64 + 1) (by omega) (p + 3) (p + 4) (p + 5) b off c b2 off2 c2 key nonce n hc hc2 h0 (StrZ w b off c b2 off2 c2 (some ⟨b3, off3, t3⟩) 0 c3 key nonce data n p)
      (fun k W h => ⟨by have := h.on; omega, h.from_, hk.below (h.bel.mono hpw), hno.below (h.bel.mono hpw), hT.keep (h.bel.mono hpw)⟩) l J Jx W hJs hJI hY hJ0)
    (fun v => { tmps := #[.slice (some ⟨b, off, none⟩) 32 c, .int .u32 n, .slice (some ⟨b2, off2, none⟩) 12 c2, .slice (some ⟨b3, off3, t3⟩) 0 c3, undef, undef, undef, .pointer (some ⟨p, 0, none⟩), .slice none 0 0, .pointer (some ⟨p + 1 + 1, 0, none⟩), v, undef, .slice (some ⟨b3, off3, t3⟩) 0 c3, .int .i64 (0 : Int), .slice (some ⟨p + 1, 0, none⟩) 0 0, .slice (some ⟨b, off, none⟩) 32 c, .int .u32 n, .slice (some ⟨b2, off2, none⟩) 12 c2, .func (.func 86) #[] #[.pointer (some ⟨p + 1 + 1 + 1 + 1, 0, none⟩), .pointer (some ⟨p + 1 + 1 + 1, 0, none⟩), .pointer (some ⟨p + 1 + 1 + 1 + 1 + 1, 0, none⟩)], v, undef, undef, undef, undef, undef, undef, undef, undef, undef, undef, undef, undef, undef, undef, undef, undef, undef, undef, undef, undef, undef, undef, undef, undef], defers := [] }) ?assign ?body ?stop
  case assign =>
    intro l v W K hK
    gi_wp2
    exact hK
  case body =>
    rintro lp k v W hS ⟨A, c', rfl, hkb, h64⟩
    obtain ⟨hon, ⟨v0, hbx, hrow⟩, hdat, hfrom, hz, hB⟩ := hS
    obtain rfl : k = 0 := by omega
    have hlen : ((streamL key n nonce data).take (64 * 0)).length = 0 := by rw [List.length_take, streamL_len]; omega
    obtain ⟨A5, c5, rfl, _⟩ := hrow.ow hlen
    have q0 := hbx.cell
    have q1 := hdat.cell
    have fz := hbx.frozen
    obtain ⟨A', off', rfl, _⟩ := hkb.at_ (by omega)
    have hd1 : 1 ≤ fn0 - 1 - 1 := by omega
    have i2 : (0 : Int) ≤ (c3 : Int) := by omega
    have hmL := streamL_len key n nonce data
    have hfull : ¬ 0 + 64 < 0 := by omega
    have m1 : ¬ (64 : Int) < (0 : Int) := by omega
    have hkp := hkb.part_ 0 0 (by omega)
    rw [Nat.add_zero, List.drop_zero, List.take_zero] at hkp
    have hd0 : data = [] := List.length_eq_zero_iff.1 hdl
    have hs0 : streamL key n nonce data = [] := List.length_eq_zero_iff.1 (by rw [hmL, hd0]; rfl)
    have hdW := hd.below (hB.mono hpw)
    rw [hd0] at hdW
    have G := Shut.mk (xorOk_any _ _ 0 c3 c' _ _ W.drew (hdW.below (Below.refl _ W).drew) (hkp.below (Below.refl _ W).drew) (by omega))
    have HRo : streamL key n nonce data = (streamL key n nonce data).take (64 * 0) ++ xorL [] [] := by rw [hs0]; rfl
    have hlen0 : (streamL key n nonce data).take (64 * 0) = [] := by rw [hs0]; rfl
    generalize hXL : xorL [] [] = XL at *
    generalize hTL : (streamL key n nonce data).take (64 * 0) = TL at *
    clear hkp hdW hd0 hlen0
    have k64 : (0 : Int) ≤ (c' : Int) := by omega
    gi_wp2
    refine region_round lp hro (by kernel_rfl) (by kernel_rfl) ?_
    have fin : ∀ (w1 : World) (v2 : Value) (w2 : World), Below W.drew.heap.size W.drew w1 → Row w2 (p + 1) v2 (TL ++ XL) → w1.grownBy w2 (Value.slice A5 (0) c5).ownBlock →
        (TL ++ XL).length = 0 ∧ w2.cell? ⟨p + 1 + 1, 0, none⟩ = some (.slice A5 (0) c5) ∧ w2.frozen? ⟨p + 1 + 1, 0, none⟩ = false ∧ (KeepsOthers W (w2.setCell ⟨p + 1 + 1, 0, none⟩ v2) ∧ Mixed (w2.setCell ⟨p + 1 + 1, 0, none⟩ v2) p (TL ++ XL) ∧ Boxed (w2.setCell ⟨p + 1 + 1, 0, none⟩ v2) p 22 (.slice (some ⟨b3, off3, t3⟩) 0 c3) ∧ From (w2.setCell ⟨p + 1 + 1, 0, none⟩ v2) (p + 3) (p + 4) (p + 5) b off c b2 off2 c2 n ∧ p + 6 ≤ (w2.setCell ⟨p + 1 + 1, 0, none⟩ v2).heap.size ∧ Below p w (w2.setCell ⟨p + 1 + 1, 0, none⟩ v2)) := by
      intro w1 v2 w2 b1 hr2 hg2
      have b1' : Below W.heap.size W w1 := (Below.refl W.heap.size W).drew.trans b1
      have s1 := b1'.size
      have hbx1 : Boxed w1 (p + 2) 22 (.slice A5 (0) c5) := (b1'.block _ hbx.lt).trans hbx
      have hr1 := hrow.keep (w' := w1) (fun g _ h2 => b1'.block g h2)
      have db1 : Boxed w1 p 22 (.slice (some ⟨b3, off3, t3⟩) 0 c3) := (b1'.block _ hdat.lt).trans hdat
      have fr1 : From w1 (p + 3) (p + 4) (p + 5) b off c b2 off2 c2 n := hfrom.keep (b1'.block _ (by omega)) (b1'.block _ (by omega)) (b1'.block _ (by omega))
      have nr : ∀ {B : Nat} {t : TypeId} {u : Value}, Boxed w1 B t u → t ≠ 5 → some B ≠ (Value.slice A5 (0) c5).ownBlock := fun h ht => h.not_row ht hr1.own
      have hbx2 := hbx1.kept hg2 (nr hbx1 (by decide))
      have db2 := db1.kept hg2 (nr db1 (by decide))
      have fr2 : From w2 (p + 3) (p + 4) (p + 5) b off c b2 off2 c2 n := ⟨fr1.k.kept hg2 (nr fr1.k (by decide)), fr1.n_.kept hg2 (nr fr1.n_ (by decide)), fr1.o.kept hg2 (nr fr1.o (by decide))⟩
      have ko2 : KeepsOthers w1 w2 := KeepsOthers.of_grownBy hg2 fun j o ej hj => by
        rcases hr1.own.2 with ⟨e0, _⟩ | ⟨g1, cap, cur, e0, _, hgb, _⟩
        · rw [e0] at ej; simp [Value.ownBlock] at ej
        · rw [e0] at ej
          obtain rfl : g1 = j := by simpa [Value.ownBlock] using ej
          rw [hgb] at hj; cases hj; rfl
      have b2 : Below p w w2 := (hB.trans (b1'.mono (by omega))).grown hg2 (by omega) (fun j ej => by have := (hr1.own.lt j ej).1; omega)
      have nr2 : some (p + 2) ≠ v2.ownBlock := hbx2.not_row (by decide) hr2.own
      have s2 := hg2.size
      refine ⟨by rw [← HRo, hmL, hdl], hbx2.cell, hbx2.frozen, ((keepsOthers_bel b1').trans ko2).trans (KeepsOthers.setCell _ _ _), ⟨v2, hbx2.set v2, ⟨hr2.byte, hr2.own.kept (grownBy_setCell' w2 (p + 2) v2) (.inr nr2.symm)⟩⟩, ?_, fr2.keep (Below.heap_setCell w2 ⟨p + 1 + 1, 0, none⟩ _ _ (by simp; try omega)) (Below.heap_setCell w2 ⟨p + 1 + 1, 0, none⟩ _ _ (by simp; try omega)) (Below.heap_setCell w2 ⟨p + 1 + 1, 0, none⟩ _ _ (by simp; try omega)), by simp only [World.size_setCell]; omega, b2.setCell (p := ⟨p + 1 + 1, 0, none⟩) (by simp; try omega) _⟩
      exact (Below.heap_setCell w2 ⟨p + 1 + 1, 0, none⟩ _ _ (by simp; try omega)).trans db2
    refine wpAnyIn_take (i := 1) (v := .slice (some ⟨b3, off3, t3⟩) 0 c3) hro rfl (by kernel_rfl) (by kernel_rfl) (by kernel_rfl) (fun _ _ _ h => h) ?_ ?_
    · exact ⟨Or.inl ⟨by rfl, fun w => by go_simp⟩, fun _ => rfl⟩
    go_simp
    refine wpAnyIn_take (i := 2) (v := .slice (some ⟨A', off', none⟩) 64 c') hro rfl (by kernel_rfl) (by kernel_rfl) (by kernel_rfl) (fun _ _ _ h => h) ?_ ?_
    · exact ⟨Or.inl ⟨by rfl, fun w => by go_simp⟩, fun _ => rfl⟩
    go_simp
    refine wpAnyIn_take (i := 3) (v := .slice (some ⟨b3, off3, t3⟩) 0 c3) hro rfl (by kernel_rfl) (by kernel_rfl) (by kernel_rfl) (fun _ _ _ h => h) ?_ ?_
    · exact ⟨Or.inl ⟨by rfl, fun w => by go_simp⟩, fun _ => rfl⟩
    go_simp
    refine wpAnyIn_take (i := 4) (v := .int .i64 (0 : Int)) hro rfl (by kernel_rfl) (by kernel_rfl) (by kernel_rfl) (fun _ _ _ h => h) ?_ ?_
    · exact ⟨Or.inl ⟨by rfl, fun w => by go_simp⟩, fun _ => rfl⟩
    go_simp
    refine wpAnyIn_take (i := 5) (v := .slice (some ⟨A', off', none⟩) 0 c') hro rfl (by kernel_rfl) (by kernel_rfl) (by kernel_rfl) (fun _ _ _ h => h) ?_ ?_
    · exact ⟨Or.inl ⟨by rfl, fun w => by go_simp⟩, fun _ => rfl⟩
    go_simp
    refine wpAnyIn_ready (rs := [0, 6]) (by kernel_rfl) (by simp) (AllReadyIn.cons rfl (fun K hK => ?_) (AllReadyIn.cons rfl (fun K hK => ?_) AllReadyIn.nil))
    · go_simp
      refine hK _ _ ?_
      clear hK K
      refine wpAnyIn_ready (rs := [6]) (by kernel_rfl) (by simp) (AllReadyIn.cons rfl (fun K hK => ?_) AllReadyIn.nil)
      go_simp
      gi_wp2_with (gi_at_call 57; refine (hlift _ _ _ _ _ G.out).mono ?_; rintro e w1 ⟨⟨gx, rfl, hbx1, hgx⟩, b1⟩)
      try clear hK K
      have hs1 : W.heap.size ≤ w1.heap.size := b1.size
      have q0w := (b1.cell (p := ⟨p + 2, 0, none⟩) (show p + 2 < W.drew.heap.size from hbx.lt)).trans q0
      have hr1 := hrow.drew.keep (w' := w1) (fun g _ h2 => b1.block g h2)
      have hfld := fld_bytes 0 (some ⟨gx, 0, none⟩) 0 0 w1
      refine wpAnyIn_ready (rs := [7]) (by kernel_rfl) (by simp) (AllReadyIn.cons rfl (fun K hK => ?_) AllReadyIn.nil)
      go_simp
      refine hK _ _ ?_
      clear hK K
      refine wpAnyIn_ready (rs := [8]) (by kernel_rfl) (by simp) (AllReadyIn.cons rfl (fun K hK => ?_) AllReadyIn.nil)
      refine stepIn_row_join rfl _ _ rfl _ (p + 1) (.slice A5 (0) c5) TL XL rfl hr1 (by omega) gx 0 0 rfl hbx1 (by rw [hlen]; omega) ?_
      intro v2 w2 hr2 hg2
      have fq := fin w1 v2 w2 b1 hr2 hg2
      obtain ⟨A6, c6, rfl, _⟩ := hr2.ow fq.1
      refine hK _ _ ?_
      clear hK K
      obtain ⟨fq0, fc, ff, fpost⟩ := fq
      refine wpAnyIn_ready (rs := [9]) (by kernel_rfl) (by simp) (AllReadyIn.cons rfl (fun K hK => ?_) AllReadyIn.nil)
      go_simp
      refine hK _ _ ?_
      clear hK K
      refine wpAnyIn_done (by kernel_rfl) ?_ _
      obtain ⟨ko, mx, db, fr, sz, bl⟩ := fpost
      have qd := db.cell
      gi_wp2
      refine ⟨ko, rfl, ?_, sz, bl⟩
      rw [HRo]
      exact mx
    · go_simp
      gi_wp2_with (gi_at_call 57; refine (hlift _ _ _ _ _ G.out).mono ?_; rintro e w1 ⟨⟨gx, rfl, hbx1, hgx⟩, b1⟩)
      try clear hK K
      have hs1 : W.heap.size ≤ w1.heap.size := b1.size
      have q0w := (b1.cell (p := ⟨p + 2, 0, none⟩) (show p + 2 < W.drew.heap.size from hbx.lt)).trans q0
      have hr1 := hrow.drew.keep (w' := w1) (fun g _ h2 => b1.block g h2)
      have hfld := fld_bytes 0 (some ⟨gx, 0, none⟩) 0 0 w1
      refine wpAnyIn_ready (rs := [0, 7]) (by kernel_rfl) (by simp) (AllReadyIn.cons rfl (fun K hK => ?_) (AllReadyIn.cons rfl (fun K hK => ?_) AllReadyIn.nil))
      · go_simp
        refine hK _ _ ?_
        clear hK K
        refine wpAnyIn_ready (rs := [7]) (by kernel_rfl) (by simp) (AllReadyIn.cons rfl (fun K hK => ?_) AllReadyIn.nil)
        go_simp
        refine hK _ _ ?_
        clear hK K
        refine wpAnyIn_ready (rs := [8]) (by kernel_rfl) (by simp) (AllReadyIn.cons rfl (fun K hK => ?_) AllReadyIn.nil)
        refine stepIn_row_join rfl _ _ rfl _ (p + 1) (.slice A5 (0) c5) TL XL rfl hr1 (by omega) gx 0 0 rfl hbx1 (by rw [hlen]; omega) ?_
        intro v2 w2 hr2 hg2
        have fq := fin w1 v2 w2 b1 hr2 hg2
        obtain ⟨A6, c6, rfl, _⟩ := hr2.ow fq.1
        refine hK _ _ ?_
        clear hK K
        obtain ⟨fq0, fc, ff, fpost⟩ := fq
        refine wpAnyIn_ready (rs := [9]) (by kernel_rfl) (by simp) (AllReadyIn.cons rfl (fun K hK => ?_) AllReadyIn.nil)
        go_simp
        refine hK _ _ ?_
        clear hK K
        refine wpAnyIn_done (by kernel_rfl) ?_ _
        obtain ⟨ko, mx, db, fr, sz, bl⟩ := fpost
        have qd := db.cell
        gi_wp2
        refine ⟨ko, rfl, ?_, sz, bl⟩
        rw [HRo]
        exact mx
      · go_simp
        refine hK _ _ ?_
        clear hK K
        refine wpAnyIn_ready (rs := [0]) (by kernel_rfl) (by simp) (AllReadyIn.cons rfl (fun K hK => ?_) AllReadyIn.nil)
        go_simp
        refine hK _ _ ?_
        clear hK K
        refine wpAnyIn_ready (rs := [8]) (by kernel_rfl) (by simp) (AllReadyIn.cons rfl (fun K hK => ?_) AllReadyIn.nil)
        refine stepIn_row_join rfl _ _ rfl _ (p + 1) (.slice A5 (0) c5) TL XL rfl hr1 (by omega) gx 0 0 rfl hbx1 (by rw [hlen]; omega) ?_
        intro v2 w2 hr2 hg2
        have fq := fin w1 v2 w2 b1 hr2 hg2
        obtain ⟨A6, c6, rfl, _⟩ := hr2.ow fq.1
        refine hK _ _ ?_
        clear hK K
        obtain ⟨fq0, fc, ff, fpost⟩ := fq
        refine wpAnyIn_ready (rs := [9]) (by kernel_rfl) (by simp) (AllReadyIn.cons rfl (fun K hK => ?_) AllReadyIn.nil)
        go_simp
        refine hK _ _ ?_
        clear hK K
        refine wpAnyIn_done (by kernel_rfl) ?_ _
        obtain ⟨ko, mx, db, fr, sz, bl⟩ := fpost
        have qd := db.cell
        gi_wp2
        refine ⟨ko, rfl, ?_, sz, bl⟩
        rw [HRo]
        exact mx
  case stop =>
    rintro D e W hD ⟨rfl, ⟨v, hbx, hrow⟩, hz, hB⟩ hK
    have q0 := hbx.cell
    obtain ⟨A, c', rfl, _⟩ := hrow.ow ((streamL_len key n nonce data).trans hdl)
    gi_wp2
    refine ⟨by simp, .inl ⟨_, _, rfl, run_takeDeferred hK, ?_⟩⟩
    refine ⟨_, results_tmp rfl _ _ _, ⟨A, c', rfl, ?_⟩, (hB.mono hpw).trans (belowK_b (w := w) (Nat.le_refl _) W D _ _ (by omega) hK rfl rfl)⟩
    have hr : Row (W.putObj D (.deferred none)) (p + 1) (.slice A 0 c') (streamL key n nonce data) := ⟨hrow.byte, ownsRow_putObj hrow.own _ hK rfl⟩
    exact hr.mono (by omega)
end Go.Proofs.YtcanmhlhnihijaaDoor
