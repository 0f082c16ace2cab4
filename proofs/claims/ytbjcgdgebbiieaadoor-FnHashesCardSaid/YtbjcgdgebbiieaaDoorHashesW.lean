/- The walk of FnHashes. -/
import Derived.Test.YtbjcgdgebbiieaaDoorHashFns2
import Derived.Test.YtbjcgdgebbiieaaDoorDataC
import Derived.Test.YtbjcgdgebbiieaaDoorTurnsC
import Derived.Deep.RegionHeld3
namespace Go.Proofs.YtbjcgdgebbiieaaDoor
open Go.RowKit

theorem Bs.take_ {w : World} {A : Option Addr} {n : Nat} {l : List Int} (h : Bs w A n l) (k : Nat) (hk : k ≤ n) : Bs w A k (l.take k) := by
  refine ⟨by rw [List.length_take, h.len]; omega, fun x hx => h.byte x (List.mem_of_mem_take hx), fun hp => ?_⟩
  obtain ⟨b, off, e, hb, hc⟩ := h.at_ (by omega)
  refine ⟨b, off, e, hb, fun i hi => ?_⟩
  rw [hc i (by omega)]
  simp [List.getD, List.getElem?_take_of_lt hi]

set_option maxRecDepth 100000 in
set_option maxHeartbeats 8000000 in
theorem hashes_walk (A : Option Addr) (n c : Nat) (l : List Int) (w : World) (hT : Tabs w) (h : Bs w A n l) (hn : n ≤ 1048576) :
    Calls Tryd.prog 3 #[.slice A n c] w fun e w' => e = .returned (.bool true) ∧ Below w.heap.size w w' := by
  have Hd : Shut (decide (1048576 < n) = false) := ⟨by simpa using hn⟩
  go_enter Tryd.func3, Tryd.ntmps3
  go_wp2_with fail
  refine (lwBig_any _ _ _ _ (by omega)).mono ?_
  rintro e w0 ⟨rfl, rfl⟩
  rw [Hd.out]
  go_wp2_with fail
  refine (drawPadMessage_any _ _ _ _ _ h hn).mono ?_
  rintro e w1 ⟨⟨A1, c1, m, d, rfl, od, hm, hdc⟩, b1⟩
  go_wp2_with fail
  refine (implPadMessage_cap _ _ _ _ _ od.bs (by omega)).mono ?_
  rintro e w2 ⟨⟨Ap, cp, rfl, op, hcp⟩, b2⟩
  have B2 := ac b1 b2
  obtain ⟨Np, hNp⟩ : ∃ N, N = hlen m (padW d).length := ⟨_, rfl⟩
  obtain ⟨Lp, hLp⟩ : ∃ L, L = hbytes m (padW d) := ⟨_, rfl⟩
  obtain ⟨Cd, hCd⟩ : ∃ C, C = hcode m := ⟨_, rfl⟩
  rw [← hNp, ← hLp] at op
  rw [← hNp] at hcp
  rw [← hNp, ← hCd]
  have HNp := Shut.mk hNp
  have HLp := Shut.mk hLp
  have HCd := Shut.mk hCd
  clear hNp hLp hCd
  have tp := Two.new w2 26 (.int .i64 Cd) (.slice Ap Np cp)
  have od2 := (od.bs.below b2).alloc (.cells #[.int .i64 Cd, .slice Ap Np cp] 26)
  have Bp := ab B2 (.cells #[.int .i64 Cd, .slice Ap Np cp] 26)
  have pp := op.bs.alloc (.cells #[.int .i64 Cd, .slice Ap Np cp] 26)
  go_wp2_with fail
  refine (implHashOf_any _ _ _ _ _ (hT.keep Bp) od2 hdc (by omega)).mono ?_
  rintro e w3 ⟨⟨Ah, ch, rfl, oh⟩, b3⟩
  obtain ⟨Nh, hNh⟩ : ∃ N, N = hlen m 32 := ⟨_, rfl⟩
  obtain ⟨Lh, hLh⟩ : ∃ L, L = hbytes m (hashW d) := ⟨_, rfl⟩
  rw [← hNh, ← hLh] at oh
  rw [← hNh, ← HCd.out]
  have HNh := Shut.mk hNh
  have HLh := Shut.mk hLh
  clear hNh hLh
  have s3 := b3.size
  rw [World.size_alloc] at s3
  have th := Two.new w3 26 (.int .i64 Cd) (.slice Ah Nh ch)
  have tp3 := (tp.below b3 (by simp)).alloc (.cells #[.int .i64 Cd, .slice Ah Nh ch] 26) (by omega)
  have od3 := (od2.below b3).alloc (.cells #[.int .i64 Cd, .slice Ah Nh ch] 26)
  have pp3 := (pp.below b3).alloc (.cells #[.int .i64 Cd, .slice Ah Nh ch] 26)
  have ph3 := oh.bs.alloc (.cells #[.int .i64 Cd, .slice Ah Nh ch] 26)
  have B3 := ab (ac Bp b3) (.cells #[.int .i64 Cd, .slice Ah Nh ch] 26)
  go_wp2_with fail
  refine (drawMacOf_any _ _ _ _ _ (h.below B3) hn).mono ?_
  rintro e w4 ⟨⟨A4, c4, n4, r4, A5, c5, n5, r5, rfl, o4, o5, hn4, hn5, hc5⟩, b4⟩
  have B4 := ac B3 b4
  go_wp2_with fail
  refine (implMacOf_any _ _ _ _ _ _ _ _ _ (hT.keep B4) o4.bs o5.bs hc5 (by omega) (by omega)).mono ?_
  rintro e w5 ⟨⟨Am, cm, rfl, om⟩, b5⟩
  obtain ⟨Nm, hNm⟩ : ∃ N, N = mlen n4 n5 := ⟨_, rfl⟩
  obtain ⟨Lm, hLm⟩ : ∃ L, L = mbytes n4 n5 (macW r4 r5) := ⟨_, rfl⟩
  obtain ⟨Cm, hCm⟩ : ∃ C, C = mcode n4 n5 := ⟨_, rfl⟩
  rw [← hNm, ← hLm] at om
  rw [← hNm, ← hCm]
  have HNm := Shut.mk hNm
  have HLm := Shut.mk hLm
  have HCm := Shut.mk hCm
  clear hNm hLm hCm
  have s4 := b4.size
  rw [World.size_alloc] at s4
  have s5 := b5.size
  have b45 := (ac b4 b5)
  have X5 : Below w3.heap.size (w3.alloc (.cells #[.int .i64 Cd, .slice Ah Nh ch] 26)) (w5.alloc (.cells #[.int .i64 Cm, .slice Am Nm cm] 26)) := (ab b45 _).mono (by simp)
  have tm := Two.new w5 26 (.int .i64 Cm) (.slice Am Nm cm)
  have tp5 := tp3.below (ab b45 (.cells #[.int .i64 Cm, .slice Am Nm cm] 26)) (by simp; omega)
  have th5 := th.below (ab b45 (.cells #[.int .i64 Cm, .slice Am Nm cm] 26)) (by simp)
  have od5 := od3.below (ab b45 (.cells #[.int .i64 Cm, .slice Am Nm cm] 26))
  have pp5 := pp3.below (ab b45 (.cells #[.int .i64 Cm, .slice Am Nm cm] 26))
  have ph5 := ph3.below (ab b45 (.cells #[.int .i64 Cm, .slice Am Nm cm] 26))
  have p4 := (o4.bs.below b5).alloc (.cells #[.int .i64 Cm, .slice Am Nm cm] 26)
  have p5 := (o5.bs.below b5).alloc (.cells #[.int .i64 Cm, .slice Am Nm cm] 26)
  have pm5 := om.bs.alloc (.cells #[.int .i64 Cm, .slice Am Nm cm] 26)
  have B5 := ab (ac B4 b5) (.cells #[.int .i64 Cm, .slice Am Nm cm] 26)
  clear tp tp3 th od2 od3 pp pp3 ph3 b45 X5 b3 b4 b5 Bp B2 b2
  go_wp2_with fail
  refine (drawKeysOf_any _ _ _ _ _ (h.below B5) hn).mono ?_
  rintro e w6 ⟨⟨A6, c6, n6, r6, A7, c7, n7, r7, rfl, o6, o7, hn6, hn7, hc7⟩, b6⟩
  have B6 := ac B5 b6
  go_wp2_with fail
  refine (implKeysOf_any _ _ _ _ _ _ _ _ _ (hT.keep B6) o6.bs o7.bs hc7 (by omega) (by omega)).mono ?_
  rintro e w7 ⟨⟨Ak, ck, Aj, cj, rfl, ok, oj, _⟩, b7⟩
  obtain ⟨Nk, hNk⟩ : ∃ N, N = klen n6 n7 := ⟨_, rfl⟩
  obtain ⟨Lk, hLk⟩ : ∃ L, L = kbytes n6 n7 (firstW r6 r7) := ⟨_, rfl⟩
  obtain ⟨Lj, hLj⟩ : ∃ L, L = kbytes n6 n7 (otherW r6 r7) := ⟨_, rfl⟩
  obtain ⟨Ck, hCk⟩ : ∃ C, C = kcode n6 n7 := ⟨_, rfl⟩
  rw [← hNk, ← hLk] at ok
  rw [← hNk, ← hLj] at oj
  rw [← hNk, ← hCk]
  have HNk := Shut.mk hNk
  have HLk := Shut.mk hLk
  have HLj := Shut.mk hLj
  have HCk := Shut.mk hCk
  clear hNk hLk hLj hCk
  have s6 := b6.size
  rw [World.size_alloc] at s6
  have s7 := b7.size
  have B7 := ab (ac B6 b7) (.cells #[.int .i64 Ck, .slice Ak Nk ck, .slice Aj Nk cj] 32)
  go_wp2_with fail
  refine (specKeysOf_any _ _ _ _ _ _ _ _ _ ((o6.bs.below b7).alloc _) ((o7.bs.below b7).alloc _) hc7 (by omega) (by omega)).mono ?_
  rintro e w8 ⟨⟨Av, cv, Au, cu, rfl, ov, ou, _⟩, b8⟩
  rw [← HNk.out, ← HLk.out] at ov
  rw [← HNk.out, ← HLj.out] at ou
  rw [← HNk.out, ← HCk.out]
  have s8 := b8.size
  rw [World.size_alloc] at s8
  have hap7 := (ab (ac (ab (ac b6 b7) (.cells #[.int .i64 Ck, .slice Ak Nk ck, .slice Aj Nk cj] 32)) b8) (.cells #[.int .i64 Ck, .slice Av Nk cv, .slice Au Nk cu] 32))
  have tp9 := tp5.below hap7 (by simp; omega)
  have th9 := th5.below hap7 (by simp; omega)
  have tm9 := tm.below hap7 (by simp)
  have od9 := od5.below hap7
  have pp9 := pp5.below hap7
  have ph9 := ph5.below hap7
  have q4 := p4.below hap7
  have q5 := p5.below hap7
  have pm9 := pm5.below hap7
  have hap8 := (ab b8 (.cells #[.int .i64 Ck, .slice Av Nk cv, .slice Au Nk cu] 32))
  have tk9 := (Three.new w7 32 (.int .i64 Ck) (.slice Ak Nk ck) (.slice Aj Nk cj)).below hap8 (by simp)
  have pk9 := (ok.bs.alloc (.cells #[.int .i64 Ck, .slice Ak Nk ck, .slice Aj Nk cj] 32)).below hap8
  have pj9 := (oj.bs.alloc (.cells #[.int .i64 Ck, .slice Ak Nk ck, .slice Aj Nk cj] 32)).below hap8
  have tw9 := Three.new w8 32 (.int .i64 Ck) (.slice Av Nk cv) (.slice Au Nk cu)
  have pv9 := ov.bs.alloc (.cells #[.int .i64 Ck, .slice Av Nk cv, .slice Au Nk cu] 32)
  have pu9 := ou.bs.alloc (.cells #[.int .i64 Ck, .slice Av Nk cv, .slice Au Nk cu] 32)
  have B9 := ab (ac B7 b8) (.cells #[.int .i64 Ck, .slice Av Nk cv, .slice Au Nk cu] 32)
  have z9 : (w8.alloc (.cells #[.int .i64 Ck, .slice Av Nk cv, .slice Au Nk cu] 32)).heap.size = w8.heap.size + 1 := by rw [World.size_alloc]
  clear hap7 hap8 tp5 th5 tm od5 pp5 ph5 p4 p5 pm5 ok oj ov ou b6 b7 b8 B6 B7
  go_wp2_with fail
  generalize w8.alloc (.cells #[.int .i64 Ck, .slice Av Nk cv, .slice Au Nk cu] 32) = w9 at *
  obtain ⟨a0, a1, _, _⟩ := tp9.cells
  obtain ⟨a2, a3, _, _⟩ := th9.cells
  obtain ⟨a4, a5, _, _⟩ := tm9.cells
  obtain ⟨a6, a7, a8, _, _, _⟩ := tk9.cells
  obtain ⟨a9, a10, a11, _, _, _⟩ := tw9.cells
  have hmN : Np ≤ 2000 ∧ Nh ≤ 2000 ∧ Nm ≤ 2000 ∧ Nk ≤ 2000 := by
    have e1 := hpadlen m d od.len
    have e2 := hlen_le m
    have e3 := mlen_le n4 n5
    have e4 := klen_le n6 n7
    rw [← HNp.out] at e1
    rw [← HNh.out] at e2
    rw [← HNm.out] at e3
    rw [← HNk.out] at e4
    exact ⟨e1, e2, e3, e4⟩
  have GP : Shut (∀ W, (W.cell? ⟨w2.heap.size, 0, none⟩ = some (.int .i64 Cd) ∧ W.cell? ⟨w2.heap.size, 1, none⟩ = some (.slice Ap Np cp) ∧ W.cell? ⟨w3.heap.size, 0, none⟩ = some (.int .i64 Cd) ∧ W.cell? ⟨w3.heap.size, 1, none⟩ = some (.slice Ah Nh ch) ∧ W.cell? ⟨w5.heap.size, 0, none⟩ = some (.int .i64 Cm) ∧ W.cell? ⟨w5.heap.size, 1, none⟩ = some (.slice Am Nm cm) ∧ W.cell? ⟨w7.heap.size, 0, none⟩ = some (.int .i64 Ck) ∧ W.cell? ⟨w7.heap.size, 1, none⟩ = some (.slice Ak Nk ck) ∧ W.cell? ⟨w7.heap.size, 2, none⟩ = some (.slice Aj Nk cj) ∧ W.cell? ⟨w8.heap.size, 0, none⟩ = some (.int .i64 Ck) ∧ W.cell? ⟨w8.heap.size, 1, none⟩ = some (.slice Av Nk cv) ∧ W.cell? ⟨w8.heap.size, 2, none⟩ = some (.slice Au Nk cu) ∧ Below w9.heap.size w9 W) → Calls Tryd.prog 17 #[.slice A1 m c1] W fun e w' => (∃ A' c', e = .returned (.agg #[.int .i64 Cd, .slice A' Np c']) ∧ Bs w' A' Np Lp) ∧ w'.cell? ⟨w2.heap.size, 0, none⟩ = some (.int .i64 Cd) ∧ w'.cell? ⟨w2.heap.size, 1, none⟩ = some (.slice Ap Np cp) ∧ w'.cell? ⟨w3.heap.size, 0, none⟩ = some (.int .i64 Cd) ∧ w'.cell? ⟨w3.heap.size, 1, none⟩ = some (.slice Ah Nh ch) ∧ w'.cell? ⟨w5.heap.size, 0, none⟩ = some (.int .i64 Cm) ∧ w'.cell? ⟨w5.heap.size, 1, none⟩ = some (.slice Am Nm cm) ∧ w'.cell? ⟨w7.heap.size, 0, none⟩ = some (.int .i64 Ck) ∧ w'.cell? ⟨w7.heap.size, 1, none⟩ = some (.slice Ak Nk ck) ∧ w'.cell? ⟨w7.heap.size, 2, none⟩ = some (.slice Aj Nk cj) ∧ w'.cell? ⟨w8.heap.size, 0, none⟩ = some (.int .i64 Ck) ∧ w'.cell? ⟨w8.heap.size, 1, none⟩ = some (.slice Av Nk cv) ∧ w'.cell? ⟨w8.heap.size, 2, none⟩ = some (.slice Au Nk cu) ∧ Below w9.heap.size w9 w') := ⟨fun W ⟨_, _, _, _, _, _, _, _, _, _, _, _, hW⟩ => (specPadMessage_any A1 m c1 d W (od9.below hW) hdc (by omega)).mono fun e w' ⟨⟨A', c', he, ho⟩, hb⟩ => by
    have hB := ac hW hb
    exact ⟨⟨A', c', by first | exact he | (rw [HCd.out, HNp.out]; exact he), by (rw [HNp.out, HLp.out]; exact ho.bs)⟩, (tp9.below hB (by omega)).cells.1, (tp9.below hB (by omega)).cells.2.1, (th9.below hB (by omega)).cells.1, (th9.below hB (by omega)).cells.2.1, (tm9.below hB (by omega)).cells.1, (tm9.below hB (by omega)).cells.2.1, (tk9.below hB (by omega)).cells.1, (tk9.below hB (by omega)).cells.2.1, (tk9.below hB (by omega)).cells.2.2.1, (tw9.below hB (by omega)).cells.1, (tw9.below hB (by omega)).cells.2.1, (tw9.below hB (by omega)).cells.2.2.1, hB⟩⟩
  have GH : Shut (∀ W, (W.cell? ⟨w2.heap.size, 0, none⟩ = some (.int .i64 Cd) ∧ W.cell? ⟨w2.heap.size, 1, none⟩ = some (.slice Ap Np cp) ∧ W.cell? ⟨w3.heap.size, 0, none⟩ = some (.int .i64 Cd) ∧ W.cell? ⟨w3.heap.size, 1, none⟩ = some (.slice Ah Nh ch) ∧ W.cell? ⟨w5.heap.size, 0, none⟩ = some (.int .i64 Cm) ∧ W.cell? ⟨w5.heap.size, 1, none⟩ = some (.slice Am Nm cm) ∧ W.cell? ⟨w7.heap.size, 0, none⟩ = some (.int .i64 Ck) ∧ W.cell? ⟨w7.heap.size, 1, none⟩ = some (.slice Ak Nk ck) ∧ W.cell? ⟨w7.heap.size, 2, none⟩ = some (.slice Aj Nk cj) ∧ W.cell? ⟨w8.heap.size, 0, none⟩ = some (.int .i64 Ck) ∧ W.cell? ⟨w8.heap.size, 1, none⟩ = some (.slice Av Nk cv) ∧ W.cell? ⟨w8.heap.size, 2, none⟩ = some (.slice Au Nk cu) ∧ Below w9.heap.size w9 W) → Calls Tryd.prog 18 #[.slice A1 m c1] W fun e w' => (∃ A' c', e = .returned (.agg #[.int .i64 Cd, .slice A' Nh c']) ∧ Bs w' A' Nh Lh) ∧ w'.cell? ⟨w2.heap.size, 0, none⟩ = some (.int .i64 Cd) ∧ w'.cell? ⟨w2.heap.size, 1, none⟩ = some (.slice Ap Np cp) ∧ w'.cell? ⟨w3.heap.size, 0, none⟩ = some (.int .i64 Cd) ∧ w'.cell? ⟨w3.heap.size, 1, none⟩ = some (.slice Ah Nh ch) ∧ w'.cell? ⟨w5.heap.size, 0, none⟩ = some (.int .i64 Cm) ∧ w'.cell? ⟨w5.heap.size, 1, none⟩ = some (.slice Am Nm cm) ∧ w'.cell? ⟨w7.heap.size, 0, none⟩ = some (.int .i64 Ck) ∧ w'.cell? ⟨w7.heap.size, 1, none⟩ = some (.slice Ak Nk ck) ∧ w'.cell? ⟨w7.heap.size, 2, none⟩ = some (.slice Aj Nk cj) ∧ w'.cell? ⟨w8.heap.size, 0, none⟩ = some (.int .i64 Ck) ∧ w'.cell? ⟨w8.heap.size, 1, none⟩ = some (.slice Av Nk cv) ∧ w'.cell? ⟨w8.heap.size, 2, none⟩ = some (.slice Au Nk cu) ∧ Below w9.heap.size w9 w') := ⟨fun W ⟨_, _, _, _, _, _, _, _, _, _, _, _, hW⟩ => (specHashOf_any A1 m c1 d W (od9.below hW) hdc (by omega)).mono fun e w' ⟨⟨A', c', he, ho⟩, hb⟩ => by
    have hB := ac hW hb
    exact ⟨⟨A', c', by first | exact he | (rw [HCd.out, HNh.out]; exact he), by (rw [HNh.out, HLh.out]; exact ho.bs)⟩, (tp9.below hB (by omega)).cells.1, (tp9.below hB (by omega)).cells.2.1, (th9.below hB (by omega)).cells.1, (th9.below hB (by omega)).cells.2.1, (tm9.below hB (by omega)).cells.1, (tm9.below hB (by omega)).cells.2.1, (tk9.below hB (by omega)).cells.1, (tk9.below hB (by omega)).cells.2.1, (tk9.below hB (by omega)).cells.2.2.1, (tw9.below hB (by omega)).cells.1, (tw9.below hB (by omega)).cells.2.1, (tw9.below hB (by omega)).cells.2.2.1, hB⟩⟩
  have GM : Shut (∀ W, (W.cell? ⟨w2.heap.size, 0, none⟩ = some (.int .i64 Cd) ∧ W.cell? ⟨w2.heap.size, 1, none⟩ = some (.slice Ap Np cp) ∧ W.cell? ⟨w3.heap.size, 0, none⟩ = some (.int .i64 Cd) ∧ W.cell? ⟨w3.heap.size, 1, none⟩ = some (.slice Ah Nh ch) ∧ W.cell? ⟨w5.heap.size, 0, none⟩ = some (.int .i64 Cm) ∧ W.cell? ⟨w5.heap.size, 1, none⟩ = some (.slice Am Nm cm) ∧ W.cell? ⟨w7.heap.size, 0, none⟩ = some (.int .i64 Ck) ∧ W.cell? ⟨w7.heap.size, 1, none⟩ = some (.slice Ak Nk ck) ∧ W.cell? ⟨w7.heap.size, 2, none⟩ = some (.slice Aj Nk cj) ∧ W.cell? ⟨w8.heap.size, 0, none⟩ = some (.int .i64 Ck) ∧ W.cell? ⟨w8.heap.size, 1, none⟩ = some (.slice Av Nk cv) ∧ W.cell? ⟨w8.heap.size, 2, none⟩ = some (.slice Au Nk cu) ∧ Below w9.heap.size w9 W) → Calls Tryd.prog 19 #[.slice A4 n4 c4, .slice A5 n5 c5] W fun e w' => (∃ A' c', e = .returned (.agg #[.int .i64 Cm, .slice A' Nm c']) ∧ Bs w' A' Nm Lm) ∧ w'.cell? ⟨w2.heap.size, 0, none⟩ = some (.int .i64 Cd) ∧ w'.cell? ⟨w2.heap.size, 1, none⟩ = some (.slice Ap Np cp) ∧ w'.cell? ⟨w3.heap.size, 0, none⟩ = some (.int .i64 Cd) ∧ w'.cell? ⟨w3.heap.size, 1, none⟩ = some (.slice Ah Nh ch) ∧ w'.cell? ⟨w5.heap.size, 0, none⟩ = some (.int .i64 Cm) ∧ w'.cell? ⟨w5.heap.size, 1, none⟩ = some (.slice Am Nm cm) ∧ w'.cell? ⟨w7.heap.size, 0, none⟩ = some (.int .i64 Ck) ∧ w'.cell? ⟨w7.heap.size, 1, none⟩ = some (.slice Ak Nk ck) ∧ w'.cell? ⟨w7.heap.size, 2, none⟩ = some (.slice Aj Nk cj) ∧ w'.cell? ⟨w8.heap.size, 0, none⟩ = some (.int .i64 Ck) ∧ w'.cell? ⟨w8.heap.size, 1, none⟩ = some (.slice Av Nk cv) ∧ w'.cell? ⟨w8.heap.size, 2, none⟩ = some (.slice Au Nk cu) ∧ Below w9.heap.size w9 w') := ⟨fun W ⟨_, _, _, _, _, _, _, _, _, _, _, _, hW⟩ => (specMacOf_any A4 A5 n4 c4 n5 c5 r4 r5 W (q4.below hW) (q5.below hW) hc5 (by omega) (by omega)).mono fun e w' ⟨⟨A', c', he, ho⟩, hb⟩ => by
    have hB := ac hW hb
    exact ⟨⟨A', c', by first | exact he | (rw [HCm.out, HNm.out]; exact he), by (rw [HNm.out, HLm.out]; exact ho.bs)⟩, (tp9.below hB (by omega)).cells.1, (tp9.below hB (by omega)).cells.2.1, (th9.below hB (by omega)).cells.1, (th9.below hB (by omega)).cells.2.1, (tm9.below hB (by omega)).cells.1, (tm9.below hB (by omega)).cells.2.1, (tk9.below hB (by omega)).cells.1, (tk9.below hB (by omega)).cells.2.1, (tk9.below hB (by omega)).cells.2.2.1, (tw9.below hB (by omega)).cells.1, (tw9.below hB (by omega)).cells.2.1, (tw9.below hB (by omega)).cells.2.2.1, hB⟩⟩
  have KP : Shut (∀ W A' c', (W.cell? ⟨w2.heap.size, 0, none⟩ = some (.int .i64 Cd) ∧ W.cell? ⟨w2.heap.size, 1, none⟩ = some (.slice Ap Np cp) ∧ W.cell? ⟨w3.heap.size, 0, none⟩ = some (.int .i64 Cd) ∧ W.cell? ⟨w3.heap.size, 1, none⟩ = some (.slice Ah Nh ch) ∧ W.cell? ⟨w5.heap.size, 0, none⟩ = some (.int .i64 Cm) ∧ W.cell? ⟨w5.heap.size, 1, none⟩ = some (.slice Am Nm cm) ∧ W.cell? ⟨w7.heap.size, 0, none⟩ = some (.int .i64 Ck) ∧ W.cell? ⟨w7.heap.size, 1, none⟩ = some (.slice Ak Nk ck) ∧ W.cell? ⟨w7.heap.size, 2, none⟩ = some (.slice Aj Nk cj) ∧ W.cell? ⟨w8.heap.size, 0, none⟩ = some (.int .i64 Ck) ∧ W.cell? ⟨w8.heap.size, 1, none⟩ = some (.slice Av Nk cv) ∧ W.cell? ⟨w8.heap.size, 2, none⟩ = some (.slice Au Nk cu) ∧ Below w9.heap.size w9 W) → Bs W A' Np Lp → Calls Tryd.prog 16 #[.agg #[.int .i64 Cd, .slice Ap Np cp], .agg #[.int .i64 Cd, .slice A' Np c']] W fun e w' => e = .returned (.bool true) ∧ w'.cell? ⟨w2.heap.size, 0, none⟩ = some (.int .i64 Cd) ∧ w'.cell? ⟨w2.heap.size, 1, none⟩ = some (.slice Ap Np cp) ∧ w'.cell? ⟨w3.heap.size, 0, none⟩ = some (.int .i64 Cd) ∧ w'.cell? ⟨w3.heap.size, 1, none⟩ = some (.slice Ah Nh ch) ∧ w'.cell? ⟨w5.heap.size, 0, none⟩ = some (.int .i64 Cm) ∧ w'.cell? ⟨w5.heap.size, 1, none⟩ = some (.slice Am Nm cm) ∧ w'.cell? ⟨w7.heap.size, 0, none⟩ = some (.int .i64 Ck) ∧ w'.cell? ⟨w7.heap.size, 1, none⟩ = some (.slice Ak Nk ck) ∧ w'.cell? ⟨w7.heap.size, 2, none⟩ = some (.slice Aj Nk cj) ∧ w'.cell? ⟨w8.heap.size, 0, none⟩ = some (.int .i64 Ck) ∧ w'.cell? ⟨w8.heap.size, 1, none⟩ = some (.slice Av Nk cv) ∧ w'.cell? ⟨w8.heap.size, 2, none⟩ = some (.slice Au Nk cu) ∧ Below w9.heap.size w9 w') := ⟨fun W A' c' ⟨_, _, _, _, _, _, _, _, _, _, _, _, hW⟩ hs => (lwBytes_any _ _ _ _ _ _ _ _ _ _ W (pp9.below hW) hs).mono fun e w' ⟨he, hb⟩ => by
    have hB := ac hW hb
    exact ⟨by rw [he]; simp, (tp9.below hB (by omega)).cells.1, (tp9.below hB (by omega)).cells.2.1, (th9.below hB (by omega)).cells.1, (th9.below hB (by omega)).cells.2.1, (tm9.below hB (by omega)).cells.1, (tm9.below hB (by omega)).cells.2.1, (tk9.below hB (by omega)).cells.1, (tk9.below hB (by omega)).cells.2.1, (tk9.below hB (by omega)).cells.2.2.1, (tw9.below hB (by omega)).cells.1, (tw9.below hB (by omega)).cells.2.1, (tw9.below hB (by omega)).cells.2.2.1, hB⟩⟩
  have KH : Shut (∀ W A' c', (W.cell? ⟨w2.heap.size, 0, none⟩ = some (.int .i64 Cd) ∧ W.cell? ⟨w2.heap.size, 1, none⟩ = some (.slice Ap Np cp) ∧ W.cell? ⟨w3.heap.size, 0, none⟩ = some (.int .i64 Cd) ∧ W.cell? ⟨w3.heap.size, 1, none⟩ = some (.slice Ah Nh ch) ∧ W.cell? ⟨w5.heap.size, 0, none⟩ = some (.int .i64 Cm) ∧ W.cell? ⟨w5.heap.size, 1, none⟩ = some (.slice Am Nm cm) ∧ W.cell? ⟨w7.heap.size, 0, none⟩ = some (.int .i64 Ck) ∧ W.cell? ⟨w7.heap.size, 1, none⟩ = some (.slice Ak Nk ck) ∧ W.cell? ⟨w7.heap.size, 2, none⟩ = some (.slice Aj Nk cj) ∧ W.cell? ⟨w8.heap.size, 0, none⟩ = some (.int .i64 Ck) ∧ W.cell? ⟨w8.heap.size, 1, none⟩ = some (.slice Av Nk cv) ∧ W.cell? ⟨w8.heap.size, 2, none⟩ = some (.slice Au Nk cu) ∧ Below w9.heap.size w9 W) → Bs W A' Nh Lh → Calls Tryd.prog 16 #[.agg #[.int .i64 Cd, .slice Ah Nh ch], .agg #[.int .i64 Cd, .slice A' Nh c']] W fun e w' => e = .returned (.bool true) ∧ w'.cell? ⟨w2.heap.size, 0, none⟩ = some (.int .i64 Cd) ∧ w'.cell? ⟨w2.heap.size, 1, none⟩ = some (.slice Ap Np cp) ∧ w'.cell? ⟨w3.heap.size, 0, none⟩ = some (.int .i64 Cd) ∧ w'.cell? ⟨w3.heap.size, 1, none⟩ = some (.slice Ah Nh ch) ∧ w'.cell? ⟨w5.heap.size, 0, none⟩ = some (.int .i64 Cm) ∧ w'.cell? ⟨w5.heap.size, 1, none⟩ = some (.slice Am Nm cm) ∧ w'.cell? ⟨w7.heap.size, 0, none⟩ = some (.int .i64 Ck) ∧ w'.cell? ⟨w7.heap.size, 1, none⟩ = some (.slice Ak Nk ck) ∧ w'.cell? ⟨w7.heap.size, 2, none⟩ = some (.slice Aj Nk cj) ∧ w'.cell? ⟨w8.heap.size, 0, none⟩ = some (.int .i64 Ck) ∧ w'.cell? ⟨w8.heap.size, 1, none⟩ = some (.slice Av Nk cv) ∧ w'.cell? ⟨w8.heap.size, 2, none⟩ = some (.slice Au Nk cu) ∧ Below w9.heap.size w9 w') := ⟨fun W A' c' ⟨_, _, _, _, _, _, _, _, _, _, _, _, hW⟩ hs => (lwBytes_any _ _ _ _ _ _ _ _ _ _ W (ph9.below hW) hs).mono fun e w' ⟨he, hb⟩ => by
    have hB := ac hW hb
    exact ⟨by rw [he]; simp, (tp9.below hB (by omega)).cells.1, (tp9.below hB (by omega)).cells.2.1, (th9.below hB (by omega)).cells.1, (th9.below hB (by omega)).cells.2.1, (tm9.below hB (by omega)).cells.1, (tm9.below hB (by omega)).cells.2.1, (tk9.below hB (by omega)).cells.1, (tk9.below hB (by omega)).cells.2.1, (tk9.below hB (by omega)).cells.2.2.1, (tw9.below hB (by omega)).cells.1, (tw9.below hB (by omega)).cells.2.1, (tw9.below hB (by omega)).cells.2.2.1, hB⟩⟩
  have KM : Shut (∀ W A' c', (W.cell? ⟨w2.heap.size, 0, none⟩ = some (.int .i64 Cd) ∧ W.cell? ⟨w2.heap.size, 1, none⟩ = some (.slice Ap Np cp) ∧ W.cell? ⟨w3.heap.size, 0, none⟩ = some (.int .i64 Cd) ∧ W.cell? ⟨w3.heap.size, 1, none⟩ = some (.slice Ah Nh ch) ∧ W.cell? ⟨w5.heap.size, 0, none⟩ = some (.int .i64 Cm) ∧ W.cell? ⟨w5.heap.size, 1, none⟩ = some (.slice Am Nm cm) ∧ W.cell? ⟨w7.heap.size, 0, none⟩ = some (.int .i64 Ck) ∧ W.cell? ⟨w7.heap.size, 1, none⟩ = some (.slice Ak Nk ck) ∧ W.cell? ⟨w7.heap.size, 2, none⟩ = some (.slice Aj Nk cj) ∧ W.cell? ⟨w8.heap.size, 0, none⟩ = some (.int .i64 Ck) ∧ W.cell? ⟨w8.heap.size, 1, none⟩ = some (.slice Av Nk cv) ∧ W.cell? ⟨w8.heap.size, 2, none⟩ = some (.slice Au Nk cu) ∧ Below w9.heap.size w9 W) → Bs W A' Nm Lm → Calls Tryd.prog 16 #[.agg #[.int .i64 Cm, .slice Am Nm cm], .agg #[.int .i64 Cm, .slice A' Nm c']] W fun e w' => e = .returned (.bool true) ∧ w'.cell? ⟨w2.heap.size, 0, none⟩ = some (.int .i64 Cd) ∧ w'.cell? ⟨w2.heap.size, 1, none⟩ = some (.slice Ap Np cp) ∧ w'.cell? ⟨w3.heap.size, 0, none⟩ = some (.int .i64 Cd) ∧ w'.cell? ⟨w3.heap.size, 1, none⟩ = some (.slice Ah Nh ch) ∧ w'.cell? ⟨w5.heap.size, 0, none⟩ = some (.int .i64 Cm) ∧ w'.cell? ⟨w5.heap.size, 1, none⟩ = some (.slice Am Nm cm) ∧ w'.cell? ⟨w7.heap.size, 0, none⟩ = some (.int .i64 Ck) ∧ w'.cell? ⟨w7.heap.size, 1, none⟩ = some (.slice Ak Nk ck) ∧ w'.cell? ⟨w7.heap.size, 2, none⟩ = some (.slice Aj Nk cj) ∧ w'.cell? ⟨w8.heap.size, 0, none⟩ = some (.int .i64 Ck) ∧ w'.cell? ⟨w8.heap.size, 1, none⟩ = some (.slice Av Nk cv) ∧ w'.cell? ⟨w8.heap.size, 2, none⟩ = some (.slice Au Nk cu) ∧ Below w9.heap.size w9 w') := ⟨fun W A' c' ⟨_, _, _, _, _, _, _, _, _, _, _, _, hW⟩ hs => (lwBytes_any _ _ _ _ _ _ _ _ _ _ W (pm9.below hW) hs).mono fun e w' ⟨he, hb⟩ => by
    have hB := ac hW hb
    exact ⟨by rw [he]; simp, (tp9.below hB (by omega)).cells.1, (tp9.below hB (by omega)).cells.2.1, (th9.below hB (by omega)).cells.1, (th9.below hB (by omega)).cells.2.1, (tm9.below hB (by omega)).cells.1, (tm9.below hB (by omega)).cells.2.1, (tk9.below hB (by omega)).cells.1, (tk9.below hB (by omega)).cells.2.1, (tk9.below hB (by omega)).cells.2.2.1, (tw9.below hB (by omega)).cells.1, (tw9.below hB (by omega)).cells.2.1, (tw9.below hB (by omega)).cells.2.2.1, hB⟩⟩
  have KF : Shut (∀ W, (W.cell? ⟨w2.heap.size, 0, none⟩ = some (.int .i64 Cd) ∧ W.cell? ⟨w2.heap.size, 1, none⟩ = some (.slice Ap Np cp) ∧ W.cell? ⟨w3.heap.size, 0, none⟩ = some (.int .i64 Cd) ∧ W.cell? ⟨w3.heap.size, 1, none⟩ = some (.slice Ah Nh ch) ∧ W.cell? ⟨w5.heap.size, 0, none⟩ = some (.int .i64 Cm) ∧ W.cell? ⟨w5.heap.size, 1, none⟩ = some (.slice Am Nm cm) ∧ W.cell? ⟨w7.heap.size, 0, none⟩ = some (.int .i64 Ck) ∧ W.cell? ⟨w7.heap.size, 1, none⟩ = some (.slice Ak Nk ck) ∧ W.cell? ⟨w7.heap.size, 2, none⟩ = some (.slice Aj Nk cj) ∧ W.cell? ⟨w8.heap.size, 0, none⟩ = some (.int .i64 Ck) ∧ W.cell? ⟨w8.heap.size, 1, none⟩ = some (.slice Av Nk cv) ∧ W.cell? ⟨w8.heap.size, 2, none⟩ = some (.slice Au Nk cu) ∧ Below w9.heap.size w9 W) → Calls Tryd.prog 20 #[.slice Ak Nk ck, .slice Av Nk cv] W fun e w' => e = .returned (.bool true) ∧ W = w') := ⟨fun W ⟨_, _, _, _, _, _, _, _, _, _, _, _, hW⟩ => (lwSame_any _ _ _ _ _ _ _ _ W (pk9.below hW) (pv9.below hW)).mono fun e w' ⟨he, hb⟩ => ⟨by rw [he]; simp, hb⟩⟩
  have KO : Shut (∀ W, (W.cell? ⟨w2.heap.size, 0, none⟩ = some (.int .i64 Cd) ∧ W.cell? ⟨w2.heap.size, 1, none⟩ = some (.slice Ap Np cp) ∧ W.cell? ⟨w3.heap.size, 0, none⟩ = some (.int .i64 Cd) ∧ W.cell? ⟨w3.heap.size, 1, none⟩ = some (.slice Ah Nh ch) ∧ W.cell? ⟨w5.heap.size, 0, none⟩ = some (.int .i64 Cm) ∧ W.cell? ⟨w5.heap.size, 1, none⟩ = some (.slice Am Nm cm) ∧ W.cell? ⟨w7.heap.size, 0, none⟩ = some (.int .i64 Ck) ∧ W.cell? ⟨w7.heap.size, 1, none⟩ = some (.slice Ak Nk ck) ∧ W.cell? ⟨w7.heap.size, 2, none⟩ = some (.slice Aj Nk cj) ∧ W.cell? ⟨w8.heap.size, 0, none⟩ = some (.int .i64 Ck) ∧ W.cell? ⟨w8.heap.size, 1, none⟩ = some (.slice Av Nk cv) ∧ W.cell? ⟨w8.heap.size, 2, none⟩ = some (.slice Au Nk cu) ∧ Below w9.heap.size w9 W) → Calls Tryd.prog 20 #[.slice Aj Nk cj, .slice Au Nk cu] W fun e w' => e = .returned (.bool true) ∧ W = w') := ⟨fun W ⟨_, _, _, _, _, _, _, _, _, _, _, _, hW⟩ => (lwSame_any _ _ _ _ _ _ _ _ W (pj9.below hW) (pu9.below hW)).mono fun e w' ⟨he, hb⟩ => ⟨by rw [he]; simp, hb⟩⟩
  have hW9 := Below.refl w9.heap.size w9
  go_region_held3 (fun W => W.cell? ⟨w2.heap.size, 0, none⟩ = some (.int .i64 Cd) ∧ W.cell? ⟨w2.heap.size, 1, none⟩ = some (.slice Ap Np cp) ∧ W.cell? ⟨w3.heap.size, 0, none⟩ = some (.int .i64 Cd) ∧ W.cell? ⟨w3.heap.size, 1, none⟩ = some (.slice Ah Nh ch) ∧ W.cell? ⟨w5.heap.size, 0, none⟩ = some (.int .i64 Cm) ∧ W.cell? ⟨w5.heap.size, 1, none⟩ = some (.slice Am Nm cm) ∧ W.cell? ⟨w7.heap.size, 0, none⟩ = some (.int .i64 Ck) ∧ W.cell? ⟨w7.heap.size, 1, none⟩ = some (.slice Ak Nk ck) ∧ W.cell? ⟨w7.heap.size, 2, none⟩ = some (.slice Aj Nk cj) ∧ W.cell? ⟨w8.heap.size, 0, none⟩ = some (.int .i64 Ck) ∧ W.cell? ⟨w8.heap.size, 1, none⟩ = some (.slice Av Nk cv) ∧ W.cell? ⟨w8.heap.size, 2, none⟩ = some (.slice Au Nk cu) ∧ Below w9.heap.size w9 W)
    (first | (exact ⟨by assumption, by assumption, by assumption, by assumption, by assumption, by assumption, by assumption, by assumption, by assumption, by assumption, by assumption, by assumption, by assumption⟩) | (exact ⟨a0, a1, a2, a3, a4, a5, a6, a7, a8, a9, a10, a11, hW9.drew⟩) | go_keep)
    (first
      | (go_at_call 17; refine (GP.out _ ?_).mono ?_; (first | assumption | (simp [*]; done)); rintro e w' ⟨⟨A', c', rfl, ho⟩, z0, z1, z2, z3, z4, z5, z6, z7, z8, z9, z10, z11, z12⟩)
      | (go_at_call 18; refine (GH.out _ ?_).mono ?_; (first | assumption | (simp [*]; done)); rintro e w' ⟨⟨A', c', rfl, ho⟩, z0, z1, z2, z3, z4, z5, z6, z7, z8, z9, z10, z11, z12⟩)
      | (go_at_call 19; refine (GM.out _ ?_).mono ?_; (first | assumption | (simp [*]; done)); rintro e w' ⟨⟨A', c', rfl, ho⟩, z0, z1, z2, z3, z4, z5, z6, z7, z8, z9, z10, z11, z12⟩)
      | (go_at_call 16; ((with_reducible refine (KP.out _ _ _ ?_ ?_).mono ?_); (first | assumption | (simp [*]; done)); assumption; rintro e w' ⟨rfl, z0, z1, z2, z3, z4, z5, z6, z7, z8, z9, z10, z11, z12⟩))
      | (go_at_call 16; ((with_reducible refine (KH.out _ _ _ ?_ ?_).mono ?_); (first | assumption | (simp [*]; done)); assumption; rintro e w' ⟨rfl, z0, z1, z2, z3, z4, z5, z6, z7, z8, z9, z10, z11, z12⟩))
      | (go_at_call 16; ((with_reducible refine (KM.out _ _ _ ?_ ?_).mono ?_); (first | assumption | (simp [*]; done)); assumption; rintro e w' ⟨rfl, z0, z1, z2, z3, z4, z5, z6, z7, z8, z9, z10, z11, z12⟩))
      | (go_at_call 20; ((with_reducible refine (KF.out _ ?_).mono ?_); (first | assumption | (simp [*]; done)); rintro e w' ⟨rfl, rfl⟩))
      | (go_at_call 20; ((with_reducible refine (KO.out _ ?_).mono ?_); (first | assumption | (simp [*]; done)); rintro e w' ⟨rfl, rfl⟩)))
  have zE : Below w9.heap.size w9 w' := by assumption
  have D1 : (Cd = 0 ∧ Nh = 32 ∧ (Np : Int) % 64 = 0 ∧ (m : Int) + 9 ≤ (Np : Int) ∧ (Np : Int) ≤ (m : Int) + 72 ∧ m ≤ Np ∧ Shut (Calls Tryd.prog 20 #[.slice Ap m cp, .slice A1 m c1] w' fun e w'' => e = .returned (.bool true) ∧ w' = w'')) ∨ Cd = 2 := by
    rw [HCd.out, HNh.out]
    by_cases hok : m ≤ 1000
    · refine .inl ?_
      have e1 : Np = (padW d).length := by rw [HNp.out]; simp [hlen, hok]
      have e2 : Lp = padW d := by rw [HLp.out]; simp [hbytes, hok]
      have e3 := padW_len d
      have e4 := padW_whole d
      have e5 := padN_lt d.length
      have e6 := od.len
      have pp10 := (pp9.below zE).take_ m (by omega)
      rw [e2] at pp10
      have e7 : (padW d).take m = d := by
        unfold padW
        rw [List.append_assoc, List.append_assoc, List.append_assoc, List.take_left' e6]
      rw [e7] at pp10
      refine ⟨by simp [hcode, hok], by simp [hlen, hok], by omega, by omega, by omega, by omega, ⟨(lwSame_any _ _ _ _ _ _ _ _ w' pp10 (od9.below zE)).mono fun e w'' ⟨he, hb⟩ => ⟨by rw [he]; simp, hb⟩⟩⟩
    · exact .inr (by simp [hcode, hok])
  have D2 : (Cm = 0 ∧ Nm = 32) ∨ Cm = 2 := by
    rw [HCm.out, HNm.out]
    by_cases hok : mok n4 n5 = true
    · exact .inl ⟨by simp [mcode, hok], by simp [mlen, hok]⟩
    · exact .inr (by simp [mcode, hok])
  have D3 : (Ck = 0 ∧ Nk = 32) ∨ Ck = 2 ∨ Ck = 3 := by
    rw [HCk.out, HNk.out]
    unfold kcode klen
    by_cases h1 : n6 = 32
    · by_cases h2 : n7 ≤ 1000
      · exact .inl (by simp [h1, h2])
      · exact .inr (.inl (by simp [h1, h2]))
    · exact .inr (.inr (by simp [h1]))
  have Bz := ac B9 zE
  obtain ⟨hm1, hm2, hm3, hm4⟩ := hmN
  have hmc : Np ≤ cp := hcp
  clear GP GH GM KP KH KM KF KO a0 a1 a2 a3 a4 a5 a6 a7 a8 a9 a10 a11 tp9 th9 tm9 tk9 tw9 od9 pp9 ph9 pm9 pk9 pj9 pv9 pu9 q4 q5 B9 hW9 od
  rcases D1 with ⟨rfl, rfl, h64, h9, h72, hle, KS⟩ | rfl
  all_goals
    rcases D2 with ⟨rfl, rfl⟩ | rfl
    all_goals
      rcases D3 with ⟨rfl, rfl⟩ | rfl | rfl
      all_goals
        try (have hmc2 : (m : Int) ≤ (cp : Int) := by omega)
        go_wp2_with (go_at_call 20; refine KS.out.mono ?_; rintro e w'' ⟨rfl, rfl⟩)
        go_ret
        exact ⟨rfl, Bz⟩

theorem hashes_all (A : Option Addr) (n c : Nat) (l : List Int) (w : World) (hT : Tabs w) (h : Bs w A n l) (hm : n ≤ 9223372036854775807) :
    Calls Tryd.prog 3 #[.slice A n c] w fun e w' => e = .returned (.bool true) ∧ Below w.heap.size w w' := by
  by_cases hl0 : n ≤ 1048576
  · exact hashes_walk A n c l w hT h hl0
  · have Hd : Shut (decide (1048576 < n) = true) := ⟨by simp; omega⟩
    go_enter Tryd.func3, Tryd.ntmps3
    go_wp2_with fail
    refine (lwBig_any _ _ _ _ hm).mono ?_
    rintro e w1 ⟨rfl, rfl⟩
    rw [Hd.out]
    go_wp2
    go_ret
    exact ⟨rfl, Below.refl _ _⟩
end Go.Proofs.YtbjcgdgebbiieaaDoor
