/- The walk of the exact law of ShakeFault; its argument opened. -/
import Derived.Test.YtknkadmngdaakaaDoorShakeC
namespace Go.Proofs.YtknkadmngdaakaaDoor
open Go.RowKit Go.ChangeShapes Go.WideShapes Go.ChangeAt

set_option maxHeartbeats 1000000 in
theorem toShake_any (a b c d t p m : Int) (w : World) :
    Calls Tryd.prog 27 #[.agg #[.int .i64 a, .int .i64 b, .int .i64 c, .int .i64 d, .int .i64 t, .int .i64 p, .int .i64 m]] w fun e w' => e = .returned (.agg #[.int .i64 a, .int .i64 b, .int .i64 c, .int .i64 d, .int .i64 t, .int .i64 p, .int .i64 m]) ∧ Below w.heap.size w w' := by
  go_enter Tryd.func27, Tryd.ntmps27
  go_wp2
  refine bodyPost_ret (v := .agg #[.int .i64 a, .int .i64 b, .int .i64 c, .int .i64 d, .int .i64 t, .int .i64 p, .int .i64 m]) (by simp [results, Tryd.results27, go_sem]) rfl ?_
  exact ⟨rfl, by go_grown⟩

theorem exactShakeFault_all (a b c d t p m : Int) (w : World) (hT : Last w) :
    Calls Tryd.prog 6 #[.agg #[.int .i64 a, .int .i64 b, .int .i64 c, .int .i64 d, .int .i64 t, .int .i64 p, .int .i64 m]] w fun e w' => e = .returned (.bool true) ∧ Below w.heap.size w w' := by
  have c1 := fun W => specShakeFault_any a b c d t p m W
  have c2 := fun W (h : Last W) => implShakeFault_any a b c d t p m W h
  generalize shakeC a b c d t p m = Z at *
  have B0 := ab (Below.refl _ w) (.cells #[.int .i64 a, .int .i64 b, .int .i64 c, .int .i64 d, .int .i64 t, .int .i64 p, .int .i64 m] 46)
  have S0 := Stc.new w 46 [.int .i64 a, .int .i64 b, .int .i64 c, .int .i64 d, .int .i64 t, .int .i64 p, .int .i64 m] _ rfl
  go_enter Tryd.func6, Tryd.ntmps6
  go_wp2_with fail
  refine (toShake_any _ _ _ _ _ _ _ _).mono ?_
  rintro e w1 ⟨rfl, b1⟩
  have B1 := ac B0 b1
  replace S0 := S0.below b1 S0.lt
  go_wp2_with fail
  refine (c1 _).mono ?_
  rintro e w2 ⟨rfl, b2⟩
  have B2 := ac B1 b2
  replace S0 := S0.below b2 S0.lt
  have x0 := S0.cell (i := 0) rfl
  have x1 := S0.cell (i := 1) rfl
  have x2 := S0.cell (i := 2) rfl
  have x3 := S0.cell (i := 3) rfl
  have x4 := S0.cell (i := 4) rfl
  have x5 := S0.cell (i := 5) rfl
  have x6 := S0.cell (i := 6) rfl
  go_wp2_with fail
  refine (toShake_any _ _ _ _ _ _ _ _).mono ?_
  rintro e w3 ⟨rfl, b3⟩
  have B3 := ac B2 b3
  go_wp2_with fail
  refine (c2 _ (hT.keep B3)).mono ?_
  rintro e w4 ⟨rfl, b4⟩
  go_wp2
  go_ret
  exact ⟨rfl, ac B3 b4⟩

theorem shakeOpen {H : Type} {enc : TypeId × Value → H} {W : World} {base : Nat} {v : Value} {d : DataW H} {p : List MemPlace} (hv : Value.okWide Tryd.prog W .any base 46 v) (h : DataW.Trod enc Tryd.prog W 0 (fun _ => true) true 46 v d p) :
    ∃ a b c d t p m : Int, v = .agg #[.int .i64 a, .int .i64 b, .int .i64 c, .int .i64 d, .int .i64 t, .int .i64 p, .int .i64 m] := by
  obtain ⟨cs, rfl, hsz⟩ := okWide_struct Tryd.underlying46 hv
  have h7 : Tryd.prog.cellsOf 46 = 7 := by kernel_rfl
  have h1 : Tryd.prog.cellsOf 2 = 1 := by kernel_rfl
  rw [h7] at hsz
  obtain ⟨l⟩ := cs
  simp only [List.size_toArray] at hsz
  rcases l with _ | ⟨v0, _ | ⟨v1, _ | ⟨v2, _ | ⟨v3, _ | ⟨v4, _ | ⟨v5, _ | ⟨v6, _ | ⟨v7, r⟩⟩⟩⟩⟩⟩⟩⟩ <;> simp at hsz
  obtain ⟨fuel, hf⟩ := h
  obtain ⟨xs, n, _, _, _, hlen, hx⟩ := DataW.trod_struct Tryd.underlying46 hf
  rcases xs with _ | ⟨y0, _ | ⟨y1, _ | ⟨y2, _ | ⟨y3, _ | ⟨y4, _ | ⟨y5, _ | ⟨y6, _ | ⟨y7, r⟩⟩⟩⟩⟩⟩⟩⟩ <;> simp at hlen

  have e0 : DataW.trod enc Tryd.prog W 0 (fun _ => true) true n 2 [v0] = some y0 := by simpa [h1, Value.cells] using hx 0 _ rfl
  obtain ⟨z0, k0, _, _⟩ := DataW.trod_int Tryd.underlying2 e0
  simp at k0
  have e1 : DataW.trod enc Tryd.prog W 0 (fun _ => true) true n 2 [v1] = some y1 := by simpa [h1, Value.cells] using hx 1 _ rfl
  obtain ⟨z1, k1, _, _⟩ := DataW.trod_int Tryd.underlying2 e1
  simp at k1
  have e2 : DataW.trod enc Tryd.prog W 0 (fun _ => true) true n 2 [v2] = some y2 := by simpa [h1, Value.cells] using hx 2 _ rfl
  obtain ⟨z2, k2, _, _⟩ := DataW.trod_int Tryd.underlying2 e2
  simp at k2
  have e3 : DataW.trod enc Tryd.prog W 0 (fun _ => true) true n 2 [v3] = some y3 := by simpa [h1, Value.cells] using hx 3 _ rfl
  obtain ⟨z3, k3, _, _⟩ := DataW.trod_int Tryd.underlying2 e3
  simp at k3
  have e4 : DataW.trod enc Tryd.prog W 0 (fun _ => true) true n 2 [v4] = some y4 := by simpa [h1, Value.cells] using hx 4 _ rfl
  obtain ⟨z4, k4, _, _⟩ := DataW.trod_int Tryd.underlying2 e4
  simp at k4
  have e5 : DataW.trod enc Tryd.prog W 0 (fun _ => true) true n 2 [v5] = some y5 := by simpa [h1, Value.cells] using hx 5 _ rfl
  obtain ⟨z5, k5, _, _⟩ := DataW.trod_int Tryd.underlying2 e5
  simp at k5
  have e6 : DataW.trod enc Tryd.prog W 0 (fun _ => true) true n 2 [v6] = some y6 := by simpa [h1, Value.cells] using hx 6 _ rfl
  obtain ⟨z6, k6, _, _⟩ := DataW.trod_int Tryd.underlying2 e6
  simp at k6
  subst k0 k1 k2 k3 k4 k5 k6
  exact ⟨z0, z1, z2, z3, z4, z5, z6, rfl⟩

end Go.Proofs.YtknkadmngdaakaaDoor
