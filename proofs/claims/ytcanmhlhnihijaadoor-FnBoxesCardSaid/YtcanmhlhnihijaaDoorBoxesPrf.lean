import Derived.Test.YtcanmhlhnihijaaDoorBoxesW
import Derived.Test.YtcanmhlhnihijaaDoorOpxP
import Derived.Test.YtcanmhlhnihijaaDoorDoorE

/-! BoxesA -/
/- The walk of FnBoxes at every code, over the program. -/
namespace Go.Proofs.YtcanmhlhnihijaaDoor
open Go.RowKit

theorem SpanAns.room {code : Int} {n : Nat} {l : List Int} {w : World} {e : Ending} {w' : World} (h : SpanAns code n l w e w') : RoomAns code n l w e w' := h

theorem boxes_all (A : Option Addr) (n c : Nat) (l : List Int) (w : World) (hT : Both w) (h : Bs w A n l) (hm : n ≤ 9223372036854775807) :
    Calls Tryd.prog 4 #[.slice A n c] w fun e w' => e = .returned (.bool true) ∧ Below w.heap.size w w' := by
  by_cases hl0 : n ≤ 1048576
  · exact boxes_walk A n c l w h hl0 Both hT (fun _ _ hb h => h.keep hb)
      (Shut.mk fun A1 n1 c1 r1 A2 n2 c2 r2 A3 n3 c3 r3 A4 n4 c4 r4 W hP h1 hc1 _ _ h2 hc2 _ _ h3 _ hn3 _ h4 hc4 hn4 _ => (implSealBox_any A1 n1 c1 r1 A2 n2 c2 r2 A3 n3 c3 r3 A4 n4 c4 r4 W hP.1 h1 hc1 h2 hc2 h3 hn3 h4 hc4 hn4).mono fun _ _ h => h.room)
      (Shut.mk fun A1 n1 c1 r1 A2 n2 c2 r2 A3 n3 c3 r3 A4 n4 c4 r4 W hP h1 hc1 _ _ h2 hc2 _ _ h3 _ hn3 _ h4 hc4 _ _ => (implOpenBox_any A1 n1 c1 r1 A2 n2 c2 r2 A3 n3 c3 r3 A4 n4 c4 r4 W hP.1 hP.2 h1 hc1 h2 hc2 h3 hn3 h4 hc4).mono fun _ _ h => h.room)
      (Shut.mk fun A1 n1 c1 r1 A2 n2 c2 r2 W _ h1 hc1 _ _ h2 hc2 _ _ => (implPolyTag_any A1 n1 c1 r1 A2 n2 c2 r2 W h1 hc1 h2 hc2).mono fun _ _ h => h.room)
  · have Hd : Shut (decide (1048576 < n) = true) := ⟨by simp; omega⟩
    go_enter Tryd.func4, Tryd.ntmps4
    go_wp2_with fail
    refine (lwBig_any _ _ _ _ hm).mono ?_
    rintro e w1 ⟨rfl, rfl⟩
    rw [Hd.out]
    go_wp2
    go_ret
    exact ⟨rfl, Below.refl _ _⟩
end Go.Proofs.YtcanmhlhnihijaaDoor

/-! BoxesProof -/
/- At every code, what is sealed opens again, and so on: the law of boxes holds, over SealBox, OpenBox and PolyTag as they answer as their models; what is read of the table of places and of the sentinel is tied to the text of the program. No condition. -/
namespace Go.Proofs.YtcanmhlhnihijaaDoor.fnBoxes
open Go.ChangeShapes Go.WideShapes Go.ChangeAt Go.RowKit
open Go.ChangeMaps (open_string shut_string)
set_option linter.unusedVariables false

set_option maxRecDepth 100000 in
set_option maxHeartbeats 2000000 in
theorem lifted (os : Os) (started : os.Started) (H : Type) (enc : TypeId × Value → H) :
    ReturnsInHanded {} Tryd.checked os 4 .any (fun w args => (Rows.fnBoxesSpec.pre enc Tryd.prog Tryd.f4 [] false w args ∧ laidMetH Tryd.prog laidBoth w) ∧ sizedMet enc Tryd.prog Tryd.f4 (OpenSpec.ofChange Rows.fnBoxesSpec) false w args)
      (Rows.fnBoxesSpec.post enc Tryd.prog Tryd.f4 false true false false) := by
  refine returnsInHanded_of_change_and (C := Tryd.checked) (X := fun w _ => laidMetH Tryd.prog laidBoth w) (fun _ _ _ hh h => h.of_heap hh) own started (by kernel_rfl) Tryd.func4
    (ChangeSpec.witness_shaped (enc := enc) (C := Tryd.checked) (os := os) (X := fun w _ => laidMetH Tryd.prog laidBoth w) false (World.doorLaid Tryd.prog 400 os) #[.slice none 0 0] 8 rfl (World.shaped_of_RefB (by kernel_rfl) (by kernel_rfl)) (by kernel_rfl) (by kernel_rfl) (by kernel_rfl) (door_met2 os _)) ?_
  intro W base args ds gs before hval0 hW _ _ hL _
  have hval : ∀ (j : Nat) t v, Tryd.f4.params[j]? = some t → args[j]? = some v → Value.okWide Tryd.prog W .any base t v := hval0
  have hW' := hW
  obtain ⟨p, q, hA0, hV, rfl, hfz, hnd⟩ := hW
  have hA : DataW.TrodAll enc Tryd.prog W 0 (fun _ => true) true Tryd.f4.params.toList args.toList ds p := hA0
  rw [Tryd.params4] at hA hval
  obtain ⟨v0, vs0, d0, ds0, p0, q0, hargs, rfl, rfl, h0, r0⟩ := trodAll_cons hA
  obtain ⟨rfl, rfl, rfl⟩ := trodAll_nil r0
  obtain rfl : args = #[v0] := by cases args; simp_all
  have hT := both_of_laid hL
  have hV0 : DataW.TrodVars enc Tryd.prog W (fun _ => true) ["loop.example/g00792/impl.quarterPlaces", "loop.example/g00792/impl.errTurned"] gs q := hV
  have hV1 := hV0
  obtain ⟨x0, x1, rfl⟩ : ∃ x0 x1, gs = [x0, x1] := by
    rcases gs with _ | ⟨x0, _ | ⟨x1, _ | ⟨x2, r⟩⟩⟩
    · exact hV1.elim
    · obtain ⟨_, _, _, _, _, _, _, _, _, _, h, _⟩ := hV1; exact h.elim
    · exact ⟨_, _, rfl⟩
    · obtain ⟨_, _, _, _, _, _, _, _, _, _, h, _⟩ := hV1; obtain ⟨_, _, _, _, _, _, _, _, _, _, h, _⟩ := h; exact h.elim
  obtain ⟨a0, len0, cap0, rfl⟩ := okWide_slice Tryd.underlying22 (hval 0 22 v0 rfl rfl)
  have k0 := h0
  have lt0 : ∀ x ∈ p0, x.block < W.heap.size := by obtain ⟨m, hm⟩ := k0; exact DataW.trod_lt m _ _ _ hm
  obtain ⟨z0, w0⟩ : ∃ zs, IsRow .u8 W a0 len0 cap0 zs := by
    obtain ⟨fuel, hf⟩ := h0
    rcases open_ints Tryd.underlying22 Tryd.underlying5 (by kernel_rfl) hf with ⟨hcs, _⟩ | ⟨x, l, c, zs, hcs, _, hl, hm, hz, _, hcell, hwz⟩
    · simp [Value.cells] at hcs
      obtain ⟨rfl, rfl, rfl⟩ := hcs
      exact ⟨[], .inl ⟨rfl, rfl, rfl, rfl⟩⟩
    · simp [Value.cells] at hcs
      obtain ⟨rfl, rfl, rfl⟩ := hcs
      exact ⟨zs, .inr ⟨_, rfl, hl, hm, by simpa using hz, hcell, hwz⟩⟩
  clear hA0 hval0
  refine (boxes_all a0 len0 cap0 _ W hT w0.bs w0.lenmax).mono fun e W' ⟨he, bel⟩ => ?_
  subst he
  exact ⟨_, rfl, _, _, _, [], _, q, hW', trodAll_mk1 (shut_bool Tryd.underlying4 _), (trodAll_cons_mk (Below.trod laidOut (by kernel_rfl) (of_decide_eq_true (by kernel_rfl)) k0 bel lt0) trodAll_mk0), Below.trodVars laidOut bel rowed3 hV0, bel.frame _, fun h => by cases h⟩

theorem over : Rows.fnBoxesRow.holds Tryd.pinned (OpenSpec.ofChange Rows.fnBoxesSpec) :=
  OpenClaim.holds_of_wide 4 Tryd.f4 rfl rfl rfl rfl rfl rfl rfl ⟨rfl, rfl, rfl, rfl, rfl⟩ rfl rfl rfl rfl rfl (by kernel_rfl) Tryd.func4 (by kernel_rfl)
    (of_decide_eq_true (by kernel_rfl)) (by unfold Func.isWrapper; first | (rw [if_pos (by decide +kernel)]; kernel_rfl) | (rw [if_neg (by decide +kernel)]; exact ⟨rfl, rfl⟩))
    (fun os started H enc _ => lifted os started H enc)

theorem proved : Rows.FnBoxesCardSaid := by
  unfold Rows.FnBoxesCardSaid Rows.fnBoxesCard
  exact Claim7.holds_tied_plain_at .later [] [.sentinel, .data] true Rows.fnBoxesCard.stood.harness true over (fun _ h => by cases h) (by kernel_rfl) (fun _ h => by cases h) fnBoxes_row_tie rfl ⟨rfl, rfl⟩ (by kernel_rfl) rfl
    (fun f fn hf hfn => by
      obtain rfl : f = 4 := Option.some.inj ((show Tryd.prog.funcNamed "loop.example/g00792/laws.FnBoxes" = some 4 by kernel_rfl).symm.trans hf) |>.symm
      obtain rfl : fn = Tryd.f4 := (Option.some.inj (Tryd.func4.symm.trans hfn)).symm
      refine ⟨by kernel_rfl, fun j t ht => ?_⟩
      rw [Tryd.params4] at ht
      rcases j with _ | j
      · have h3 : t = 22 := by simpa using ht.symm
        subst h3
        exact byte_stands
      · simp at ht)
    (by kernel_rfl)
#print axioms proved
end Go.Proofs.YtcanmhlhnihijaaDoor.fnBoxes
