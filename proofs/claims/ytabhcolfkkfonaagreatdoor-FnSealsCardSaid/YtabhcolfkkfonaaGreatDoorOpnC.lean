/- What comes of a wire that is opened; OpenCell of the model, and of the program where something is wrong ahead of the box. -/
import Derived.Test.YtabhcolfkkfonaaGreatDoorSlotP
import Derived.Test.YtabhcolfkkfonaaGreatDoorDecX
import Derived.Test.YtabhcolfkkfonaaGreatDoorNonB
import Derived.Test.YtabhcolfkkfonaaGreatDoorMdlX
namespace Go.Proofs.YtabhcolfkkfonaaGreatDoor
open Go.RowKit

def opBox (wire : List Int) : List Int := wire.drop 4
def opText (key wire : List Int) (s : Int) : List Int := streamL key 1 (nonceL s) ((opBox wire).take 44)
/-- the tag is that of the rest -/
def opTag (key wire : List Int) (s : Int) : Prop := boxTag key (nonceL s) (wire.take 4) ((opBox wire).take 44) = (opBox wire).drop 44
instance (key wire : List Int) (s : Int) : Decidable (opTag key wire s) := by unfold opTag; infer_instance
def opC (n m : Nat) (key wire : List Int) : Int :=
  if n = 32 then (if slotC m wire = 0 then (if opTag key wire (slotV m wire) then decCode 44 (opText key wire (slotV m wire)) else 6) else slotC m wire) else 3
def opD (n m : Nat) (key wire : List Int) : Bool := decide (n = 32) && (decide (slotC m wire = 0) && (decide (opTag key wire (slotV m wire)) && decOk (opText key wire (slotV m wire))))

/-- the answer of OpenCell: a code, and all that a cell has, if there is one -/
def OpnAns (C : Int) (b : Bool) (s : Int) (p : List Int) (w : World) (e : Ending) (w' : World) : Prop :=
  (∃ A f, e = .returned (.agg #[.int .i64 C, .int .i64 (selI b s), .int .i64 (selI b (fK p)), .int .i64 (selI b (fS p)), .int .i64 (selI b (fA p)), .int .i64 (selI b (fM p)), .bool (selB b (fL p)), .slice A (selN b (fZ p).toNat) f]) ∧
    Rs w' w.heap.size [(A, selN b (fZ p).toNat, selL b (fB p (fZ p).toNat))] ∧ selN b (fZ p).toNat ≤ f ∧ (A = none → f = 0)) ∧ Below w.heap.size w w'
theorem OpnAns.no {C : Int} {s : Int} {p : List Int} {w : World} {e : Ending} {w' : World} (he : e = .returned (.agg #[.int .i64 C, .int .i64 0, .int .i64 0, .int .i64 0, .int .i64 0, .int .i64 0, .bool false, .slice none 0 0])) (hb : Below w.heap.size w w') : OpnAns C false s p w e w' :=
  ⟨⟨none, 0, by rw [he]; simp [selI, selB, selN], Rs.one (Ow.nil_ _ _), Nat.le_refl _, fun _ => rfl⟩, hb⟩

set_option maxHeartbeats 1000000 in
theorem specOpen_key (K : Option Addr) (n kc : Nat) (A : Option Addr) (m mc : Nat) (s : Int) (p : List Int) (w : World) (h : ¬ n = 32) :
    Calls Tryz.prog 45 #[.slice K n kc, .slice A m mc] w (OpnAns 3 false s p w) := by
  have hb : ((n : Int) != 32) = true := by rw [bne_iff_ne]; omega
  go_enter Tryz.func45, Tryz.ntmps45
  go_wp2
  refine bodyPost_ret (v := .agg #[.int .i64 3, .int .i64 0, .int .i64 0, .int .i64 0, .int .i64 0, .int .i64 0, .bool false, .slice none 0 0]) (by simp [results, Tryz.results45, go_sem]) rfl ?_
  exact OpnAns.no rfl (by go_grown)

set_option maxHeartbeats 1000000 in
theorem implOpen_key (K : Option Addr) (n kc : Nat) (A : Option Addr) (m mc : Nat) (s : Int) (p : List Int) (w : World) (h : ¬ n = 32) :
    Calls Tryz.prog 40 #[.slice K n kc, .slice A m mc] w (OpnAns 3 false s p w) := by
  have hb : ((n : Int) != 32) = true := by rw [bne_iff_ne]; omega
  go_enter Tryz.func40, Tryz.ntmps40
  go_wp2
  refine bodyPost_ret (v := .agg #[.int .i64 3, .int .i64 0, .int .i64 0, .int .i64 0, .int .i64 0, .int .i64 0, .bool false, .slice none 0 0]) (by simp [results, Tryz.results40, go_sem]) rfl ?_
  exact OpnAns.no rfl (by go_grown)

set_option maxHeartbeats 1000000 in
theorem specOpen_slot (K : Option Addr) (kc : Nat) (A : Option Addr) (m mc : Nat) (wire : List Int) (s : Int) (p : List Int) (w : World) (hA : Bs w A m wire) (hm : m ≤ mc) (h : ¬ slotC m wire = 0) :
    Calls Tryz.prog 45 #[.slice K 32 kc, .slice A m mc] w (OpnAns (slotC m wire) false s p w) := by
  have cs := Shut.mk (fun (W : World) (hW : Below w.heap.size w W) => specSlotOf_any A m mc wire W (hA.below hW) hm)
  have hx : (slotC m wire != 0) = true := by simpa using h
  have T0 := Stc.new w 60 [.int .i64 0, .int .i64 0, .int .i64 0, .int .i64 0, .int .i64 0, .int .i64 0, .bool false, .slice none 0 0] _ rfl
  have B0 := ab (Below.refl _ w) (.cells #[.int .i64 0, .int .i64 0, .int .i64 0, .int .i64 0, .int .i64 0, .int .i64 0, .bool false, .slice none 0 0] 60)
  generalize slotC m wire = C at *
  generalize slotV m wire = V at *
  clear h hA
  go_enter Tryz.func45, Tryz.ntmps45
  go_wp2_with fail
  refine (cs.out _ B0).mono ?_
  rintro e w1 ⟨rfl, b1⟩
  have B1 := ac B0 b1
  replace T0 := T0.below b1 T0.lt
  clear B0 b1 cs
  go_upto_region 4 with (fail)
  generalize hq : (w1.alloc (.cells #[.int .i64 C, .int .i64 V] 49)) = w2 at *
  have D2 : Stc w2 w1.heap.size [.int .i64 C, .int .i64 V] 49 := by rw [← hq]; exact Stc.new w1 _ _ _ rfl
  have T2 : Stc w2 w.heap.size [.int .i64 0, .int .i64 0, .int .i64 0, .int .i64 0, .int .i64 0, .int .i64 0, .bool false, .slice none 0 0] 60 := by rw [← hq]; exact T0.alloc _
  have B2 : Below w.heap.size w w2 := by rw [← hq]; exact ab B1 _
  have zl : w.heap.size < w1.heap.size := T0.lt
  clear hq
  have t0 := T2.cell (i := 0) rfl
  have t1 := T2.cell (i := 1) rfl
  have t2 := T2.cell (i := 2) rfl
  have t3 := T2.cell (i := 3) rfl
  have t4 := T2.cell (i := 4) rfl
  have t5 := T2.cell (i := 5) rfl
  have t6 := T2.cell (i := 6) rfl
  have t7 := T2.cell (i := 7) rfl
  have tf := T2.frozen
  have d0 := D2.cell (i := 0) rfl
  have d1 := D2.cell (i := 1) rfl
  go_wp2
  refine bodyPost_ret (v := .agg #[.int .i64 C, .int .i64 0, .int .i64 0, .int .i64 0, .int .i64 0, .int .i64 0, .bool false, .slice none 0 0]) (by simp [results, Tryz.results45, go_sem, t0, t1, t2, t3, t4, t5, t6, t7]) rfl ?_
  exact OpnAns.no rfl ((((((((B2.setCell (by simp) _).setCell (by simp) _).setCell (by simp) _).setCell (by simp) _).setCell (by simp) _).setCell (by simp) _).setCell (by simp) _).setCell (by simp) _)

set_option maxHeartbeats 1000000 in
theorem implOpen_slot (K : Option Addr) (kc : Nat) (A : Option Addr) (m mc : Nat) (wire : List Int) (s : Int) (p : List Int) (w : World) (hA : Bs w A m wire) (hm : m ≤ mc) (h : ¬ slotC m wire = 0) :
    Calls Tryz.prog 40 #[.slice K 32 kc, .slice A m mc] w (OpnAns (slotC m wire) false s p w) := by
  have cs := Shut.mk (fun (W : World) (hW : Below w.heap.size w W) => implSlotOf_any A m mc wire W (hA.below hW) hm)
  have hx : (slotC m wire != 0) = true := by simpa using h
  have T0 := Stc.new w 60 [.int .i64 0, .int .i64 0, .int .i64 0, .int .i64 0, .int .i64 0, .int .i64 0, .bool false, .slice none 0 0] _ rfl
  have B0 := ab (Below.refl _ w) (.cells #[.int .i64 0, .int .i64 0, .int .i64 0, .int .i64 0, .int .i64 0, .int .i64 0, .bool false, .slice none 0 0] 60)
  generalize slotC m wire = C at *
  generalize slotV m wire = V at *
  clear h hA
  go_enter Tryz.func40, Tryz.ntmps40
  go_wp2_with fail
  refine (cs.out _ B0).mono ?_
  rintro e w1 ⟨rfl, b1⟩
  have B1 := ac B0 b1
  replace T0 := T0.below b1 T0.lt
  clear B0 b1 cs
  go_upto_region 4 with (fail)
  generalize hq : (w1.alloc (.cells #[.int .i64 C, .int .i64 V] 49)) = w2 at *
  have D2 : Stc w2 w1.heap.size [.int .i64 C, .int .i64 V] 49 := by rw [← hq]; exact Stc.new w1 _ _ _ rfl
  have T2 : Stc w2 w.heap.size [.int .i64 0, .int .i64 0, .int .i64 0, .int .i64 0, .int .i64 0, .int .i64 0, .bool false, .slice none 0 0] 60 := by rw [← hq]; exact T0.alloc _
  have B2 : Below w.heap.size w w2 := by rw [← hq]; exact ab B1 _
  have zl : w.heap.size < w1.heap.size := T0.lt
  clear hq
  have t0 := T2.cell (i := 0) rfl
  have t1 := T2.cell (i := 1) rfl
  have t2 := T2.cell (i := 2) rfl
  have t3 := T2.cell (i := 3) rfl
  have t4 := T2.cell (i := 4) rfl
  have t5 := T2.cell (i := 5) rfl
  have t6 := T2.cell (i := 6) rfl
  have t7 := T2.cell (i := 7) rfl
  have tf := T2.frozen
  have d0 := D2.cell (i := 0) rfl
  have d1 := D2.cell (i := 1) rfl
  go_wp2
  refine bodyPost_ret (v := .agg #[.int .i64 C, .int .i64 0, .int .i64 0, .int .i64 0, .int .i64 0, .int .i64 0, .bool false, .slice none 0 0]) (by simp [results, Tryz.results40, go_sem, t0, t1, t2, t3, t4, t5, t6, t7]) rfl ?_
  exact OpnAns.no rfl ((((((((B2.setCell (by simp) _).setCell (by simp) _).setCell (by simp) _).setCell (by simp) _).setCell (by simp) _).setCell (by simp) _).setCell (by simp) _).setCell (by simp) _)

end Go.Proofs.YtabhcolfkkfonaaGreatDoor
