/- The faults of an end: of the program and of the model. -/
import Derived.Test.YtpaemmoopjkppaaApsX
import Derived.Test.YtpaemmoopjkppaaSndS
import Derived.Test.YtpaemmoopjkppaaSrfX
namespace Go.Proofs.Ytpaemmoopjkppaa
open Go.RowKit

def mesL (m : Nat) : Bool := decide (0 < m ∧ m ≤ 200)
def gotE (l : List Int) : Int := if mesL l.length = true then 0 else 2
def gotF (got : List (List Int)) : Int := if 200 < got.length then 2 else firstF gotE got
def endF (slot base : Int) (els : List PartD) (next : Int) (hs : List HeldD) (np : Nat) (got : List (List Int)) (bad : Int) : Int :=
  if decide (0 ≤ slot ∧ slot ≤ 401 ∧ 0 ≤ bad ∧ bad ≤ 100000) = false then 3 else if senF base els ≠ 0 then senF base els else if recF next hs np ≠ 0 then recF next hs np else gotF got
theorem endF_num {slot base next bad : Int} {els : List PartD} {hs : List HeldD} {np : Nat} {got : List (List Int)} (h : ¬ (0 ≤ slot ∧ slot ≤ 401 ∧ 0 ≤ bad ∧ bad ≤ 100000)) : endF slot base els next hs np got bad = 3 := by unfold endF; rw [if_pos (by simpa using h)]
theorem endF_sen {slot base next bad : Int} {els : List PartD} {hs : List HeldD} {np : Nat} {got : List (List Int)} (h : 0 ≤ slot ∧ slot ≤ 401 ∧ 0 ≤ bad ∧ bad ≤ 100000) (h1 : senF base els ≠ 0) : endF slot base els next hs np got bad = senF base els := by unfold endF; rw [if_neg (by simp [h]), if_pos h1]
theorem endF_rec {slot base next bad : Int} {els : List PartD} {hs : List HeldD} {np : Nat} {got : List (List Int)} (h : 0 ≤ slot ∧ slot ≤ 401 ∧ 0 ≤ bad ∧ bad ≤ 100000) (h1 : senF base els = 0) (h2 : recF next hs np ≠ 0) : endF slot base els next hs np got bad = recF next hs np := by unfold endF; rw [if_neg (by simp [h]), if_neg (by simp [h1]), if_pos h2]
theorem endF_got {slot base next bad : Int} {els : List PartD} {hs : List HeldD} {np : Nat} {got : List (List Int)} (h : 0 ≤ slot ∧ slot ≤ 401 ∧ 0 ≤ bad ∧ bad ≤ 100000) (h1 : senF base els = 0) (h2 : recF next hs np = 0) : endF slot base els next hs np got bad = gotF got := by unfold endF; rw [if_neg (by simp [h]), if_neg (by simp [h1]), if_neg (by simp [h2])]
theorem gotF_many {got : List (List Int)} (h : 200 < got.length) : gotF got = 2 := by unfold gotF; rw [if_pos h]
theorem gotF_few {got : List (List Int)} (h : ¬ 200 < got.length) : gotF got = firstF gotE got := by unfold gotF; rw [if_neg h]

end Go.Proofs.Ytpaemmoopjkppaa
