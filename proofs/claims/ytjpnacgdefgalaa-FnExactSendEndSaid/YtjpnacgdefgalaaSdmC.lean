/- A message cut into parts; whether it fits: of the model. -/
import Derived.Test.YtjpnacgdefgalaaApX
import Derived.Test.YtjpnacgdefgalaaSndP
import Derived.Test.YtjpnacgdefgalaaNxtN
import Derived.Test.YtjpnacgdefgalaaRcvG
namespace Go.Proofs.Ytjpnacgdefgalaa
open Go.RowKit

def pieceAt (l : List Int) (i : Nat) : PartD := ⟨(l.drop (32 * i)).take 32, decide (l.length ≤ 32 * (i + 1)), -1, false⟩
def cutL (l : List Int) (j : Nat) : List PartD := (List.range j).map (pieceAt l)
theorem cutL_succ (l : List Int) (j : Nat) : cutL l (j + 1) = cutL l j ++ [pieceAt l j] := by unfold cutL; rw [List.range_succ, List.map_append]; rfl
theorem cutL_len (l : List Int) (j : Nat) : (cutL l j).length = j := by unfold cutL; simp
def cntL (l : List Int) : Nat := (l.length + 31) / 32
def fullB (base : Int) (n m : Nat) : Bool := decide (24 < n + (m + 31) / 32) || decide (9975 < base + ((n + (m + 31) / 32 : Nat) : Int))

set_option maxHeartbeats 1000000 in
theorem l8Full_any (g : Nat) (base : Int) (A : Option Addr) (n c : Nat) (B : Option Addr) (m d : Nat) (w : World) (hS : Stc w g [.int .i64 base, .slice A n c] 36) (hn : n ≤ 1000) (hm : m ≤ 1000) (hb0 : 0 ≤ base) (hb1 : base ≤ 10000) :
    Calls Try.prog 95 #[.pointer (some ⟨g, 0, none⟩), .slice B m d] w fun e w' => e = .returned (.bool (fullB base n m)) ∧ w = w' := by
  have hg := hS.lt
  have v0 := hS.cell (i := 0) rfl
  have v1 := hS.cell (i := 1) rfl
  obtain ⟨q, hq⟩ : ∃ q : Nat, q = (m + 31) / 32 := ⟨_, rfl⟩
  have hqi : ((m : Int) + 32 - 1) / 32 = (q : Int) := by omega
  unfold fullB
  rw [← hq]
  have hqb : q ≤ 40 := by omega
  clear hq
  by_cases h0 : 24 < n + q
  · have e0 : decide (24 < n + q) = true := decide_eq_true h0
    rw [e0, Bool.true_or]
    have t0 : decide ((n : Int) + (q : Int) > 24) = true := by simp; omega
    go_enter Try.func95, Try.ntmps95
    go_wp2
    trace_state
    go_ret
    exact ⟨rfl, rfl⟩
  · have e0 : decide (24 < n + q) = false := decide_eq_false h0
    rw [e0, Bool.false_or]
    have t0 : decide ((n : Int) + (q : Int) > 24) = false := by simp; omega
    have t1 : decide (base + ((n : Int) + (q : Int)) > 9975) = decide (9975 < base + ((n + q : Nat) : Int)) := by push_cast; rfl
    obtain ⟨z, hz⟩ : ∃ z, z = decide (9975 < base + ((n + q : Nat) : Int)) := ⟨_, rfl⟩
    rw [← hz] at t1 ⊢
    clear hz
    go_enter Try.func95, Try.ntmps95
    go_wp2
    trace_state
    go_ret
    exact ⟨rfl, rfl⟩
end Go.Proofs.Ytjpnacgdefgalaa
