/- The hash, of the model. -/
import Derived.Test.YtbjcgdgebbiieaaPadC
import Derived.Test.YtbjcgdgebbiieaaShaD
namespace Go.Proofs.Ytbjcgdgebbiieaa
open Go.RowKit

/-- the words after the first k blocks -/
def chainW (b : List Int) : Nat → List Int
  | 0 => firstWords
  | k + 1 => blockW (chainW b k) ((b.drop (64 * k)).take 64)
theorem blockW_len (H l : List Int) : (blockW H l).length = 8 := by simp [blockW]
theorem blockW_wd (H l : List Int) : Wd (blockW H l) := by
  intro x hx
  simp only [blockW, List.mem_map] at hx
  obtain ⟨i, _, rfl⟩ := hx
  exact addW_bd _ _
theorem chainW_len (b : List Int) (k : Nat) : (chainW b k).length = 8 := by
  cases k with
  | zero => rfl
  | succ k => exact blockW_len _ _
theorem chainW_wd (b : List Int) (k : Nat) : Wd (chainW b k) := by
  cases k with
  | zero => unfold chainW Wd; decide
  | succ k => exact blockW_wd _ _
def outTo (H : List Int) (m : Nat) : List Int := (List.range m).flatMap fun i => (lowOf (H.getD i 0) 4).reverse
theorem outTo_succ (H : List Int) (m : Nat) : outTo H (m + 1) = outTo H m ++ (lowOf (H.getD m 0) 4).reverse := by simp [outTo, List.range_succ, List.flatMap_append]
theorem outTo_len (H : List Int) (m : Nat) : (outTo H m).length = 4 * m := by
  induction m with
  | zero => rfl
  | succ m ih => rw [outTo_succ, List.length_append, ih, List.length_reverse, lowOf_len]; omega
def hashW (l : List Int) : List Int := outTo (chainW (padW l) ((padW l).length / 64)) 8
theorem hashW_len (l : List Int) : (hashW l).length = 32 := outTo_len _ _
theorem Row.cap_ {w : World} {B n c : Nat} {A : Option Addr} {l : List Int} (h : Row w B (.slice A n c) l) : n ≤ c := by
  rcases h.own.2 with ⟨e, _⟩ | ⟨g, cap, cur, e, _, _, hle, _⟩
  · injection e with _ e2 e3
    omega
  · injection e with _ e2 e3
    omega
theorem Row.but {w w' : World} {B p S : Nat} {v : Value} {l : List Int} (h : Row w B v l) (hb : But p S w w') (hp : p < B) (hS : w.heap.size ≤ S) : Row w' B v l :=
  h.keep fun g h1 h2 => hb.block g (by omega) (by omega)

end Go.Proofs.Ytbjcgdgebbiieaa
