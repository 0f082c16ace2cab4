/- A stream that goes on from block to block, of the program: a range over an iterator. -/
import Derived.Test.YtcanmhlhnihijaaDoorBlkP
import Derived.Test.YtcanmhlhnihijaaDoorLeftP
import Derived.Test.YtcanmhlhnihijaaDoorXorP
import Derived.Test.YtcanmhlhnihijaaDoorStreamC
import Derived.Test.YtcanmhlhnihijaaDoorRoundP
import Derived.Test.YtcanmhlhnihijaaDoorTurnsC
import Derived.Test.YtcanmhlhnihijaaDoorSealC
namespace Go.Proofs.YtcanmhlhnihijaaDoor
open Go.RowKit Go.Shelf

attribute [local go_sem] Oper.semAt_some

/-- the three boxes of the iterator hold key, counter and nonce -/
structure From (W : World) (kb cb nb b off c b2 off2 c2 : Nat) (n : Int) : Prop where
  k : Boxed W kb 22 (.slice (some ⟨b, off, none⟩) 32 c)
  n_ : Boxed W cb 51 (.int .u32 n)
  o : Boxed W nb 22 (.slice (some ⟨b2, off2, none⟩) 12 c2)
theorem From.keep {W W' : World} {kb cb nb b off c b2 off2 c2 : Nat} {n : Int} (h : From W kb cb nb b off c b2 off2 c2 n) (h1 : W'.heap[kb]? = W.heap[kb]?) (h2 : W'.heap[cb]? = W.heap[cb]?) (h3 : W'.heap[nb]? = W.heap[nb]?) : From W' kb cb nb b off c b2 off2 c2 n :=
  ⟨h1.trans h.k, h2.trans h.n_, h3.trans h.o⟩

set_option maxHeartbeats 1000000 in
theorem streamFrom_in (F : Fence) (n : Nat) (hf : F.fn 56) (hro : F.round = none) (key nonce : Value) (cnt : Int) (w : World) (A1 A2 : Option Addr) (n1 c1 n2 c2 : Nat) (hk : key = .slice A1 n1 c1) (hn : nonce = .slice A2 n2 c2) :
    CallsIn F n Tryd.prog 56 #[key, .int .u32 cnt, nonce] w fun e w' => e = .returned (.func (.func 86) #[] #[.pointer (some ⟨w.heap.size + 1, 0, none⟩), .pointer (some ⟨w.heap.size, 0, none⟩), .pointer (some ⟨w.heap.size + 1 + 1, 0, none⟩)]) ∧
      w' = ((w.alloc (.cells #[key] 22)).alloc (.cells #[.int .u32 cnt] 51)).alloc (.cells #[nonce] 22) := by
  subst hk hn
  refine callsIn_of_wp Tryd.func56 rfl hf ?_ hro
  simp only [Tryd.ntmps56, List.size_toArray, List.length_cons, List.length_nil, Nat.reduceAdd, Nat.reduceSub, Array.replicate_succ, Array.replicate_zero, List.push_toArray, List.append_toArray, List.nil_append, List.cons_append]
  gi_wp2
  go_ret
  exact ⟨rfl, rfl⟩

/-- what round k is handed -/
def Came64 (key : List Int) (n : Int) (nonce : List Int) (k : Nat) (v : Value) (W : World) : Prop := ∃ A c', v = .slice A 64 c' ∧ Bs W A 64 (keyBlock key (n + (k : Int)) nonce) ∧ 64 ≤ c'

set_option maxRecDepth 100000 in
set_option maxHeartbeats 4000000 in
theorem from1_in (F : Fence) (fn0 : Nat) (hall : ∀ f, F.fn f) (hlift : ∀ (k : Nat) (f : FuncId) (args : Array Value) (W : World) (R : Ending → World → Prop), Calls Tryd.prog f args W R → CallsIn F k Tryd.prog f args W R) (hro : F.round = none) (hn : 2 ≤ fn0)
    (N : Nat) (hN : N ≤ 1000) (kb cb nb b off c b2 off2 c2 : Nat) (key nonce : List Int) (n : Int) (hc : 32 ≤ c) (hc2 : 12 ≤ c2) (h0 : 0 ≤ n ∧ n ≤ 1000000) (I : Nat → World → Prop)
    (hI : ∀ k W, I k W → k < N ∧ From W kb cb nb b off c b2 off2 c2 n ∧ Bs W (some ⟨b, off, none⟩) 32 key ∧ Bs W (some ⟨b2, off2, none⟩) 12 nonce ∧ Quar W)
    (l : Nat) (J : Nat → World → Prop) (Jx : World → Prop) (W : World) (hJs : ∀ k W W', J k W → Below W.heap.size W W' → J k W') (hJI : ∀ k W, J k W → I k W)
    (hY : ∀ k v W1, J k W1 → Came64 key n nonce k v W1 → YieldAt F (fn0 - 1) Tryd.prog l #[v] W1 fun e W' => (e = .returned (.bool true) ∧ J (k + 1) W') ∨ (e = .returned (.bool false) ∧ Jx W'))
    (hJ0 : J 0 W) :
    CallsIn F fn0 Tryd.prog 86 #[.func (.yield l) #[] #[], .pointer (some ⟨cb, 0, none⟩), .pointer (some ⟨kb, 0, none⟩), .pointer (some ⟨nb, 0, none⟩)] W fun e W' => (∃ v, e = .returned v) ∧ Jx W' := by
  refine callsIn_of_wp Tryd.func86 rfl (hall _) ?_ hro
  simp only [Tryd.ntmps86, List.size_toArray, List.length_cons, List.length_nil, Nat.reduceAdd, Nat.reduceSub, Array.replicate_succ, Array.replicate_zero, List.push_toArray, List.append_toArray, List.nil_append, List.cons_append]
  have hf1 : 1 ≤ fn0 := by omega
  have hf2 : 1 ≤ fn0 - 1 := by omega
  obtain ⟨_, fr0, _⟩ := hI 0 W (hJI 0 W hJ0)
  have q0 := fr0.n_.cell
  gi_wp2
  gi_loopw [5] (fun i wr => ∃ k : Nat, k < N ∧ i = .int .u32 (n + (k : Int)) ∧ J k wr) (fun i _ => (n + (N : Int) - intOf i).toNat)
  case atStart => exact ⟨0, (hI 0 W (hJI 0 W hJ0)).1, by simp, hJ0⟩
  case round =>
    obtain ⟨k, hk, rfl, hJk⟩ := hrel
    obtain ⟨_, fr, hkey, hnon, hQ⟩ := hI k wr (hJI k wr hJk)
    have q1 := fr.k.cell
    have q2 := fr.n_.cell
    have q3 := fr.o.cell
    have G := Shut.mk (streamBlock_any b off c b2 off2 c2 key nonce (n + (k : Int)) wr hQ hkey hc hnon hc2 (by omega))
    have HL := Shut.mk (keyBlock_len key (n + (k : Int)) nonce)
    gi_wp2_with (gi_at_call 40; refine (hlift _ _ _ _ _ G.out).mono ?_; rintro e w1 ⟨⟨A, c', rfl, hrow⟩, b1⟩; obtain ⟨fn, tmps, assign, body, hy, hR⟩ := hY k _ w1 (hJs k wr w1 hJk b1) ⟨A, c', rfl, (hrow.ow' HL.out).bs, hrow.cap⟩)
    refine hR.mono ?_
    rintro e W3 (⟨rfl, hJ3⟩ | ⟨rfl, hx3⟩)
    · have hk3 := (hI (k + 1) W3 (hJI _ _ hJ3)).1
      clear G HL hrow hy hR q0 q1 q2 q3
      gi_wp2
      go_roundw
      case rel => exact ⟨k + 1, hk3, by go_num, hJ3⟩
      case measure => simp [intOf]; omega
    · gi_wp2
      go_end0
      exact ⟨⟨_, rfl⟩, hx3⟩
end Go.Proofs.YtcanmhlhnihijaaDoor
