import Derived.Test.YtpaemmoopjkppaaSndP
import Derived.Laws.Shifts
import Derived.Test.YtpaemmoopjkppaaNxtX
import Derived.StillTailTactics

/-! HakC -/
/- Whether an answer says that a part came: of the model and of the program. -/
namespace Go.Proofs.Ytpaemmoopjkppaa
open Go.RowKit

def ackB (ack mask : Int) : Bool := decide (0 ≤ ack ∧ ack ≤ 10000 ∧ 0 ≤ mask ∧ mask ≤ 255)
def bitB (mask : Int) (d : Nat) : Bool := decide (mask / (2 : Int) ^ d % 2 = 1)
def cameB (ack mask seq : Int) : Bool := decide (seq < ack) || (decide (ack < seq) && bitB mask (seq - ack - 1).toNat)

theorem i64_and1 (n : Int) : bits .and .i64 n 1 = n % 2 := by
  have h1 : (BitVec.ofInt 64 1).toNat = 2 ^ 1 - 1 := by decide
  have key : (BitVec.ofInt 64 n &&& BitVec.ofInt 64 1).toNat = (n % ((2 ^ 64 : Nat) : Int)).toNat % 2 ^ 1 := by
    rw [BitVec.toNat_and, BitVec.toNat_ofInt, h1, Nat.and_two_pow_sub_one_eq_mod]
  show IntKind.i64.wrap ((BitVec.ofInt 64 n &&& BitVec.ofInt 64 1).toNat : Nat) = n % 2
  rw [key, IntKind.wrap_i64]
  omega
theorem isAck_any (ack mask : Int) (w : World) : Calls Try.prog 106 #[.int .i64 ack, .int .i64 mask] w fun e w' => e = .returned (.bool (ackB ack mask)) ∧ w = w' := by
  unfold ackB
  by_cases h0 : 0 ≤ ack
  · have t0 : decide (ack ≥ 0) = true := by simpa using h0
    by_cases h1 : ack ≤ 10000
    · have t1 : decide (ack ≤ 10000) = true := by simpa using h1
      by_cases h2 : 0 ≤ mask
      · have t2 : decide (mask ≥ 0) = true := by simpa using h2
        have e : decide (0 ≤ ack ∧ ack ≤ 10000 ∧ 0 ≤ mask ∧ mask ≤ 255) = decide (mask ≤ 255) := by
          by_cases h3 : mask ≤ 255 <;> simp [h0, h1, h2, h3]
        rw [e]
        go_enter Try.func106, Try.ntmps106
        go_wp2
        go_ret
        exact ⟨rfl, rfl⟩
      · have t2 : decide (mask ≥ 0) = false := by simp; omega
        have e : decide (0 ≤ ack ∧ ack ≤ 10000 ∧ 0 ≤ mask ∧ mask ≤ 255) = false := by simp; omega
        rw [e]
        go_enter Try.func106, Try.ntmps106
        go_wp2
        go_ret
        exact ⟨rfl, rfl⟩
    · have t1 : decide (ack ≤ 10000) = false := by simp; omega
      have e : decide (0 ≤ ack ∧ ack ≤ 10000 ∧ 0 ≤ mask ∧ mask ≤ 255) = false := by simp; omega
      rw [e]
      go_enter Try.func106, Try.ntmps106
      go_wp2
      go_ret
      exact ⟨rfl, rfl⟩
  · have t0 : decide (ack ≥ 0) = false := by simp; omega
    have e : decide (0 ≤ ack ∧ ack ≤ 10000 ∧ 0 ≤ mask ∧ mask ≤ 255) = false := by simp; omega
    rw [e]
    go_enter Try.func106, Try.ntmps106
    go_wp2
    go_ret
    exact ⟨rfl, rfl⟩

theorem halve (m : Int) (d : Nat) : m / 2 / (2 : Int) ^ d = m / (2 : Int) ^ (d + 1) := by
  rw [Int.ediv_ediv_of_nonneg (by omega), Int.pow_succ, Int.mul_comm]

end Go.Proofs.Ytpaemmoopjkppaa

/-! HakA -/
/- The parts that an answer speaks of; what goes out of the window. -/
namespace Go.Proofs.Ytpaemmoopjkppaa
open Go.RowKit

def ackE (ack mask seq : Int) (e : PartD) : PartD := if sentB e = true ∧ cameB ack mask seq = true then ⟨e.f0, e.f1, e.f2, true⟩ else e
def one1 (_ : PartD) : Nat := 1
def ackL (ack mask base : Int) (els : List PartD) : List PartD := markE (ackE ack mask) one1 base els
theorem sum_one : ∀ l : List PartD, sumE one1 l = l.length
  | [] => rfl
  | x :: r => by simp only [sumE, List.length_cons, sum_one r, one1]; omega
def slid : Int → List PartD → Int × List PartD
  | b, [] => (b, [])
  | b, e :: r => if e.f3 = true then slid (b + 1) r else (b, e :: r)
theorem came_lt {ack mask seq : Int} (h : seq < ack) : cameB ack mask seq = true := by unfold cameB; simp [h]
theorem came_out {ack mask seq : Int} (h : ¬ seq < ack) (h2 : 0 ≤ mask) (h3 : mask ≤ 255) (hd : ¬ (0 ≤ seq - ack - 1 ∧ seq - ack - 1 ≤ 7)) : cameB ack mask seq = false := by
  unfold cameB
  have e0 : decide (seq < ack) = false := by simpa using h
  rw [e0, Bool.false_or]
  by_cases h4 : ack < seq
  · have e2 : mask / (2 : Int) ^ (seq - ack - 1).toNat = 0 := by
      apply Int.ediv_eq_zero_of_lt h2
      have hp : (2 : Nat) ^ 8 ≤ 2 ^ (seq - ack - 1).toNat := Nat.pow_le_pow_right (by omega) (by omega)
      have hp' : ((2 ^ 8 : Nat) : Int) ≤ ((2 ^ (seq - ack - 1).toNat : Nat) : Int) := by exact_mod_cast hp
      rw [show ((2 : Int) ^ (seq - ack - 1).toNat) = ((2 ^ (seq - ack - 1).toNat : Nat) : Int) by simp]
      have : ((2 ^ 8 : Nat) : Int) = 256 := rfl
      generalize ((2 ^ (seq - ack - 1).toNat : Nat) : Int) = y at *
      omega
    have e3 : bitB mask (seq - ack - 1).toNat = false := by unfold bitB; rw [e2]; rfl
    rw [e3, Bool.and_false]
  · have e1 : decide (ack < seq) = false := by simpa using h4
    rw [e1, Bool.false_and]
theorem came_bit {ack mask seq : Int} (h : ¬ seq < ack) (hd : 0 ≤ seq - ack - 1) : cameB ack mask seq = bitB mask (seq - ack - 1).toNat := by
  unfold cameB
  have e0 : decide (seq < ack) = false := by simpa using h
  have e1 : decide (ack < seq) = true := by simp; omega
  rw [e0, e1, Bool.false_or, Bool.true_and]
theorem ackE_yes {ack mask seq : Int} {e : PartD} (h1 : sentB e = true) (h2 : cameB ack mask seq = true) : ackE ack mask seq e = ⟨e.f0, e.f1, e.f2, true⟩ := by unfold ackE; rw [if_pos ⟨h1, h2⟩]
theorem ackE_no {ack mask seq : Int} {e : PartD} (h : sentB e = false ∨ cameB ack mask seq = false) : ackE ack mask seq e = e := by
  unfold ackE; rw [if_neg]; rintro ⟨a, b⟩; rcases h with h | h <;> simp_all
theorem slid_got {b : Int} {e : PartD} {r : List PartD} (h : e.f3 = true) : slid b (e :: r) = slid (b + 1) r := by simp only [slid]; rw [if_pos h]
theorem slid_not {b : Int} {e : PartD} {r : List PartD} (h : e.f3 = false) : slid b (e :: r) = (b, e :: r) := by simp only [slid]; rw [if_neg (by simp [h])]

/-- an element's last cell, set -/
theorem Lo.setGot {w : World} {F : Nat → Prop} {A : Option Addr} {n : Nat} {els : List PartD} (h : Lo PartD.cels 4 w F A n els) {k : Nat} {e : PartD} (he : els[k]? = some e) :
    ∃ b off B m d, A = some ⟨b, off, none⟩ ∧ F b ∧ b < w.heap.size ∧ (∀ i, w.frozen? ⟨b, i, none⟩ = false) ∧
      w.cell? ⟨b, off + k * 4, none⟩ = some (.slice B m d) ∧ w.cell? ⟨b, off + k * 4 + 1, none⟩ = some (.bool e.f1) ∧ w.cell? ⟨b, off + k * 4 + 2, none⟩ = some (.int .i64 e.f2) ∧ w.cell? ⟨b, off + k * 4 + 3, none⟩ = some (.bool e.f3) ∧
      Shut (Lo PartD.cels 4 (w.setCell ⟨b, off + k * 4 + 3, none⟩ (.bool true)) F A n (els.set k ⟨e.f0, e.f1, e.f2, true⟩)) := by
  obtain ⟨b, off, G, rfl, hF, hbl, hfz, hG, hc, hup⟩ := h.upd (fun _ => rfl) he
  obtain ⟨x0, c0, B, m, d, rfl, ho, hzz⟩ := hc 0 _ rfl
  obtain ⟨x1, c1, rfl⟩ := hc 1 _ rfl
  obtain ⟨x2, c2, rfl⟩ := hc 2 _ rfl
  obtain ⟨x3, c3, rfl⟩ := hc 3 _ rfl
  simp only [Nat.add_zero] at c0
  refine ⟨b, off, B, m, d, rfl, hF, hbl, hfz, c0, c1, c2, c3, ⟨?_⟩⟩
  have hB1 : Bo (w.setCell ⟨b, off + k * 4 + 3, none⟩ (.bool true)) (G 0) B m e.f0 := ho.keep (by simp) fun b' hb' _ => heapOff _ (hG 0 b' hb').2
  refine hup.out _ _ (by simp) (fun i => by simp only [World.frozen?_setCell]; exact hfz i) (fun b' hFb hbg' hGb hlb => heapOff _ hbg') (fun i hi => cellOff _ (by omega)) (fun i d0' hd => ?_)
  rcases i with _ | _ | _ | _ | i <;> simp [PartD.cels] at hd <;> subst hd
  · exact ⟨_, by rw [cellOff _ (by omega)]; exact c0, ⟨_, _, _, rfl, hB1, hzz⟩⟩
  · exact ⟨_, by rw [cellOff _ (by omega)]; exact c1, rfl⟩
  · exact ⟨_, by rw [cellOff _ (by omega)]; exact c2, rfl⟩
  · exact ⟨_, cellOn _ c3, rfl⟩
theorem Lo.tail {E : Type} {cels : E → List Cel} {sz : Nat} {w : World} {F : Nat → Prop} {b off n : Nat} {e : E} {r : List E} (h : Lo cels sz w F (some ⟨b, off, none⟩) (n + 1) (e :: r)) : Lo cels sz w F (some ⟨b, off + sz, none⟩) n r := by
  have hl := h.len
  refine ⟨by simpa using hl, fun _ => ?_⟩
  obtain ⟨g, o, G, hA, hF, hlt, hf, hG, hD, hc⟩ := h.at_ (by omega)
  injection hA with hA
  injection hA with h1 h2
  subst h1; subst h2
  refine ⟨b, off + sz, fun i => G (i + 1), rfl, hF, hlt, hf, fun i => hG (i + 1), fun i j i' j' b' h1 h2 => ?_, fun i x hi j d hj => ?_⟩
  · have := hD _ _ _ _ _ h1 h2
    exact ⟨by omega, this.2⟩
  · obtain ⟨y, hy, ho⟩ := hc (i + 1) x hi j d hj
    refine ⟨y, ?_, ho⟩
    have e9 : off + sz + i * sz + j = off + (i + 1) * sz + j := by rw [Nat.succ_mul]; omega
    rw [e9]; exact hy
end Go.Proofs.Ytpaemmoopjkppaa

/-! HakS -/
/- The model hears an answer: the marks, and what goes out of the window. -/
namespace Go.Proofs.Ytpaemmoopjkppaa
open Go.RowKit

def cnt (g : Nat) (w : World) : Nat := match w.cell? ⟨g, 1, none⟩ with | some (.slice _ n _) => n | _ => 0

end Go.Proofs.Ytpaemmoopjkppaa

/-! SldP -/
/- What goes out of the window, of the program. -/
namespace Go.Proofs.Ytpaemmoopjkppaa
open Go.RowKit

/-- what a part is, cell by cell, with no claim on its body -/
structure Raw where
  (a b c d : Value)
def Raw.cels (x : Raw) : List Cel := [.v x.a, .v x.b, .v x.c, .v x.d]

def cntP (g : Nat) (w : World) : Nat := match w.cell? ⟨g, 1, none⟩ with | some (.slice _ n _) => n | _ => 0

end Go.Proofs.Ytpaemmoopjkppaa

/-! HakN -/
/- HearAck of the model. -/
namespace Go.Proofs.Ytpaemmoopjkppaa
open Go.RowKit
theorem ackB_split {ack mask : Int} (h : ackB ack mask = true) : (0 ≤ ack ∧ ack ≤ 10000) ∧ 0 ≤ mask ∧ mask ≤ 255 := by
  unfold ackB at h
  have := of_decide_eq_true h
  exact ⟨⟨this.1, this.2.1⟩, this.2.2⟩

end Go.Proofs.Ytpaemmoopjkppaa

/-! HakJ -/
/- HearAck of the program. -/
namespace Go.Proofs.Ytpaemmoopjkppaa
open Go.RowKit

end Go.Proofs.Ytpaemmoopjkppaa
