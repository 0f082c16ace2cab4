/- A block of the stream, of the model. -/
import Derived.Test.YtcanmhlhnihijaaChaC
import Derived.Test.YtcanmhlhnihijaaShaD
import Derived.Test.YtcanmhlhnihijaaStartC
import Derived.Test.YtcanmhlhnihijaaRowC
import Derived.Test.YtcanmhlhnihijaaPackD
import Derived.Test.YtcanmhlhnihijaaCopyC
namespace Go.Proofs.Ytcanmhlhnihijaa
open Go.RowKit

def colsV (V : List Int) : Nat → List Int
  | 0 => V
  | k + 1 => qr (colsV V k) k (4 + k) (8 + k) (12 + k)
def diagV (V : List Int) : Nat → List Int
  | 0 => V
  | k + 1 => qr (diagV V k) k (4 + (k + 1) % 4) (8 + (k + 2) % 4) (12 + (k + 3) % 4)
def turnsV (V : List Int) : Nat → List Int
  | 0 => V
  | t + 1 => diagV (colsV (turnsV V t) 4) 4
theorem colsV_len (V : List Int) (k : Nat) : (colsV V k).length = V.length := by
  induction k with
  | zero => rfl
  | succ k ih => exact (qr_len _ _ _ _ _).trans ih
theorem diagV_len (V : List Int) (k : Nat) : (diagV V k).length = V.length := by
  induction k with
  | zero => rfl
  | succ k ih => exact (qr_len _ _ _ _ _).trans ih
theorem turnsV_len (V : List Int) (t : Nat) : (turnsV V t).length = V.length := by
  induction t with
  | zero => rfl
  | succ t ih => exact ((diagV_len _ _).trans (colsV_len _ _)).trans ih
def mixBytes (R S : List Int) : Nat → List Int
  | 0 => []
  | i + 1 => mixBytes R S i ++ lowOf (addW (R.getD i 0) (S.getD i 0)) 4
theorem mixBytes_len (R S : List Int) (i : Nat) : (mixBytes R S i).length = 4 * i := by
  induction i with
  | zero => rfl
  | succ i ih => rw [mixBytes, List.length_append, ih, lowOf_len]; omega
/-- the block of a key, a number and a nonce -/
def keyBlock (key : List Int) (n : Int) (nonce : List Int) : List Int := mixBytes (turnsV (startW key n nonce) 10) (startW key n nonce) 16
theorem keyBlock_len (key : List Int) (n : Int) (nonce : List Int) : (keyBlock key n nonce).length = 64 := mixBytes_len _ _ _

/-- bytes put behind a row, as one step of a region that draws its order -/
theorem step_row_join {ops : Array Oper} {o : Oper} {a : Act} {K : Act → World → Prop} {Q : Exit → Act → World → Prop} {E : Prop} (hgd : o.guard = none) (s x : Operand)
    (ho : o.op = .call { callee := .builtin .append, args := #[s, x], argTypes := #[22, 22] })
    (w : World) (B : Nat) (v : Value) (l r : List Int) (hs : a.eval s = v) (hrow : Row w B v l) (hB : B ≤ w.heap.size)
    (A : Option Addr) (n c : Nat) (hx : a.eval x = .slice A n c) (hbs : Bs w A n r) (hn0 : 0 < n) (hlen : l.length + n ≤ 140737488351232)
    (h : ∀ v' w', Row w' B v' (l ++ r) → Below B w w' → w.heap.size ≤ w'.heap.size → K (a.put o.dst v') w') :
    if Region.wanted o (yielded ops a.tmps) = true then Oper.wp Try.prog o a w K Q else E := by
  have hw : Region.wanted o (yielded ops a.tmps) = true := by simp [Region.wanted, hgd]
  rw [if_pos hw]
  obtain ⟨i0, hi, hz0, hz1, hz2⟩ := info_parts info_u8
  have hrl := hbs.len
  obtain ⟨b, off, rfl, _, hc⟩ := hbs.at_ hn0
  have hcell : ∀ j u, (r.map (Value.int .u8))[j]? = some u → w.cell? ((⟨b, off, none⟩ : Addr).add j) = some u := by
    intro j u hu
    have hj : j < r.length := by
      rcases Nat.lt_or_ge j r.length with h1 | h1
      · exact h1
      · rw [List.getElem?_eq_none (by simpa using h1)] at hu; cases hu
    have hadd : (⟨b, off, none⟩ : Addr).add j = ⟨b, off + j, none⟩ := by unfold Addr.add; split <;> simp_all
    rw [hadd, hc j (by omega)]
    rw [List.getElem?_map, List.getElem?_eq_getElem hj] at hu
    simpa [List.getD, List.getElem?_eq_getElem hj] using hu
  refine wp_append_own w s x 22 ho B 5 i0 (.int .u8 0) 1 1 Try.underlying22 hi hz0 hz1 hz2 rfl (by decide) v l.length _ hs hrow.own ⟨b, off, none⟩ n c (r.map (Value.int .u8)) hx (by simp [hrl]) hcell
    (fun u hu => by obtain ⟨y, _, rfl⟩ := List.mem_map.1 hu; rfl) (by unfold maxLen; omega) (by omega) hB ?_
  intro v' w' hown hgrow _
  refine h v' w' ⟨hrow.byte.append hbs.byte, ?_⟩ ⟨hgrow.os, hgrow.tape, hgrow.output, hgrow.size, fun k hk => hgrow.block k (by omega) (fun e => ?_)⟩ hgrow.size
  · rw [List.length_append, List.map_append, hrl]; exact hown
  · have := (hrow.own.lt k e.symm).1
    omega

end Go.Proofs.Ytcanmhlhnihijaa
