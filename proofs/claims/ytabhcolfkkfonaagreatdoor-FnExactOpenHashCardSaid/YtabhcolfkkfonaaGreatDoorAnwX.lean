import Derived.Test.YtabhcolfkkfonaaGreatDoorMakX
import Derived.Test.YtabhcolfkkfonaaGreatDoorPadX
import Derived.Test.YtabhcolfkkfonaaGreatDoorMacX

/-! HashAns -/
/- The answers of the model's hash functions that are of bytes. -/
namespace Go.Proofs.YtabhcolfkkfonaaGreatDoor
open Go.RowKit

def hcode (n : Nat) : Int := if n ≤ 1000 then 0 else 2
def hlen (n k : Nat) : Nat := if n ≤ 1000 then k else 0
def hbytes (n : Nat) (l : List Int) : List Int := if n ≤ 1000 then l else []

/-- the mac's bounds hold: key and data -/
def mok (n m : Nat) : Bool := decide (m ≤ 1000 ∧ n ≤ 64)
def mcode (n m : Nat) : Int := if mok n m = true then 0 else 2
def mlen (n m : Nat) : Nat := if mok n m = true then 32 else 0
def mbytes (n m : Nat) (l : List Int) : List Int := if mok n m = true then l else []

end Go.Proofs.YtabhcolfkkfonaaGreatDoor

/-! HashFns -/
/- PadMessage of the program. -/
namespace Go.Proofs.YtabhcolfkkfonaaGreatDoor
open Go.RowKit

/-- the same, with room for what it holds -/
def BytesAnsC (code : Int) (n : Nat) (l : List Int) (w : World) (e : Ending) (w' : World) : Prop :=
  (∃ A c, e = .returned (.agg #[.int .i64 code, .slice A n c]) ∧ Ow w' w.heap.size A n l ∧ n ≤ c) ∧ Below w.heap.size w w'

theorem hlen_le (n : Nat) : hlen n 32 ≤ 2000 := by unfold hlen; split <;> omega
theorem hpadlen (n : Nat) (l : List Int) (h : l.length = n) : hlen n (padW l).length ≤ 2000 := by
  unfold hlen
  split
  · rw [padW_len]; have := padN_lt l.length; omega
  · omega
theorem mlen_le (n m : Nat) : mlen n m ≤ 2000 := by unfold mlen; split <;> omega
end Go.Proofs.YtabhcolfkkfonaaGreatDoor

/-! KeysAns -/
/- The answer of the model's keys. -/
namespace Go.Proofs.YtabhcolfkkfonaaGreatDoor
open Go.RowKit

/-- the answer with a code and two runs of bytes in memory of its own -/
def PairAns (code : Int) (n m : Nat) (l r : List Int) (w : World) (e : Ending) (w' : World) : Prop :=
  (∃ A c B d, e = .returned (.agg #[.int .i64 code, .slice A n c, .slice B m d]) ∧ Ow w' w.heap.size A n l ∧ Ow w' w.heap.size B m r ∧ Sunder n m A B) ∧ Below w.heap.size w w'

/-- the code of the keys' answer -/
def kcode (n m : Nat) : Int := if n = 32 then (if m ≤ 1000 then 0 else 2) else 3
def klen (n m : Nat) : Nat := if n = 32 ∧ m ≤ 1000 then 32 else 0
def kbytes (n m : Nat) (l : List Int) : List Int := if n = 32 ∧ m ≤ 1000 then l else []

end Go.Proofs.YtabhcolfkkfonaaGreatDoor

/-! HashFns2 -/
/- HashOf, MacOf and KeysOf of the program. -/
namespace Go.Proofs.YtabhcolfkkfonaaGreatDoor
open Go.RowKit

theorem Three.alloc {w : World} {b : Nat} {t : TypeId} {x y z : Value} (h : Three w b t x y z) (o : Obj) (hl : b < w.heap.size) : Three (w.alloc o) b t x y z := (Below.heap_alloc w o b hl).trans h
theorem klen_le (n m : Nat) : klen n m ≤ 2000 := by unfold klen; split <;> omega

set_option maxHeartbeats 1000000 in
theorem implKeysOf_any (A C : Option Addr) (n c m d : Nat) (l r : List Int) (w : World) (hT : Tabs w) (h : Bs w A n l) (hr : Bs w C m r) (hd : C = none → d = 0) (hn : n ≤ 140737488351232) (hm : m ≤ 140737488351232) :
    Calls Tryz.prog 139 #[.slice A n c, .slice C m d] w (PairAns (kcode n m) (klen n m) (klen n m) (kbytes n m (firstW l r)) (kbytes n m (otherW l r)) w) := by
  by_cases hn1 : n = 32
  · by_cases hm1 : m ≤ 1000
    · have Hf : Shut (kcode n m = 0 ∧ klen n m = 32 ∧ kbytes n m (firstW l r) = firstW l r ∧ kbytes n m (otherW l r) = otherW l r) := ⟨by simp [kcode, klen, kbytes, hn1, hm1]⟩
      have Hfi : Shut (firstW l r = macW (macW l r) [1]) := ⟨rfl⟩
      have Hot : Shut (otherW l r = macW (macW l r) (firstW l r ++ [2])) := ⟨rfl⟩
      subst hn1
      clear hn hm
      have B1 := ab (ab (Below.refl _ w) (.cells #[.int .i64 0, .slice none 0 0, .slice none 0 0] 33)) (.cells #[.slice C m d] 22)
      have T1 := hT.keep B1
      have n1 := new_one (w.alloc (.cells #[.int .i64 0, .slice none 0 0, .slice none 0 0] 33)) (.slice C m d) 22
      rw [World.size_alloc] at n1
      have q1 := pts_one (by simp) n1 (hr.below B1) hd
      clear n1
      have HC1 : Shut (catL [(⟨C, m, d, r⟩ : Pt)] = r) := ⟨by simp [catL]⟩
      have HC2 : Shut (sumN [(⟨C, m, d, r⟩ : Pt)] = m) := ⟨by simp [sumN]⟩
      have t0 := (Three.new w 33 (.int .i64 0) (.slice none 0 0) (.slice none 0 0)).below (ab (Below.refl _ _) (.cells #[.slice C m d] 22)) (by simp)
      have h1 := h.below B1
      go_enter Tryz.func139, Tryz.ntmps139
      go_wp2_with fail
      refine (macParts_any A 32 c l (w.heap.size + 1) 1 1 _ _ T1 h1 (by omega) q1 rfl (by omega) (by rw [HC2.out]; omega)).mono ?_
      rintro e w1 ⟨⟨A1, c1, rfl, r1⟩, b1⟩
      rw [HC1.out] at r1
      have B2 := ac B1 b1
      have s1 := b1.size
      simp only [World.size_alloc] at s1 r1
      have t1 := t0.below b1 (by simp; omega)
      have o1 := r1.ow' (macW_len l r)
      clear q1 T1 h1 HC1 HC2 t0 r1 b1
      generalize macW l r = T at *
      have B3 := ab (ab B2 (.cells #[.int .u8 1] 5)) (.cells #[.slice (some ⟨w1.heap.size, 0, none⟩) 1 1] 22)
      have T3 := hT.keep B3
      have bb := ab (ab (Below.refl _ w1) (.cells #[.int .u8 1] 5)) (.cells #[.slice (some ⟨w1.heap.size, 0, none⟩) 1 1] 22)
      have n3 := new_one (w1.alloc (.cells #[.int .u8 1] 5)) (.slice (some ⟨w1.heap.size, 0, none⟩) 1 1) 22
      rw [World.size_alloc] at n3
      have q3 := pts_one (by simp) n3 (((Blk.made w1 [1]).bsn (by intro x hx; simp at hx; omega) rfl).alloc (.cells #[.slice (some ⟨w1.heap.size, 0, none⟩) 1 1] 22)) (fun e => by cases e)
      have o13 := o1.below bb (Nat.le_refl _)
      have t3 := t1.below bb (by omega)
      have HC1 : Shut (catL [(⟨some ⟨w1.heap.size, 0, none⟩, 1, 1, [1]⟩ : Pt)] = [1]) := ⟨by simp [catL]⟩
      have HC2 : Shut (sumN [(⟨some ⟨w1.heap.size, 0, none⟩, 1, 1, [1]⟩ : Pt)] = 1) := ⟨by simp [sumN]⟩
      clear n3 o1 t1 bb B2
      go_wp2_with fail
      refine (macParts_any A1 32 c1 T (w1.heap.size + 1) 1 1 _ _ T3 o13.bs (by omega) q3 rfl (by omega) (by rw [HC2.out]; omega)).mono ?_
      rintro e w2 ⟨⟨A2, c2, rfl, r2⟩, b2⟩
      rw [HC1.out, ← Hfi.out] at r2
      have s2 := b2.size
      simp only [World.size_alloc] at s2 r2
      have hfl : (firstW l r).length = 32 := by rw [Hfi.out]; exact macW_len _ _
      have B4 := ac B3 b2
      have o14 := o13.below b2 (Nat.le_refl _)
      have t4 := t3.below b2 (by simp; omega)
      have o2 := r2.ow' hfl
      have hc2 := r2.cap0
      clear q3 T3 HC1 HC2 o13 t3 r2 b2 B3
      have B5 := ab (ab B4 (.cells #[.int .u8 2] 5)) (.cells #[.slice A2 32 c2, .slice (some ⟨w2.heap.size, 0, none⟩) 1 1] 22)
      have T5 := hT.keep B5
      have bb := ab (ab (Below.refl _ w2) (.cells #[.int .u8 2] 5)) (.cells #[.slice A2 32 c2, .slice (some ⟨w2.heap.size, 0, none⟩) 1 1] 22)
      obtain ⟨n5, n6⟩ := new_two (w2.alloc (.cells #[.int .u8 2] 5)) (.slice A2 32 c2) (.slice (some ⟨w2.heap.size, 0, none⟩) 1 1) 22
      rw [World.size_alloc] at n5 n6
      have o15 := o14.below bb (Nat.le_refl _)
      have o25 := o2.below bb (Nat.le_refl _)
      have t5 := t4.below bb (by omega)
      have q5 := pts_two (by simp) n5 n6 o25.bs (((Blk.made w2 [2]).bsn (by intro x hx; simp at hx; omega) rfl).alloc (.cells #[.slice A2 32 c2, .slice (some ⟨w2.heap.size, 0, none⟩) 1 1] 22)) hc2 (fun e => by cases e)
      have HC1 : Shut (catL [(⟨A2, 32, c2, firstW l r⟩ : Pt), ⟨some ⟨w2.heap.size, 0, none⟩, 1, 1, [2]⟩] = firstW l r ++ [2]) := ⟨by simp [catL]⟩
      have HC2 : Shut (sumN [(⟨A2, 32, c2, firstW l r⟩ : Pt), ⟨some ⟨w2.heap.size, 0, none⟩, 1, 1, [2]⟩] = 33) := ⟨by simp [sumN]⟩
      clear n5 n6 o14 t4 B4
      go_wp2_with fail
      refine (macParts_any A1 32 c1 T (w2.heap.size + 1) 2 2 _ _ T5 o15.bs (by omega) q5 rfl (by omega) (by rw [HC2.out]; omega)).mono ?_
      rintro e w3 ⟨⟨A3, c3, rfl, r3⟩, b3⟩
      rw [HC1.out, ← Hot.out] at r3
      have s3 := b3.size
      simp only [World.size_alloc] at s3 r3
      have o3 := r3.ow' (by rw [Hot.out]; exact macW_len _ _)
      have B6 := ac B5 b3
      have o26 := o25.below b3 (Nat.le_refl _)
      have t6 := t5.below b3 (by simp; omega)
      have hap : Sunder 32 32 A2 A3 := fun hn1 hm1 a b ea eb => by
        have h1 := o2.top hn1 a ea
        have h2 := o3.base hm1 b eb
        omega
      obtain ⟨x0, x1, x2, x3, x4, x5⟩ := t6.cells
      clear q5 T5 HC1 HC2 o15 o25 t5 b3 B5 bb
      go_wp2
      refine bodyPost_ret (v := .agg #[.int .i64 0, .slice A2 32 c2, .slice A3 32 c3]) (by simp [results, Tryz.results139, go_sem, x0, x1, x2]) rfl ?_
      rw [Hf.out.1, Hf.out.2.1, Hf.out.2.2.1, Hf.out.2.2.2]
      refine ⟨⟨A2, c2, A3, c3, rfl, ?_, ?_, hap⟩, ?_⟩
      · exact (((o26.far (p := ⟨w.heap.size, 0, none⟩) (by simp; omega) _).far (p := ⟨w.heap.size, 1, none⟩) (by simp; omega) _).far (p := ⟨w.heap.size, 2, none⟩) (by simp; omega) _).mono (by omega)
      · exact (((o3.far (p := ⟨w.heap.size, 0, none⟩) (by simp; omega) _).far (p := ⟨w.heap.size, 1, none⟩) (by simp; omega) _).far (p := ⟨w.heap.size, 2, none⟩) (by simp; omega) _).mono (by omega)
      · exact ((B6.setCell (by simp) _).setCell (by simp) _).setCell (by simp) _
    · have Hf : Shut (kcode n m = 2 ∧ klen n m = 0 ∧ kbytes n m (firstW l r) = [] ∧ kbytes n m (otherW l r) = []) := ⟨by simp [kcode, klen, kbytes, hn1, hm1]⟩
      subst hn1
      have hm2 : 1000 < m := by omega
      clear hm1 hn
      go_enter Tryz.func139, Tryz.ntmps139
      go_wp2
      go_returns
      rw [Hf.out.1, Hf.out.2.1, Hf.out.2.2.1, Hf.out.2.2.2]
      exact ⟨⟨none, 0, none, 0, rfl, Ow.nil_ _ _, Ow.nil_ _ _, fun h0 => absurd h0 (by omega)⟩, by go_grown⟩
  · have Hf : Shut (kcode n m = 3 ∧ klen n m = 0 ∧ kbytes n m (firstW l r) = [] ∧ kbytes n m (otherW l r) = []) := ⟨by simp [kcode, klen, kbytes, hn1]⟩
    have hb : ((n : Int) != 32) = true := by rw [bne_iff_ne]; omega
    clear hn1
    go_enter Tryz.func139, Tryz.ntmps139
    go_wp2
    go_returns
    rw [Hf.out.1, Hf.out.2.1, Hf.out.2.2.1, Hf.out.2.2.2]
    exact ⟨⟨none, 0, none, 0, rfl, Ow.nil_ _ _, Ow.nil_ _ _, fun h0 => absurd h0 (by omega)⟩, by go_grown⟩
end Go.Proofs.YtabhcolfkkfonaaGreatDoor
