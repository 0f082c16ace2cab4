import Derived.Test.YtpaemmoopjkppaaBase

/-! PairC -/
/- The laws' helpers for an answer of two runs of bytes. -/
namespace Go.Proofs.Ytpaemmoopjkppaa
open Go.RowKit

/-- two runs of bytes share no block -/
def Sunder (n m : Nat) (A B : Option Addr) : Prop := 0 < n → 0 < m → ∀ a b, A = some a → B = some b → a.block ≠ b.block
/-- a struct of three cells -/
def Three (w : World) (b : Nat) (t : TypeId) (x y z : Value) : Prop := w.heap[b]? = some (.cells #[x, y, z] t (0, 0))
theorem Three.cells {w : World} {b : Nat} {t : TypeId} {x y z : Value} (h : Three w b t x y z) :
    w.cell? ⟨b, 0, none⟩ = some x ∧ w.cell? ⟨b, 1, none⟩ = some y ∧ w.cell? ⟨b, 2, none⟩ = some z ∧ w.frozen? ⟨b, 0, none⟩ = false ∧ w.frozen? ⟨b, 1, none⟩ = false ∧ w.frozen? ⟨b, 2, none⟩ = false := by
  unfold Three at h
  refine ⟨?_, ?_, ?_, by simp [World.frozen?, h], by simp [World.frozen?, h], by simp [World.frozen?, h]⟩
  · simpa using cell_of_row w b 0 _ _ (0, 0) h
  · simpa using cell_of_row w b 1 _ _ (0, 0) h
  · simpa using cell_of_row w b 2 _ _ (0, 0) h
theorem Three.new (w : World) (t : TypeId) (x y z : Value) : Three (w.alloc (.cells #[x, y, z] t)) w.heap.size t x y z := heap_alloc_new w _
theorem Three.below {w w' : World} {b B : Nat} {t : TypeId} {x y z : Value} (h : Three w b t x y z) (hb : Below B w w') (hl : b < B) : Three w' b t x y z := (hb.block b hl).trans h
theorem Three.only {w w' : World} {b n : Nat} {A : Option Addr} {t : TypeId} {x y z : Value} (h : Three w b t x y z) (ho : Only n A w w') (hA : 0 < n → ∀ a, A = some a → a.block ≠ b) : Three w' b t x y z := (ho.block b hA).trans h

theorem Ow.only' {w w' : World} {B n m : Nat} {A A' : Option Addr} {l : List Int} (h : Ow w B A n l) (ho : Only m A' w w') (ha : Sunder m n A' A) : Ow w' B A n l :=
  ⟨h.len, h.byte, fun hn => by
    obtain ⟨b, e, hB, hlt, hc, hf⟩ := h.at_ hn
    have hk := ho.block b (fun hm a he => ha hm hn a _ he e)
    exact ⟨b, e, hB, by rw [ho.size]; exact hlt, fun i hi => (World.cell?_of_block (a := ⟨b, i, none⟩) hk).trans (hc i hi), fun i => (World.frozen?_of_block (a := ⟨b, i, none⟩) hk).trans (hf i)⟩⟩
theorem Sunder.symm {n m : Nat} {A B : Option Addr} (h : Sunder n m A B) : Sunder m n B A := fun h1 h2 a b ea eb e => h h2 h1 b a eb ea e.symm

end Go.Proofs.Ytpaemmoopjkppaa

/-! RowsC -/
/- Runs of bytes of the call's own, side by side; structs of some cells; what may be touched. -/
namespace Go.Proofs.Ytpaemmoopjkppaa
open Go.RowKit

/-- some runs of bytes of the call's own, no two of which share a block -/
def Rs (w : World) (B : Nat) : List (Option Addr × Nat × List Int) → Prop
  | [] => True
  | x :: r => Ow w B x.1 x.2.1 x.2.2 ∧ (∀ y ∈ r, Sunder x.2.1 y.2.1 x.1 y.1) ∧ Rs w B r

theorem Rs.nil (w : World) (B : Nat) : Rs w B [] := trivial
theorem Rs.head {w : World} {B n : Nat} {A : Option Addr} {l : List Int} {r : List (Option Addr × Nat × List Int)} (h : Rs w B ((A, n, l) :: r)) : Ow w B A n l := h.1
theorem Rs.rest {w : World} {B : Nat} {x : Option Addr × Nat × List Int} {r : List (Option Addr × Nat × List Int)} (h : Rs w B (x :: r)) : Rs w B r := h.2.2
theorem Rs.cons {w : World} {B n : Nat} {A : Option Addr} {l : List Int} {r : List (Option Addr × Nat × List Int)} (h : Ow w B A n l) (ha : ∀ y ∈ r, Sunder n y.2.1 A y.1) (hr : Rs w B r) : Rs w B ((A, n, l) :: r) := ⟨h, ha, hr⟩
theorem Rs.mem {w : World} {B : Nat} {L : List (Option Addr × Nat × List Int)} (h : Rs w B L) : ∀ x ∈ L, Ow w B x.1 x.2.1 x.2.2 := by
  induction L with
  | nil => intro x hx; cases hx
  | cons y r ih =>
    intro x hx
    rcases List.mem_cons.1 hx with rfl | hx
    · exact h.1
    · exact ih h.2.2 x hx
/-- the same runs, each carried over -/
theorem Rs.map {w w' : World} {B B' : Nat} {L : List (Option Addr × Nat × List Int)} (h : Rs w B L) (f : ∀ x ∈ L, Ow w B x.1 x.2.1 x.2.2 → Ow w' B' x.1 x.2.1 x.2.2) : Rs w' B' L := by
  induction L with
  | nil => trivial
  | cons y r ih => exact ⟨f y (by simp) h.1, h.2.1, ih h.2.2 (fun x hx => f x (by simp [hx]))⟩
theorem Rs.below {w w' : World} {B C : Nat} {L : List (Option Addr × Nat × List Int)} (h : Rs w B L) (hb : Below C w w') (hC : w.heap.size ≤ C) : Rs w' B L := h.map fun _ _ o => o.below hb hC
theorem Rs.mono {w : World} {B C : Nat} {L : List (Option Addr × Nat × List Int)} (h : Rs w B L) (hC : C ≤ B) : Rs w C L := h.map fun _ _ o => o.mono hC
theorem Rs.alloc {w : World} {B : Nat} {L : List (Option Addr × Nat × List Int)} (h : Rs w B L) (o : Obj) : Rs (w.alloc o) B L := h.map fun _ _ k => k.alloc o
theorem Rs.drewN {w : World} {B : Nat} {L : List (Option Addr × Nat × List Int)} (h : Rs w B L) (q : Nat) : Rs (w.drewN q) B L := h.map fun _ _ k => k.drewN q
theorem Rs.far {w : World} {B : Nat} {L : List (Option Addr × Nat × List Int)} (h : Rs w B L) {p : Addr} (hp : p.block < B) (v : Value) : Rs (w.setCell p v) B L := h.map fun _ _ k => k.far hp v
/-- where the runs end: below H -/
def Tops (H : Nat) (L : List (Option Addr × Nat × List Int)) : Prop := ∀ x ∈ L, 0 < x.2.1 → ∀ a, x.1 = some a → a.block < H
theorem Rs.tops {w : World} {B : Nat} {L : List (Option Addr × Nat × List Int)} (h : Rs w B L) : Tops w.heap.size L := fun x hx => (h.mem x hx).top
theorem Rs.bases {w : World} {B : Nat} {L : List (Option Addr × Nat × List Int)} (h : Rs w B L) : ∀ x ∈ L, 0 < x.2.1 → ∀ a, x.1 = some a → B ≤ a.block := fun x hx => (h.mem x hx).base
theorem Tops.mono {H H' : Nat} {L : List (Option Addr × Nat × List Int)} (h : Tops H L) (hl : H ≤ H') : Tops H' L := fun x hx hn a ha => Nat.lt_of_lt_of_le (h x hx hn a ha) hl
theorem Rs.under {w w' : World} {B C : Nat} {L : List (Option Addr × Nat × List Int)} (h : Rs w B L) (hb : Below C w w') (hT : Tops C L) : Rs w' B L := h.map fun x hx o => o.under hb (hT x hx)

/-- nothing but the blocks of some runs is turned -/
structure Touch (L : List (Option Addr × Nat × List Int)) (w w' : World) : Prop where
  os : w'.os = w.os
  tape : w'.tape = w.tape
  output : w'.output = w.output
  size : w.heap.size ≤ w'.heap.size
  block : ∀ k, k < w.heap.size → (∀ x ∈ L, 0 < x.2.1 → ∀ a, x.1 = some a → a.block ≠ k) → w'.heap[k]? = w.heap[k]?
theorem Touch.refl (L : List (Option Addr × Nat × List Int)) (w : World) : Touch L w w := ⟨rfl, rfl, rfl, Nat.le_refl _, fun _ _ _ => rfl⟩
theorem Touch.trans {L : List (Option Addr × Nat × List Int)} {a b c : World} (h : Touch L a b) (k : Touch L b c) : Touch L a c :=
  ⟨k.os.trans h.os, k.tape.trans h.tape, k.output.trans h.output, Nat.le_trans h.size k.size, fun i hi hx => (k.block i (Nat.lt_of_lt_of_le hi h.size) hx).trans (h.block i hi hx)⟩
theorem Touch.ofBelow {L : List (Option Addr × Nat × List Int)} {w w' : World} (h : Below w.heap.size w w') : Touch L w w' := ⟨h.os, h.tape, h.output, h.size, fun k hk _ => h.block k hk⟩
theorem Touch.ofOnly {L : List (Option Addr × Nat × List Int)} {n : Nat} {A : Option Addr} {l : List Int} {w w' : World} (h : Only n A w w') (hm : (A, n, l) ∈ L) : Touch L w w' :=
  ⟨h.os, h.tape, h.output, by rw [h.size]; exact Nat.le_refl _, fun k _ hx => h.block k (hx _ hm)⟩
theorem Touch.wider {L M : List (Option Addr × Nat × List Int)} {w w' : World} (h : Touch L w w') (hs : ∀ x ∈ L, x ∈ M) : Touch M w w' :=
  ⟨h.os, h.tape, h.output, h.size, fun k hk hx => h.block k hk (fun x hm => hx x (hs x hm))⟩
theorem Touch.below {L : List (Option Addr × Nat × List Int)} {w w' : World} {C : Nat} (h : Touch L w w') (hC : C ≤ w.heap.size) (hb : ∀ x ∈ L, 0 < x.2.1 → ∀ a, x.1 = some a → C ≤ a.block) : Below C w w' :=
  ⟨h.os, h.tape, h.output, h.size, fun k hk => h.block k (by omega) (fun x hx hn a ha e => by have := hb x hx hn a ha; omega)⟩
theorem Ow.touch {w w' : World} {B n : Nat} {A : Option Addr} {l : List Int} {L : List (Option Addr × Nat × List Int)} (h : Ow w B A n l) (t : Touch L w w') (ha : ∀ y ∈ L, Sunder n y.2.1 A y.1) : Ow w' B A n l :=
  ⟨h.len, h.byte, fun hn => by
    obtain ⟨b, e, hB, hlt, hc, hf⟩ := h.at_ hn
    have hk := t.block b hlt (fun x hx h0 a ea eb => ha x hx hn h0 _ a e ea eb.symm)
    exact ⟨b, e, hB, Nat.lt_of_lt_of_le hlt t.size, fun i hi => (World.cell?_of_block (a := ⟨b, i, none⟩) hk).trans (hc i hi), fun i => (World.frozen?_of_block (a := ⟨b, i, none⟩) hk).trans (hf i)⟩⟩
theorem Rs.touch {w w' : World} {B : Nat} {L M : List (Option Addr × Nat × List Int)} (h : Rs w B L) (t : Touch M w w') (hM : Tops B M) : Rs w' B L :=
  h.map fun _ _ o => o.touch t (fun y hy hn hm a b ea eb e => by have h1 := o.base hn a ea; have h2 := hM y hy hm b eb; omega)

/-- a struct whose cells are l -/
def Stc (w : World) (b : Nat) (l : List Value) (t : TypeId) : Prop := w.heap[b]? = some (.cells l.toArray t (0, 0))
theorem Stc.cell {w : World} {b : Nat} {l : List Value} {t : TypeId} (h : Stc w b l t) {i : Nat} {v : Value} (e : l[i]? = some v) : w.cell? ⟨b, i, none⟩ = some v := by
  unfold Stc at h
  have := cell_of_row w b i _ _ (0, 0) h
  rw [this]
  simpa using e
theorem Stc.frozen {w : World} {b : Nat} {l : List Value} {t : TypeId} (h : Stc w b l t) (i : Nat) : w.frozen? ⟨b, i, none⟩ = false := by
  unfold Stc at h
  simp [World.frozen?, h]
theorem Stc.new (w : World) (t : TypeId) (l : List Value) (cs : Array Value) (hc : cs = l.toArray) : Stc (w.alloc (.cells cs t)) w.heap.size l t := by
  subst hc
  exact heap_alloc_new w _
theorem Stc.lt {w : World} {b : Nat} {l : List Value} {t : TypeId} (h : Stc w b l t) : b < w.heap.size := by
  unfold Stc at h
  exact (Array.getElem?_eq_some_iff.1 h).1
theorem Stc.below {w w' : World} {b B : Nat} {l : List Value} {t : TypeId} (h : Stc w b l t) (hb : Below B w w') (hl : b < B) : Stc w' b l t := (hb.block b hl).trans h
theorem Stc.alloc {w : World} {b : Nat} {l : List Value} {t : TypeId} (h : Stc w b l t) (o : Obj) : Stc (w.alloc o) b l t := (Below.heap_alloc w o b h.lt).trans h
theorem Stc.drewN {w : World} {b : Nat} {l : List Value} {t : TypeId} (h : Stc w b l t) (q : Nat) : Stc (w.drewN q) b l t := h
theorem Stc.far {w : World} {b : Nat} {l : List Value} {t : TypeId} (h : Stc w b l t) {p : Addr} (hp : b ≠ p.block) (v : Value) : Stc (w.setCell p v) b l t := (Below.heap_setCell w p v b hp).trans h
theorem Stc.touch {w w' : World} {b : Nat} {l : List Value} {t : TypeId} {M : List (Option Addr × Nat × List Int)} (h : Stc w b l t) (k : Touch M w w') (hM : ∀ x ∈ M, 0 < x.2.1 → ∀ a, x.1 = some a → a.block ≠ b) : Stc w' b l t := (k.block b h.lt hM).trans h
theorem Stc.set_ {w : World} {b i : Nat} {l : List Value} {t : TypeId} (h : Stc w b l t) (v : Value) : Stc (w.setCell ⟨b, i, none⟩ v) b (l.set i v) t := by
  unfold Stc at h ⊢
  simp [World.setCell, Array.getElem?_modify, h]

/-- no cell of a struct is a byte -/
def NoByte (l : List Value) : Prop := ∀ v ∈ l, ∀ x, v ≠ .int .u8 x
theorem NoByte.set {l : List Value} (h : NoByte l) (i : Nat) {v : Value} (hv : ∀ x, v ≠ .int .u8 x) : NoByte (l.set i v) := fun u hu => by
  rcases List.mem_or_eq_of_mem_set hu with h1 | rfl
  · exact h u h1
  · exact hv
/-- nothing but the block b is turned -/
structure Save (b : Nat) (w w' : World) : Prop where
  os : w'.os = w.os
  tape : w'.tape = w.tape
  output : w'.output = w.output
  size : w.heap.size ≤ w'.heap.size
  block : ∀ k, k < w.heap.size → k ≠ b → w'.heap[k]? = w.heap[k]?
theorem Save.refl (b : Nat) (w : World) : Save b w w := ⟨rfl, rfl, rfl, Nat.le_refl _, fun _ _ _ => rfl⟩
theorem Save.trans {x : Nat} {a b c : World} (h : Save x a b) (k : Save x b c) : Save x a c :=
  ⟨k.os.trans h.os, k.tape.trans h.tape, k.output.trans h.output, Nat.le_trans h.size k.size, fun i hi hx => (k.block i (Nat.lt_of_lt_of_le hi h.size) hx).trans (h.block i hi hx)⟩
theorem Save.ofBelow {x : Nat} {w w' : World} (h : Below w.heap.size w w') : Save x w w' := ⟨h.os, h.tape, h.output, h.size, fun k hk _ => h.block k hk⟩
theorem Save.set_ {x : Nat} {w w' : World} (h : Save x w w') (i : Nat) (v : Value) : Save x w (w'.setCell ⟨x, i, none⟩ v) :=
  ⟨h.os, h.tape, h.output, by rw [World.size_setCell]; exact h.size, fun k hk hx => (Below.heap_setCell w' ⟨x, i, none⟩ v k hx).trans (h.block k hk hx)⟩
theorem Save.drewN {x : Nat} {w w' : World} (h : Save x w w') (q : Nat) : Save x w (w'.drewN q) := ⟨h.os, h.tape, h.output, h.size, h.block⟩
theorem Save.below {x B : Nat} {w w' : World} (h : Save x w w') (hb : B ≤ x) (hB : B ≤ w.heap.size) : Below B w w' :=
  ⟨h.os, h.tape, h.output, h.size, fun k hk => h.block k (by omega) (by omega)⟩
theorem Save.then {x : Nat} {a w w' : World} (h : Save x a w) (k : Below w.heap.size w w') : Save x a w' := h.trans (Save.ofBelow k)
/-- bytes do not lie in a struct that has none -/
theorem Bs.save {w w' : World} {A : Option Addr} {n b : Nat} {l : List Int} {L : List Value} {t : TypeId} (h : Bs w A n l) (hs : Stc w b L t) (hL : NoByte L) (hb : Save b w w') : Bs w' A n l :=
  ⟨h.len, h.byte, fun hn => by
    obtain ⟨b', off, e, hlt, hc⟩ := h.at_ hn
    have hne : b' ≠ b := fun e' => by
      subst e'
      have h0 := hc 0 hn
      unfold Stc at hs
      rw [cell_of_row w b' (off + 0) _ _ (0, 0) hs] at h0
      have h1 : L[off + 0]? = some (.int .u8 (l.getD 0 0)) := by simpa using h0
      exact hL _ (List.mem_of_getElem? h1) _ rfl
    have hk := hb.block b' hlt hne
    exact ⟨b', off, e, Nat.lt_of_lt_of_le hlt hb.size, fun i hi => (World.cell?_of_block (a := ⟨b', off + i, none⟩) hk).trans (hc i hi)⟩⟩
theorem Ow.save {w w' : World} {A : Option Addr} {n b B : Nat} {l : List Int} (h : Ow w B A n l) (hb : Save b w w') (hx : b < B) : Ow w' B A n l :=
  ⟨h.len, h.byte, fun hn => by
    obtain ⟨b', e, hB, hlt, hc, hf⟩ := h.at_ hn
    have hk := hb.block b' hlt (by omega)
    exact ⟨b', e, hB, Nat.lt_of_lt_of_le hlt hb.size, fun i hi => (World.cell?_of_block (a := ⟨b', i, none⟩) hk).trans (hc i hi), fun i => (World.frozen?_of_block (a := ⟨b', i, none⟩) hk).trans (hf i)⟩⟩
/-- of a struct of no bytes: whose runs, wherever they lie -/
theorem Ow.save' {w w' : World} {A : Option Addr} {n b B : Nat} {l : List Int} {L : List Value} {t : TypeId} (h : Ow w B A n l) (hs : Stc w b L t) (hL : NoByte L) (hb : Save b w w') : Ow w' B A n l :=
  ⟨h.len, h.byte, fun hn => by
    obtain ⟨b', e, hB, hlt, hc, hf⟩ := h.at_ hn
    have hne : b' ≠ b := fun e' => by
      subst e'
      have h0 := hc 0 hn
      unfold Stc at hs
      rw [cell_of_row w b' 0 _ _ (0, 0) hs] at h0
      have h1 : L[0]? = some (.int .u8 (l.getD 0 0)) := by simpa using h0
      exact hL _ (List.mem_of_getElem? h1) _ rfl
    have hk := hb.block b' hlt hne
    exact ⟨b', e, hB, Nat.lt_of_lt_of_le hlt hb.size, fun i hi => (World.cell?_of_block (a := ⟨b', i, none⟩) hk).trans (hc i hi), fun i => (World.frozen?_of_block (a := ⟨b', i, none⟩) hk).trans (hf i)⟩⟩
theorem Stc.save {w w' : World} {b x : Nat} {l : List Value} {t : TypeId} (h : Stc w b l t) (k : Save x w w') (hx : b ≠ x) : Stc w' b l t := (k.block b h.lt hx).trans h
end Go.Proofs.Ytpaemmoopjkppaa

/-! SymC -/
/- The laws' helpers for a state of a handshake. -/
namespace Go.Proofs.Ytpaemmoopjkppaa
open Go.RowKit

theorem szByteS_any (A : Option Addr) (n c : Nat) (x : Int) (w : World) (h0 : 0 ≤ x) (h1 : x ≤ 1048576) (hn : n ≤ 9223372036854775807) :
    Calls Try.prog 34 #[.slice A n c, .int .i64 x] w fun e w' => e = .returned (.int .i64 (if x - (n : Int) < 0 then -1 else x - (n : Int))) ∧ w' = w := by
  by_cases hx : x - (n : Int) < 0
  · rw [if_pos hx]
    go_enter Try.func34, Try.ntmps34
    go_wp2
    go_ret
    exact ⟨rfl, rfl⟩
  · rw [if_neg hx]
    go_enter Try.func34, Try.ntmps34
    go_wp2
    go_ret
    exact ⟨rfl, rfl⟩

/-- what is left of a bound behind three runs -/
def leftS (n0 n1 n2 : Nat) : Int := if 1048576 - (n0 : Int) < 0 then -1 else if 1048576 - (n0 : Int) - n1 < 0 then -1 else if 1048576 - (n0 : Int) - n1 - n2 < 0 then -1 else 1048576 - (n0 : Int) - n1 - n2

/-- what is left when three runs fit -/
theorem leftS_fit {n m q : Nat} (h : n + m + q ≤ 1048576) : leftS n m q = 1048576 - (n : Int) - m - q := by unfold leftS; rw [if_neg (by omega), if_neg (by omega), if_neg (by omega)]
theorem leftS_not {n m q : Nat} (h : ¬ n + m + q ≤ 1048576) : leftS n m q = -1 := by unfold leftS; repeat' split <;> first | rfl | omega

end Go.Proofs.Ytpaemmoopjkppaa

/-! SymA -/
/- The answers that bear a state. -/
namespace Go.Proofs.Ytpaemmoopjkppaa
open Go.RowKit

/-- a slice has room for what it holds -/
def Roomy (A : Option Addr) (n c : Nat) : Prop := n ≤ c ∧ (A = none → c = 0)

/-- an answer with a code, a state and bytes, in memory of its own -/
def SymAns (x : Int) (n m q p : Nat) (l r s t : List Int) (k : Int) (w : World) (e : Ending) (w' : World) : Prop :=
  (∃ A c B d C f D g, e = .returned (.agg #[.int .i64 x, .slice A n c, .slice B m d, .slice C q f, .int .i64 k, .slice D p g]) ∧
    Rs w' w.heap.size [(A, n, l), (B, m, r), (C, q, s), (D, p, t)] ∧ Roomy D p g) ∧ Below w.heap.size w w'
end Go.Proofs.Ytpaemmoopjkppaa

/-! CellC -/
/- The laws' helpers for a cell, and for an answer that bears one. -/
namespace Go.Proofs.Ytpaemmoopjkppaa
open Go.RowKit

theorem Rs.one {w : World} {B n : Nat} {A : Option Addr} {l : List Int} (h : Ow w B A n l) : Rs w B [(A, n, l)] := Rs.cons h (fun y hy => by cases hy) (Rs.nil _ _)

set_option maxHeartbeats 1000000 in
theorem toCell_any (a b c d : Int) (v : Bool) (A : Option Addr) (n e : Nat) (l : List Int) (w : World) (h : Bs w A n l) (hn : n ≤ 140737488351232) :
    Calls Try.prog 10 #[.agg #[.int .i64 a, .int .i64 b, .int .i64 c, .int .i64 d, .bool v, .slice A n e]] w fun e w' => (∃ g, e = .returned (.agg #[.int .i64 a, .int .i64 b, .int .i64 c, .int .i64 d, .bool v, .slice (some ⟨g, 0, none⟩) n n]) ∧ Rs w' w.heap.size [(some ⟨g, 0, none⟩, n, l)]) ∧ Below w.heap.size w w' := by
  have S1 := ((Stc.new (w.alloc (.cells #[.int .i64 a, .int .i64 b, .int .i64 c, .int .i64 d, .bool v, .slice A n e] 27)) 38 [.int .i64 0, .int .i64 0, .int .i64 0, .int .i64 0, .bool false, .slice none 0 0] _ rfl).alloc (.cells #[.int .i64 a, .int .i64 b, .int .i64 c, .int .i64 d, .bool v, .slice none 0 0] 38))
  have S2 := (Stc.new ((w.alloc (.cells #[.int .i64 a, .int .i64 b, .int .i64 c, .int .i64 d, .bool v, .slice A n e] 27)).alloc (.cells #[.int .i64 0, .int .i64 0, .int .i64 0, .int .i64 0, .bool false, .slice none 0 0] 38)) 38 [.int .i64 a, .int .i64 b, .int .i64 c, .int .i64 d, .bool v, .slice none 0 0] _ rfl)
  have B0 := ab (ab (ab (Below.refl _ w) (.cells #[.int .i64 a, .int .i64 b, .int .i64 c, .int .i64 d, .bool v, .slice A n e] 27)) (.cells #[.int .i64 0, .int .i64 0, .int .i64 0, .int .i64 0, .bool false, .slice none 0 0] 38)) (.cells #[.int .i64 a, .int .i64 b, .int .i64 c, .int .i64 d, .bool v, .slice none 0 0] 38)
  simp only [World.size_alloc] at S1 S2
  go_enter Try.func10, Try.ntmps10
  go_wp2_with fail
  refine (toByteS_any _ _ _ _ _ (h.below B0) hn).mono ?_
  rintro e w1 ⟨rfl, k1, b1⟩
  have z1 := b1.size
  simp only [World.size_alloc] at k1 z1 ⊢
  have u1 := k1.lt
  have B1 := ac B0 b1
  replace S1 := S1.below b1 (by simp)
  replace S2 := S2.below b1 (by simp)
  clear b1 B0
  have x0 := S1.cell (i := 0) rfl
  have x1 := S1.cell (i := 1) rfl
  have x2 := S1.cell (i := 2) rfl
  have x3 := S1.cell (i := 3) rfl
  have x4 := S1.cell (i := 4) rfl
  have x5 := S1.cell (i := 5) rfl
  have y0 := S2.cell (i := 0) rfl
  have y1 := S2.cell (i := 1) rfl
  have y2 := S2.cell (i := 2) rfl
  have y3 := S2.cell (i := 3) rfl
  have y4 := S2.cell (i := 4) rfl
  have y5 := S2.cell (i := 5) rfl
  have y6 := S2.frozen
  have y7 := S1.frozen
  go_wp2
  refine bodyPost_ret (v := .agg #[.int .i64 a, .int .i64 b, .int .i64 c, .int .i64 d, .bool v, .slice (some ⟨w.heap.size + 1 + 1 + 1, 0, none⟩) n n]) (by simp [results, Try.results10, go_sem, x0, x1, x2, x3, x4, x5]) rfl ?_
  have q1 : Ow w1 (w.heap.size + 1 + 1 + 1) (some ⟨w.heap.size + 1 + 1 + 1, 0, none⟩) n l := k1.own h.byte h.len
  refine ⟨⟨_, rfl, Rs.one ((((((((q1.far ?_ _).far ?_ _).far ?_ _).far ?_ _).far ?_ _).far ?_ _).far ?_ _).mono (by omega))⟩, ?_⟩
  · simp
  · simp
  · simp
  · simp
  · simp
  · simp
  · simp
  · exact ((((((B1.setCell (by simp; omega) _).setCell (by simp) _).setCell (by simp) _).setCell (by simp) _).setCell (by simp) _).setCell (by simp) _).setCell (by simp) _

/-- what is left of a bound behind one run -/
def leftC (x : Int) (n : Nat) : Int := if x - (n : Int) < 0 then -1 else x - (n : Int)
theorem szCell_any (a b c d : Int) (v : Bool) (A : Option Addr) (n e : Nat) (x : Int) (w : World) (h0 : 0 ≤ x) (h1 : x ≤ 1048576) (hn : n ≤ 9223372036854775807) :
    Calls Try.prog 7 #[.agg #[.int .i64 a, .int .i64 b, .int .i64 c, .int .i64 d, .bool v, .slice A n e], .int .i64 x] w fun e w' => e = .returned (.int .i64 (leftC x n)) ∧ Below w.heap.size w w' := by
  have e1 := fun w => szByteS_any A n e x w h0 h1 hn
  have hb : leftC x n ≤ 1048576 ∧ -1 ≤ leftC x n := by unfold leftC; split <;> omega
  by_cases hy : leftC x n < 0
  · have e2 : leftC x n = -1 := by unfold leftC at hy ⊢; split at hy <;> omega
    unfold leftC at e2
    rw [e2] at e1
    unfold leftC
    rw [e2]
    clear e2 hy hb h0 h1
    go_enter Try.func7, Try.ntmps7
    go_wp2_with fail
    refine (e1 _).mono ?_
    rintro e w' ⟨rfl, rfl⟩
    go_wp2
    go_ret
    exact ⟨rfl, ab (Below.refl _ _) _⟩
  · unfold leftC at hy ⊢
    generalize (if x - (n : Int) < 0 then -1 else x - (n : Int)) = y at *
    go_enter Try.func7, Try.ntmps7
    go_wp2_with fail
    refine (e1 _).mono ?_
    rintro e w' ⟨rfl, rfl⟩
    go_wp2
    go_ret
    exact ⟨rfl, ab (Below.refl _ _) _⟩

theorem eqCell_any (a b c d : Int) (v : Bool) (A A' : Option Addr) (n f f' : Nat) (l : List Int) (w : World) (h : Bs w A n l) (h' : Bs w A' n l) (hn : n ≤ 140737488351232) :
    Calls Try.prog 14 #[.agg #[.int .i64 a, .int .i64 b, .int .i64 c, .int .i64 d, .bool v, .slice A n f], .agg #[.int .i64 a, .int .i64 b, .int .i64 c, .int .i64 d, .bool v, .slice A' n f']] w fun e w' => e = .returned (.bool true) ∧ Below w.heap.size w w' := by
  have e1 := fun W a b => eqByteS_any A A' n f n f' l l W a b hn hn
  simp only [decide_true] at e1
  go_enter Try.func14, Try.ntmps14
  go_wp2_with fail
  refine (e1 _ ((h.alloc _).alloc _) ((h'.alloc _).alloc _)).mono ?_
  rintro e w' ⟨rfl, q1, rfl⟩
  go_wp2
  go_returns
  exact ⟨rfl, ad (ab (ab (Below.refl _ _) _) _) _⟩

theorem markCell_any (a b c d : Int) (v : Bool) (A : Option Addr) (n f : Nat) (l : List Int) (X : Nat) (k : Int) (w : World) (h : Rs w X [(A, n, l)]) (hk0 : 0 ≤ k) (hk1 : k ≤ 140737488351232) (hn : n ≤ 140737488351232) :
    Calls Try.prog 16 #[.agg #[.int .i64 a, .int .i64 b, .int .i64 c, .int .i64 d, .bool v, .slice A n f], .int .i64 k] w fun e w' => e = .returned (.int .i64 (k + (n : Int))) ∧ Rs w' X [(A, n, marks k n)] ∧ Touch [(A, n, l)] w w' := by
  go_enter Try.func16, Try.ntmps16
  go_wp2_with fail
  refine (markByteS_any _ _ _ _ _ _ _ (h.head.below (ab (Below.refl _ _) _) (Nat.le_refl _)) hk0 hk1 hn).mono ?_
  rintro e w' ⟨rfl, ho, hon⟩
  go_wp2
  go_returns
  exact ⟨rfl, Rs.one ho, (Touch.ofBelow (ab (Below.refl _ _) _)).trans (Touch.ofOnly (L := [(A, n, l)]) (l := l) hon (by simp))⟩

/-- the answer with a code, a slot and a cell whose bytes are of the call's own -/
def CellAns (x y a b c d : Int) (v : Bool) (n : Nat) (l : List Int) (w : World) (e : Ending) (w' : World) : Prop :=
  (∃ A f, e = .returned (.agg #[.int .i64 x, .int .i64 y, .int .i64 a, .int .i64 b, .int .i64 c, .int .i64 d, .bool v, .slice A n f]) ∧ Rs w' w.heap.size [(A, n, l)]) ∧ Below w.heap.size w w'

end Go.Proofs.Ytpaemmoopjkppaa
