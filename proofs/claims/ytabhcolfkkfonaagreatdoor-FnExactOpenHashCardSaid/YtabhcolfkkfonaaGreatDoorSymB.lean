import Derived.Test.YtabhcolfkkfonaaGreatDoorBase

/-! PairC -/
/- The laws' helpers for an answer of two runs of bytes. -/
namespace Go.Proofs.YtabhcolfkkfonaaGreatDoor
open Go.RowKit

/-- two runs of bytes share no block -/
def Sunder (n m : Nat) (A B : Option Addr) : Prop := 0 < n → 0 < m → ∀ a b, A = some a → B = some b → a.block ≠ b.block
/-- a struct of three cells -/
def Three (w : World) (b : Nat) (t : TypeId) (x y z : Value) : Prop := w.heap[b]? = some (.cells #[x, y, z] t (0, 0))
theorem Three.cells {w : World} {b : Nat} {t : TypeId} {x y z : Value} (h : Three w b t x y z) :
    w.cell? ⟨b, 0, none⟩ = some x ∧ w.cell? ⟨b, 1, none⟩ = some y ∧ w.cell? ⟨b, 2, none⟩ = some z ∧ w.frozen? ⟨b, 0, none⟩ = false ∧ w.frozen? ⟨b, 1, none⟩ = false ∧ w.frozen? ⟨b, 2, none⟩ = false := by
  unfold Three at h
  refine ⟨?_, ?_, ?_, by simp [World.frozen?, h], by simp [World.frozen?, h], by simp [World.frozen?, h]⟩
  · simpa using cell_of_row w b 0 _ _ (0, 0) h
  · simpa using cell_of_row w b 1 _ _ (0, 0) h
  · simpa using cell_of_row w b 2 _ _ (0, 0) h
theorem Three.new (w : World) (t : TypeId) (x y z : Value) : Three (w.alloc (.cells #[x, y, z] t)) w.heap.size t x y z := heap_alloc_new w _
theorem Three.below {w w' : World} {b B : Nat} {t : TypeId} {x y z : Value} (h : Three w b t x y z) (hb : Below B w w') (hl : b < B) : Three w' b t x y z := (hb.block b hl).trans h
theorem Three.only {w w' : World} {b n : Nat} {A : Option Addr} {t : TypeId} {x y z : Value} (h : Three w b t x y z) (ho : Only n A w w') (hA : 0 < n → ∀ a, A = some a → a.block ≠ b) : Three w' b t x y z := (ho.block b hA).trans h

theorem Ow.only' {w w' : World} {B n m : Nat} {A A' : Option Addr} {l : List Int} (h : Ow w B A n l) (ho : Only m A' w w') (ha : Sunder m n A' A) : Ow w' B A n l :=
  ⟨h.len, h.byte, fun hn => by
    obtain ⟨b, e, hB, hlt, hc, hf⟩ := h.at_ hn
    have hk := ho.block b (fun hm a he => ha hm hn a _ he e)
    exact ⟨b, e, hB, by rw [ho.size]; exact hlt, fun i hi => (World.cell?_of_block (a := ⟨b, i, none⟩) hk).trans (hc i hi), fun i => (World.frozen?_of_block (a := ⟨b, i, none⟩) hk).trans (hf i)⟩⟩
theorem Sunder.symm {n m : Nat} {A B : Option Addr} (h : Sunder n m A B) : Sunder m n B A := fun h1 h2 a b ea eb e => h h2 h1 b a eb ea e.symm

end Go.Proofs.YtabhcolfkkfonaaGreatDoor

/-! RowsC -/
/- Runs of bytes of the call's own, side by side; structs of some cells; what may be touched. -/
namespace Go.Proofs.YtabhcolfkkfonaaGreatDoor
open Go.RowKit

/-- some runs of bytes of the call's own, no two of which share a block -/
def Rs (w : World) (B : Nat) : List (Option Addr × Nat × List Int) → Prop
  | [] => True
  | x :: r => Ow w B x.1 x.2.1 x.2.2 ∧ (∀ y ∈ r, Sunder x.2.1 y.2.1 x.1 y.1) ∧ Rs w B r

theorem Rs.nil (w : World) (B : Nat) : Rs w B [] := trivial
theorem Rs.head {w : World} {B n : Nat} {A : Option Addr} {l : List Int} {r : List (Option Addr × Nat × List Int)} (h : Rs w B ((A, n, l) :: r)) : Ow w B A n l := h.1
theorem Rs.rest {w : World} {B : Nat} {x : Option Addr × Nat × List Int} {r : List (Option Addr × Nat × List Int)} (h : Rs w B (x :: r)) : Rs w B r := h.2.2
theorem Rs.cons {w : World} {B n : Nat} {A : Option Addr} {l : List Int} {r : List (Option Addr × Nat × List Int)} (h : Ow w B A n l) (ha : ∀ y ∈ r, Sunder n y.2.1 A y.1) (hr : Rs w B r) : Rs w B ((A, n, l) :: r) := ⟨h, ha, hr⟩
theorem Rs.mem {w : World} {B : Nat} {L : List (Option Addr × Nat × List Int)} (h : Rs w B L) : ∀ x ∈ L, Ow w B x.1 x.2.1 x.2.2 := by
  induction L with
  | nil => intro x hx; cases hx
  | cons y r ih =>
    intro x hx
    rcases List.mem_cons.1 hx with rfl | hx
    · exact h.1
    · exact ih h.2.2 x hx
/-- the same runs, each carried over -/
theorem Rs.map {w w' : World} {B B' : Nat} {L : List (Option Addr × Nat × List Int)} (h : Rs w B L) (f : ∀ x ∈ L, Ow w B x.1 x.2.1 x.2.2 → Ow w' B' x.1 x.2.1 x.2.2) : Rs w' B' L := by
  induction L with
  | nil => trivial
  | cons y r ih => exact ⟨f y (by simp) h.1, h.2.1, ih h.2.2 (fun x hx => f x (by simp [hx]))⟩
theorem Rs.below {w w' : World} {B C : Nat} {L : List (Option Addr × Nat × List Int)} (h : Rs w B L) (hb : Below C w w') (hC : w.heap.size ≤ C) : Rs w' B L := h.map fun _ _ o => o.below hb hC
theorem Rs.mono {w : World} {B C : Nat} {L : List (Option Addr × Nat × List Int)} (h : Rs w B L) (hC : C ≤ B) : Rs w C L := h.map fun _ _ o => o.mono hC
theorem Rs.alloc {w : World} {B : Nat} {L : List (Option Addr × Nat × List Int)} (h : Rs w B L) (o : Obj) : Rs (w.alloc o) B L := h.map fun _ _ k => k.alloc o
theorem Rs.drewN {w : World} {B : Nat} {L : List (Option Addr × Nat × List Int)} (h : Rs w B L) (q : Nat) : Rs (w.drewN q) B L := h.map fun _ _ k => k.drewN q
theorem Rs.far {w : World} {B : Nat} {L : List (Option Addr × Nat × List Int)} (h : Rs w B L) {p : Addr} (hp : p.block < B) (v : Value) : Rs (w.setCell p v) B L := h.map fun _ _ k => k.far hp v
/-- where the runs end: below H -/
def Tops (H : Nat) (L : List (Option Addr × Nat × List Int)) : Prop := ∀ x ∈ L, 0 < x.2.1 → ∀ a, x.1 = some a → a.block < H
theorem Rs.tops {w : World} {B : Nat} {L : List (Option Addr × Nat × List Int)} (h : Rs w B L) : Tops w.heap.size L := fun x hx => (h.mem x hx).top
theorem Rs.bases {w : World} {B : Nat} {L : List (Option Addr × Nat × List Int)} (h : Rs w B L) : ∀ x ∈ L, 0 < x.2.1 → ∀ a, x.1 = some a → B ≤ a.block := fun x hx => (h.mem x hx).base
theorem Tops.mono {H H' : Nat} {L : List (Option Addr × Nat × List Int)} (h : Tops H L) (hl : H ≤ H') : Tops H' L := fun x hx hn a ha => Nat.lt_of_lt_of_le (h x hx hn a ha) hl
theorem Rs.under {w w' : World} {B C : Nat} {L : List (Option Addr × Nat × List Int)} (h : Rs w B L) (hb : Below C w w') (hT : Tops C L) : Rs w' B L := h.map fun x hx o => o.under hb (hT x hx)

/-- nothing but the blocks of some runs is turned -/
structure Touch (L : List (Option Addr × Nat × List Int)) (w w' : World) : Prop where
  os : w'.os = w.os
  tape : w'.tape = w.tape
  output : w'.output = w.output
  size : w.heap.size ≤ w'.heap.size
  block : ∀ k, k < w.heap.size → (∀ x ∈ L, 0 < x.2.1 → ∀ a, x.1 = some a → a.block ≠ k) → w'.heap[k]? = w.heap[k]?
theorem Touch.refl (L : List (Option Addr × Nat × List Int)) (w : World) : Touch L w w := ⟨rfl, rfl, rfl, Nat.le_refl _, fun _ _ _ => rfl⟩
theorem Touch.trans {L : List (Option Addr × Nat × List Int)} {a b c : World} (h : Touch L a b) (k : Touch L b c) : Touch L a c :=
  ⟨k.os.trans h.os, k.tape.trans h.tape, k.output.trans h.output, Nat.le_trans h.size k.size, fun i hi hx => (k.block i (Nat.lt_of_lt_of_le hi h.size) hx).trans (h.block i hi hx)⟩
theorem Touch.ofBelow {L : List (Option Addr × Nat × List Int)} {w w' : World} (h : Below w.heap.size w w') : Touch L w w' := ⟨h.os, h.tape, h.output, h.size, fun k hk _ => h.block k hk⟩
theorem Touch.ofOnly {L : List (Option Addr × Nat × List Int)} {n : Nat} {A : Option Addr} {l : List Int} {w w' : World} (h : Only n A w w') (hm : (A, n, l) ∈ L) : Touch L w w' :=
  ⟨h.os, h.tape, h.output, by rw [h.size]; exact Nat.le_refl _, fun k _ hx => h.block k (hx _ hm)⟩
theorem Touch.wider {L M : List (Option Addr × Nat × List Int)} {w w' : World} (h : Touch L w w') (hs : ∀ x ∈ L, x ∈ M) : Touch M w w' :=
  ⟨h.os, h.tape, h.output, h.size, fun k hk hx => h.block k hk (fun x hm => hx x (hs x hm))⟩
theorem Touch.below {L : List (Option Addr × Nat × List Int)} {w w' : World} {C : Nat} (h : Touch L w w') (hC : C ≤ w.heap.size) (hb : ∀ x ∈ L, 0 < x.2.1 → ∀ a, x.1 = some a → C ≤ a.block) : Below C w w' :=
  ⟨h.os, h.tape, h.output, h.size, fun k hk => h.block k (by omega) (fun x hx hn a ha e => by have := hb x hx hn a ha; omega)⟩
theorem Ow.touch {w w' : World} {B n : Nat} {A : Option Addr} {l : List Int} {L : List (Option Addr × Nat × List Int)} (h : Ow w B A n l) (t : Touch L w w') (ha : ∀ y ∈ L, Sunder n y.2.1 A y.1) : Ow w' B A n l :=
  ⟨h.len, h.byte, fun hn => by
    obtain ⟨b, e, hB, hlt, hc, hf⟩ := h.at_ hn
    have hk := t.block b hlt (fun x hx h0 a ea eb => ha x hx hn h0 _ a e ea eb.symm)
    exact ⟨b, e, hB, Nat.lt_of_lt_of_le hlt t.size, fun i hi => (World.cell?_of_block (a := ⟨b, i, none⟩) hk).trans (hc i hi), fun i => (World.frozen?_of_block (a := ⟨b, i, none⟩) hk).trans (hf i)⟩⟩
theorem Rs.touch {w w' : World} {B : Nat} {L M : List (Option Addr × Nat × List Int)} (h : Rs w B L) (t : Touch M w w') (hM : Tops B M) : Rs w' B L :=
  h.map fun _ _ o => o.touch t (fun y hy hn hm a b ea eb e => by have h1 := o.base hn a ea; have h2 := hM y hy hm b eb; omega)

/-- a struct whose cells are l -/
def Stc (w : World) (b : Nat) (l : List Value) (t : TypeId) : Prop := w.heap[b]? = some (.cells l.toArray t (0, 0))
theorem Stc.cell {w : World} {b : Nat} {l : List Value} {t : TypeId} (h : Stc w b l t) {i : Nat} {v : Value} (e : l[i]? = some v) : w.cell? ⟨b, i, none⟩ = some v := by
  unfold Stc at h
  have := cell_of_row w b i _ _ (0, 0) h
  rw [this]
  simpa using e
theorem Stc.frozen {w : World} {b : Nat} {l : List Value} {t : TypeId} (h : Stc w b l t) (i : Nat) : w.frozen? ⟨b, i, none⟩ = false := by
  unfold Stc at h
  simp [World.frozen?, h]
theorem Stc.new (w : World) (t : TypeId) (l : List Value) (cs : Array Value) (hc : cs = l.toArray) : Stc (w.alloc (.cells cs t)) w.heap.size l t := by
  subst hc
  exact heap_alloc_new w _
theorem Stc.lt {w : World} {b : Nat} {l : List Value} {t : TypeId} (h : Stc w b l t) : b < w.heap.size := by
  unfold Stc at h
  exact (Array.getElem?_eq_some_iff.1 h).1
theorem Stc.below {w w' : World} {b B : Nat} {l : List Value} {t : TypeId} (h : Stc w b l t) (hb : Below B w w') (hl : b < B) : Stc w' b l t := (hb.block b hl).trans h
theorem Stc.alloc {w : World} {b : Nat} {l : List Value} {t : TypeId} (h : Stc w b l t) (o : Obj) : Stc (w.alloc o) b l t := (Below.heap_alloc w o b h.lt).trans h
theorem Stc.drewN {w : World} {b : Nat} {l : List Value} {t : TypeId} (h : Stc w b l t) (q : Nat) : Stc (w.drewN q) b l t := h
theorem Stc.far {w : World} {b : Nat} {l : List Value} {t : TypeId} (h : Stc w b l t) {p : Addr} (hp : b ≠ p.block) (v : Value) : Stc (w.setCell p v) b l t := (Below.heap_setCell w p v b hp).trans h
theorem Stc.touch {w w' : World} {b : Nat} {l : List Value} {t : TypeId} {M : List (Option Addr × Nat × List Int)} (h : Stc w b l t) (k : Touch M w w') (hM : ∀ x ∈ M, 0 < x.2.1 → ∀ a, x.1 = some a → a.block ≠ b) : Stc w' b l t := (k.block b h.lt hM).trans h
theorem Stc.set_ {w : World} {b i : Nat} {l : List Value} {t : TypeId} (h : Stc w b l t) (v : Value) : Stc (w.setCell ⟨b, i, none⟩ v) b (l.set i v) t := by
  unfold Stc at h ⊢
  simp [World.setCell, Array.getElem?_modify, h]

/-- no cell of a struct is a byte -/
def NoByte (l : List Value) : Prop := ∀ v ∈ l, ∀ x, v ≠ .int .u8 x
theorem NoByte.set {l : List Value} (h : NoByte l) (i : Nat) {v : Value} (hv : ∀ x, v ≠ .int .u8 x) : NoByte (l.set i v) := fun u hu => by
  rcases List.mem_or_eq_of_mem_set hu with h1 | rfl
  · exact h u h1
  · exact hv
/-- nothing but the block b is turned -/
structure Save (b : Nat) (w w' : World) : Prop where
  os : w'.os = w.os
  tape : w'.tape = w.tape
  output : w'.output = w.output
  size : w.heap.size ≤ w'.heap.size
  block : ∀ k, k < w.heap.size → k ≠ b → w'.heap[k]? = w.heap[k]?
theorem Save.refl (b : Nat) (w : World) : Save b w w := ⟨rfl, rfl, rfl, Nat.le_refl _, fun _ _ _ => rfl⟩
theorem Save.trans {x : Nat} {a b c : World} (h : Save x a b) (k : Save x b c) : Save x a c :=
  ⟨k.os.trans h.os, k.tape.trans h.tape, k.output.trans h.output, Nat.le_trans h.size k.size, fun i hi hx => (k.block i (Nat.lt_of_lt_of_le hi h.size) hx).trans (h.block i hi hx)⟩
theorem Save.ofBelow {x : Nat} {w w' : World} (h : Below w.heap.size w w') : Save x w w' := ⟨h.os, h.tape, h.output, h.size, fun k hk _ => h.block k hk⟩
theorem Save.set_ {x : Nat} {w w' : World} (h : Save x w w') (i : Nat) (v : Value) : Save x w (w'.setCell ⟨x, i, none⟩ v) :=
  ⟨h.os, h.tape, h.output, by rw [World.size_setCell]; exact h.size, fun k hk hx => (Below.heap_setCell w' ⟨x, i, none⟩ v k hx).trans (h.block k hk hx)⟩
theorem Save.drewN {x : Nat} {w w' : World} (h : Save x w w') (q : Nat) : Save x w (w'.drewN q) := ⟨h.os, h.tape, h.output, h.size, h.block⟩
theorem Save.below {x B : Nat} {w w' : World} (h : Save x w w') (hb : B ≤ x) (hB : B ≤ w.heap.size) : Below B w w' :=
  ⟨h.os, h.tape, h.output, h.size, fun k hk => h.block k (by omega) (by omega)⟩
theorem Save.then {x : Nat} {a w w' : World} (h : Save x a w) (k : Below w.heap.size w w') : Save x a w' := h.trans (Save.ofBelow k)
/-- bytes do not lie in a struct that has none -/
theorem Bs.save {w w' : World} {A : Option Addr} {n b : Nat} {l : List Int} {L : List Value} {t : TypeId} (h : Bs w A n l) (hs : Stc w b L t) (hL : NoByte L) (hb : Save b w w') : Bs w' A n l :=
  ⟨h.len, h.byte, fun hn => by
    obtain ⟨b', off, e, hlt, hc⟩ := h.at_ hn
    have hne : b' ≠ b := fun e' => by
      subst e'
      have h0 := hc 0 hn
      unfold Stc at hs
      rw [cell_of_row w b' (off + 0) _ _ (0, 0) hs] at h0
      have h1 : L[off + 0]? = some (.int .u8 (l.getD 0 0)) := by simpa using h0
      exact hL _ (List.mem_of_getElem? h1) _ rfl
    have hk := hb.block b' hlt hne
    exact ⟨b', off, e, Nat.lt_of_lt_of_le hlt hb.size, fun i hi => (World.cell?_of_block (a := ⟨b', off + i, none⟩) hk).trans (hc i hi)⟩⟩
theorem Ow.save {w w' : World} {A : Option Addr} {n b B : Nat} {l : List Int} (h : Ow w B A n l) (hb : Save b w w') (hx : b < B) : Ow w' B A n l :=
  ⟨h.len, h.byte, fun hn => by
    obtain ⟨b', e, hB, hlt, hc, hf⟩ := h.at_ hn
    have hk := hb.block b' hlt (by omega)
    exact ⟨b', e, hB, Nat.lt_of_lt_of_le hlt hb.size, fun i hi => (World.cell?_of_block (a := ⟨b', i, none⟩) hk).trans (hc i hi), fun i => (World.frozen?_of_block (a := ⟨b', i, none⟩) hk).trans (hf i)⟩⟩
/-- of a struct of no bytes: whose runs, wherever they lie -/
theorem Ow.save' {w w' : World} {A : Option Addr} {n b B : Nat} {l : List Int} {L : List Value} {t : TypeId} (h : Ow w B A n l) (hs : Stc w b L t) (hL : NoByte L) (hb : Save b w w') : Ow w' B A n l :=
  ⟨h.len, h.byte, fun hn => by
    obtain ⟨b', e, hB, hlt, hc, hf⟩ := h.at_ hn
    have hne : b' ≠ b := fun e' => by
      subst e'
      have h0 := hc 0 hn
      unfold Stc at hs
      rw [cell_of_row w b' 0 _ _ (0, 0) hs] at h0
      have h1 : L[0]? = some (.int .u8 (l.getD 0 0)) := by simpa using h0
      exact hL _ (List.mem_of_getElem? h1) _ rfl
    have hk := hb.block b' hlt hne
    exact ⟨b', e, hB, Nat.lt_of_lt_of_le hlt hb.size, fun i hi => (World.cell?_of_block (a := ⟨b', i, none⟩) hk).trans (hc i hi), fun i => (World.frozen?_of_block (a := ⟨b', i, none⟩) hk).trans (hf i)⟩⟩
theorem Stc.save {w w' : World} {b x : Nat} {l : List Value} {t : TypeId} (h : Stc w b l t) (k : Save x w w') (hx : b ≠ x) : Stc w' b l t := (k.block b h.lt hx).trans h
end Go.Proofs.YtabhcolfkkfonaaGreatDoor

/-! SymC -/
/- The laws' helpers for a state of a handshake. -/
namespace Go.Proofs.YtabhcolfkkfonaaGreatDoor
open Go.RowKit

theorem szByteS_any (A : Option Addr) (n c : Nat) (x : Int) (w : World) (h0 : 0 ≤ x) (h1 : x ≤ 1048576) (hn : n ≤ 9223372036854775807) :
    Calls Tryz.prog 127 #[.slice A n c, .int .i64 x] w fun e w' => e = .returned (.int .i64 (if x - (n : Int) < 0 then -1 else x - (n : Int))) ∧ w' = w := by
  by_cases hx : x - (n : Int) < 0
  · rw [if_pos hx]
    go_enter Tryz.func127, Tryz.ntmps127
    go_wp2
    go_ret
    exact ⟨rfl, rfl⟩
  · rw [if_neg hx]
    go_enter Tryz.func127, Tryz.ntmps127
    go_wp2
    go_ret
    exact ⟨rfl, rfl⟩

theorem toSym_any (a0 a1 a2 : Option Addr) (n0 c0 n1 c1 n2 c2 : Nat) (l0 l1 l2 : List Int) (k : Int) (w : World) (h0 : Bs w a0 n0 l0) (h1 : Bs w a1 n1 l1) (h2 : Bs w a2 n2 l2) (hn0 : n0 ≤ 140737488351232) (hn1 : n1 ≤ 140737488351232) (hn2 : n2 ≤ 140737488351232) :
    Calls Tryz.prog 48 #[.agg #[.slice a0 n0 c0, .slice a1 n1 c1, .slice a2 n2 c2, .int .i64 k]] w fun e w' => (∃ g0 g1 g2, e = .returned (.agg #[.slice (some ⟨g0, 0, none⟩) n0 n0, .slice (some ⟨g1, 0, none⟩) n1 n1, .slice (some ⟨g2, 0, none⟩) n2 n2, .int .i64 k]) ∧
      Rs w' w.heap.size [(some ⟨g0, 0, none⟩, n0, l0), (some ⟨g1, 0, none⟩, n1, l1), (some ⟨g2, 0, none⟩, n2, l2)]) ∧ Below w.heap.size w w' := by
  have S0 := (((Stc.new w 64 [.slice a0 n0 c0, .slice a1 n1 c1, .slice a2 n2 c2, .int .i64 k] _ rfl).alloc (.cells #[.slice none 0 0, .slice none 0 0, .slice none 0 0, .int .i64 0] 25)).alloc (.cells #[.slice none 0 0, .slice none 0 0, .slice none 0 0, .int .i64 0] 25))
  have S1 := ((Stc.new (w.alloc (.cells #[.slice a0 n0 c0, .slice a1 n1 c1, .slice a2 n2 c2, .int .i64 k] 64)) 25 [.slice none 0 0, .slice none 0 0, .slice none 0 0, .int .i64 0] _ rfl).alloc (.cells #[.slice none 0 0, .slice none 0 0, .slice none 0 0, .int .i64 0] 25))
  have S2 := (Stc.new ((w.alloc (.cells #[.slice a0 n0 c0, .slice a1 n1 c1, .slice a2 n2 c2, .int .i64 k] 64)).alloc (.cells #[.slice none 0 0, .slice none 0 0, .slice none 0 0, .int .i64 0] 25)) 25 [.slice none 0 0, .slice none 0 0, .slice none 0 0, .int .i64 0] _ rfl)
  have B0 := ab (ab (ab (Below.refl _ w) (.cells #[.slice a0 n0 c0, .slice a1 n1 c1, .slice a2 n2 c2, .int .i64 k] 64)) (.cells #[.slice none 0 0, .slice none 0 0, .slice none 0 0, .int .i64 0] 25)) (.cells #[.slice none 0 0, .slice none 0 0, .slice none 0 0, .int .i64 0] 25)
  simp only [World.size_alloc] at S1 S2
  go_enter Tryz.func48, Tryz.ntmps48
  go_wp2_with fail
  refine (toByteS_any _ _ _ _ _ (h0.below B0) hn0).mono ?_
  rintro e w1 ⟨rfl, k1, b1⟩
  have z1 := b1.size
  simp only [World.size_alloc] at k1 z1 ⊢
  have u1 := k1.lt
  have B1 := ac B0 b1
  replace S0 := S0.below b1 (by simp; omega)
  replace S1 := S1.below b1 (by simp)
  replace S2 := S2.below b1 (by simp)
  clear b1 B0
  have x1 := S0.cell (i := 1) rfl
  have x2 := S2.cell (i := 0) rfl
  have x3 := S2.frozen 0
  go_wp2_with fail
  replace B1 := B1.setCell (p := ⟨w.heap.size + 1 + 1, 0, none⟩) (by simp; omega) (.slice (some ⟨w.heap.size + 1 + 1 + 1, 0, none⟩) n0 n0)
  refine (toByteS_any _ _ _ _ _ (h1.below B1) hn1).mono ?_
  rintro e w2 ⟨rfl, k2, b2⟩
  have z2 := b2.size
  simp only [World.size_setCell] at k2 z2 ⊢
  have u2 := k2.lt
  have B2 := ac B1 b2
  replace k1 := (k1.far (p := ⟨w.heap.size + 1 + 1, 0, none⟩) (by simp; try omega) (.slice (some ⟨w.heap.size + 1 + 1 + 1, 0, none⟩) n0 n0)).below b2 (by simp; omega)
  replace S0 := (S0.far (p := ⟨w.heap.size + 1 + 1, 0, none⟩) (by simp; try omega) (.slice (some ⟨w.heap.size + 1 + 1 + 1, 0, none⟩) n0 n0)).below b2 (by simp; omega)
  replace S1 := (S1.far (p := ⟨w.heap.size + 1 + 1, 0, none⟩) (by simp; try omega) (.slice (some ⟨w.heap.size + 1 + 1 + 1, 0, none⟩) n0 n0)).below b2 (by simp; omega)
  replace S2 := (S2.set_ (i := 0) (.slice (some ⟨w.heap.size + 1 + 1 + 1, 0, none⟩) n0 n0)).below b2 (by simp; omega)
  simp only [List.set_cons_zero] at S2
  clear b2 B1 x1 x2 x3
  have x1 := S0.cell (i := 2) rfl
  have x2 := S2.cell (i := 1) rfl
  have x3 := S2.frozen 1
  go_wp2_with fail
  replace B2 := B2.setCell (p := ⟨w.heap.size + 1 + 1, 1, none⟩) (by simp; omega) (.slice (some ⟨w1.heap.size, 0, none⟩) n1 n1)
  refine (toByteS_any _ _ _ _ _ (h2.below B2) hn2).mono ?_
  rintro e w3 ⟨rfl, k3, b3⟩
  have z3 := b3.size
  simp only [World.size_setCell] at k3 z3 ⊢
  have u3 := k3.lt
  have B3 := ac B2 b3
  replace k1 := (k1.far (p := ⟨w.heap.size + 1 + 1, 1, none⟩) (by simp; try omega) (.slice (some ⟨w1.heap.size, 0, none⟩) n1 n1)).below b3 (by simp; omega)
  replace k2 := (k2.far (p := ⟨w.heap.size + 1 + 1, 1, none⟩) (by simp; try omega) (.slice (some ⟨w1.heap.size, 0, none⟩) n1 n1)).below b3 (by simp; omega)
  replace S0 := (S0.far (p := ⟨w.heap.size + 1 + 1, 1, none⟩) (by simp; try omega) (.slice (some ⟨w1.heap.size, 0, none⟩) n1 n1)).below b3 (by simp; omega)
  replace S1 := (S1.far (p := ⟨w.heap.size + 1 + 1, 1, none⟩) (by simp; try omega) (.slice (some ⟨w1.heap.size, 0, none⟩) n1 n1)).below b3 (by simp; omega)
  replace S2 := (S2.set_ (i := 1) (.slice (some ⟨w1.heap.size, 0, none⟩) n1 n1)).below b3 (by simp; omega)
  simp only [List.set_cons_zero, List.set_cons_succ] at S2
  clear b3 B2 x1 x2 x3
  have x1 := S0.cell (i := 3) rfl
  have x4 := S1.cell (i := 0) rfl
  have x5 := S1.cell (i := 1) rfl
  have x6 := S1.cell (i := 2) rfl
  have x7 := S1.cell (i := 3) rfl
  have x9 := S2.cell (i := 0) rfl
  have y1 := S2.cell (i := 1) rfl
  have x2 := S2.cell (i := 2) rfl
  have y2 := S2.cell (i := 3) rfl
  have y3 := S2.frozen
  have y4 := S1.frozen
  go_wp2
  refine bodyPost_ret (v := .agg #[.slice (some ⟨w.heap.size + 1 + 1 + 1, 0, none⟩) n0 n0, .slice (some ⟨w1.heap.size, 0, none⟩) n1 n1, .slice (some ⟨w2.heap.size, 0, none⟩) n2 n2, .int .i64 k]) (by simp [results, Tryz.results48, go_sem, x4, x5, x6, x7]) rfl ?_
  have q1 : Ow w3 (w.heap.size + 1 + 1 + 1) (some ⟨w.heap.size + 1 + 1 + 1, 0, none⟩) n0 l0 := k1.own h0.byte h0.len
  have q2 : Ow w3 (w.heap.size + 1 + 1 + 1) (some ⟨w1.heap.size, 0, none⟩) n1 l1 := (k2.own h1.byte h1.len).mono (by omega)
  have q3 : Ow w3 (w.heap.size + 1 + 1 + 1) (some ⟨w2.heap.size, 0, none⟩) n2 l2 := (k3.own h2.byte h2.len).mono (by omega)
  have R : Rs w3 (w.heap.size + 1 + 1 + 1) [(some ⟨w.heap.size + 1 + 1 + 1, 0, none⟩, n0, l0), (some ⟨w1.heap.size, 0, none⟩, n1, l1), (some ⟨w2.heap.size, 0, none⟩, n2, l2)] := by
    refine Rs.cons q1 ?_ (Rs.cons q2 ?_ (Rs.cons q3 ?_ (Rs.nil _ _)))
    · intro y hy
      simp only [List.mem_cons, List.not_mem_nil, or_false] at hy
      rcases hy with rfl | rfl
      · intro _ _ a b ea eb; injection ea with ea; injection eb with eb; subst ea; subst eb; simp; omega
      · intro _ _ a b ea eb; injection ea with ea; injection eb with eb; subst ea; subst eb; simp; omega
    · intro y hy
      simp only [List.mem_cons, List.not_mem_nil, or_false] at hy
      subst hy
      intro _ _ a b ea eb; injection ea with ea; injection eb with eb; subst ea; subst eb; simp; omega
    · intro y hy; cases hy
  refine ⟨⟨_, _, _, rfl, ((((((R.far ?_ _).far ?_ _).far ?_ _).far ?_ _).far ?_ _).far ?_ _).mono (by omega)⟩, ?_⟩
  · simp
  · simp
  · simp
  · simp
  · simp
  · simp
  · exact (((((B3.setCell (by simp; omega) _).setCell (by simp; omega) _).setCell (by simp) _).setCell (by simp) _).setCell (by simp) _).setCell (by simp) _

/-- what is left of a bound behind three runs -/
def leftS (n0 n1 n2 : Nat) : Int := if 1048576 - (n0 : Int) < 0 then -1 else if 1048576 - (n0 : Int) - n1 < 0 then -1 else if 1048576 - (n0 : Int) - n1 - n2 < 0 then -1 else 1048576 - (n0 : Int) - n1 - n2

/-- what is left when three runs fit -/
theorem leftS_fit {n m q : Nat} (h : n + m + q ≤ 1048576) : leftS n m q = 1048576 - (n : Int) - m - q := by unfold leftS; rw [if_neg (by omega), if_neg (by omega), if_neg (by omega)]
theorem leftS_not {n m q : Nat} (h : ¬ n + m + q ≤ 1048576) : leftS n m q = -1 := by unfold leftS; repeat' split <;> first | rfl | omega

theorem szSym_any (a0 a1 a2 : Option Addr) (n0 c0 n1 c1 n2 c2 : Nat) (k : Int) (w : World) (hn0 : n0 ≤ 9223372036854775807) (hn1 : n1 ≤ 9223372036854775807) (hn2 : n2 ≤ 9223372036854775807) :
    Calls Tryz.prog 47 #[.agg #[.slice a0 n0 c0, .slice a1 n1 c1, .slice a2 n2 c2, .int .i64 k], .int .i64 1048576] w fun e w' => e = .returned (.int .i64 (leftS n0 n1 n2)) ∧ Below w.heap.size w w' := by
  unfold leftS
  have e1 := fun w => szByteS_any a0 n0 c0 1048576 w (by omega) (by omega) hn0
  by_cases h1 : 1048576 - (n0 : Int) < 0
  · simp only [if_pos h1] at e1 ⊢
    clear h1
    go_enter Tryz.func47, Tryz.ntmps47
    go_wp2_with fail
    refine (e1 _).mono ?_
    rintro e w' ⟨rfl, rfl⟩
    go_wp2
    go_ret
    exact ⟨rfl, ab (Below.refl _ _) _⟩
  · simp only [if_neg h1] at e1 ⊢
    obtain ⟨x, hx⟩ : ∃ x, x = 1048576 - (n0 : Int) := ⟨_, rfl⟩
    rw [← hx] at e1 h1 ⊢
    have e2 := fun w => szByteS_any a1 n1 c1 x w (by omega) (by omega) hn1
    by_cases h2 : x - (n1 : Int) < 0
    · simp only [if_pos h2] at e2 ⊢
      clear h2 hx
      go_enter Tryz.func47, Tryz.ntmps47
      go_wp2_with fail
      refine (e1 _).mono ?_
      rintro e w' ⟨rfl, rfl⟩
      go_wp2_with fail
      refine (e2 _).mono ?_
      rintro e w' ⟨rfl, rfl⟩
      go_wp2
      go_ret
      exact ⟨rfl, ab (Below.refl _ _) _⟩
    · simp only [if_neg h2] at e2 ⊢
      obtain ⟨y, hy⟩ : ∃ y, y = x - (n1 : Int) := ⟨_, rfl⟩
      rw [← hy] at e2 h2 ⊢
      have e3 := fun w => szByteS_any a2 n2 c2 y w (by omega) (by omega) hn2
      by_cases h3 : y - (n2 : Int) < 0
      · simp only [if_pos h3] at e3 ⊢
        clear h3 hx hy
        go_enter Tryz.func47, Tryz.ntmps47
        go_wp2_with fail
        refine (e1 _).mono ?_
        rintro e w' ⟨rfl, rfl⟩
        go_wp2_with fail
        refine (e2 _).mono ?_
        rintro e w' ⟨rfl, rfl⟩
        go_wp2_with fail
        refine (e3 _).mono ?_
        rintro e w' ⟨rfl, rfl⟩
        go_wp2
        go_ret
        exact ⟨rfl, ab (Below.refl _ _) _⟩
      · simp only [if_neg h3] at e3 ⊢
        obtain ⟨z, hz⟩ : ∃ z, z = y - (n2 : Int) := ⟨_, rfl⟩
        rw [← hz] at e3 h3 ⊢
        clear hx hy hz
        go_enter Tryz.func47, Tryz.ntmps47
        go_wp2_with fail
        refine (e1 _).mono ?_
        rintro e w' ⟨rfl, rfl⟩
        go_wp2_with fail
        refine (e2 _).mono ?_
        rintro e w' ⟨rfl, rfl⟩
        go_wp2_with fail
        refine (e3 _).mono ?_
        rintro e w' ⟨rfl, rfl⟩
        go_wp2
        go_ret
        exact ⟨rfl, ab (Below.refl _ _) _⟩

/-- two states that hold the same -/
theorem eqSym_any (A B C A' B' C' : Option Addr) (n m q c d f c' d' f' : Nat) (l r s : List Int) (k : Int) (w : World) (h1 : Bs w A n l) (h2 : Bs w B m r) (h3 : Bs w C q s) (h1' : Bs w A' n l) (h2' : Bs w B' m r) (h3' : Bs w C' q s) (hn : n ≤ 140737488351232) (hm : m ≤ 140737488351232) (hq : q ≤ 140737488351232) :
    Calls Tryz.prog 51 #[.agg #[.slice A n c, .slice B m d, .slice C q f, .int .i64 k], .agg #[.slice A' n c', .slice B' m d', .slice C' q f', .int .i64 k]] w fun e w' => e = .returned (.bool true) ∧ Below w.heap.size w w' := by
  have e1 := fun W a b => eqByteS_any A A' n c n c' l l W a b hn hn
  have e2 := fun W a b => eqByteS_any B B' m d m d' r r W a b hm hm
  have e3 := fun W a b => eqByteS_any C C' q f q f' s s W a b hq hq
  simp only [decide_true] at e1 e2 e3
  go_enter Tryz.func51, Tryz.ntmps51
  go_wp2_with fail
  refine (e1 _ ((h1.alloc _).alloc _) ((h1'.alloc _).alloc _)).mono ?_
  rintro e w' ⟨rfl, q1, rfl⟩
  go_wp2_with fail
  refine (e2 _ (((h2.alloc _).alloc _).drewN q1) (((h2'.alloc _).alloc _).drewN q1)).mono ?_
  rintro e w' ⟨rfl, q2, rfl⟩
  go_wp2_with fail
  refine (e3 _ (((h3.alloc _).alloc _).drewN _) (((h3'.alloc _).alloc _).drewN _)).mono ?_
  rintro e w' ⟨rfl, q3, rfl⟩
  go_wp2
  go_returns
  exact ⟨rfl, ad (ab (ab (Below.refl _ _) _) _) _⟩

theorem markSym_any (A B C : Option Addr) (n m q c d f X : Nat) (l r s : List Int) (z k : Int) (w : World) (h : Rs w X [(A, n, l), (B, m, r), (C, q, s)]) (hk0 : 0 ≤ k) (hk : k ≤ 14073748835123) (hn : n ≤ 14073748835123) (hm : m ≤ 14073748835123) (hq : q ≤ 14073748835123) :
    Calls Tryz.prog 53 #[.agg #[.slice A n c, .slice B m d, .slice C q f, .int .i64 z], .int .i64 k] w fun e w' => e = .returned (.int .i64 (k + (n : Int) + (m : Int) + (q : Int))) ∧
      Rs w' X [(A, n, marks k n), (B, m, marks (k + (n : Int)) m), (C, q, marks (k + (n : Int) + (m : Int)) q)] ∧ Touch [(A, n, l), (B, m, r), (C, q, s)] w w' := by
  have hA := h.tops
  have t0 : Touch [(A, n, l), (B, m, r), (C, q, s)] w (w.alloc (.cells #[.slice A n c, .slice B m d, .slice C q f, .int .i64 z] 25)) := Touch.ofBelow (ab (Below.refl _ w) _)
  have S0 := Stc.new w 25 [.slice A n c, .slice B m d, .slice C q f, .int .i64 z] _ rfl
  obtain ⟨o1, s1, o2, s2, o3, _⟩ := h
  have s12 := s1 (B, m, r) (by simp)
  have s13 := s1 (C, q, s) (by simp)
  have s23 := s2 (C, q, s) (by simp)
  clear s1 s2
  have hA : ∀ x ∈ [(A, n, l), (B, m, r), (C, q, s)], 0 < x.2.1 → ∀ a, x.1 = some a → a.block ≠ w.heap.size := fun x hx h0 a ha => Nat.ne_of_lt (hA x hx h0 a ha)
  go_enter Tryz.func53, Tryz.ntmps53
  go_wp2_with fail
  refine (markByteS_any _ _ _ _ _ _ _ (o1.alloc _) hk0 (by omega) (by omega)).mono ?_
  rintro e w1 ⟨rfl, m1, on1⟩
  have t1 := t0.trans (Touch.ofOnly (L := [(A, n, l), (B, m, r), (C, q, s)]) (l := l) on1 (by simp))
  replace S0 := S0.touch (Touch.ofOnly (L := [(A, n, l), (B, m, r), (C, q, s)]) (l := l) on1 (by simp)) hA
  replace o2 := (o2.alloc _).only' on1 s12
  replace o3 := (o3.alloc _).only' on1 s13
  have x1 := S0.cell (i := 1) rfl
  go_wp2_with fail
  refine (markByteS_any _ _ _ _ _ _ _ o2 (by omega) (by omega) (by omega)).mono ?_
  rintro e w2 ⟨rfl, m2, on2⟩
  have t2 := t1.trans (Touch.ofOnly (L := [(A, n, l), (B, m, r), (C, q, s)]) (l := r) on2 (by simp))
  replace S0 := S0.touch (Touch.ofOnly (L := [(A, n, l), (B, m, r), (C, q, s)]) (l := r) on2 (by simp)) hA
  replace m1 := m1.only' on2 s12.symm
  replace o3 := o3.only' on2 s23
  clear x1
  have x2 := S0.cell (i := 2) rfl
  go_wp2_with fail
  refine (markByteS_any _ _ _ _ _ _ _ o3 (by omega) (by omega) (by omega)).mono ?_
  rintro e w3 ⟨rfl, m3, on3⟩
  have t3 := t2.trans (Touch.ofOnly (L := [(A, n, l), (B, m, r), (C, q, s)]) (l := s) on3 (by simp))
  replace m1 := m1.only' on3 s13.symm
  replace m2 := m2.only' on3 s23.symm
  go_wp2
  go_returns
  refine ⟨rfl, Rs.cons m1 ?_ (Rs.cons m2 ?_ (Rs.cons m3 ?_ (Rs.nil _ _))), t3⟩
  · intro y hy
    simp only [List.mem_cons, List.not_mem_nil, or_false] at hy
    rcases hy with rfl | rfl
    · exact s12
    · exact s13
  · intro y hy
    simp only [List.mem_cons, List.not_mem_nil, or_false] at hy
    subst hy
    exact s23
  · intro y hy; cases hy

theorem heldSym_any (A B C : Option Addr) (n m q c d f : Nat) (z k : Int) (w : World) (h1 : Bs w A n (marks k n)) (h2 : Bs w B m (marks (k + (n : Int)) m)) (h3 : Bs w C q (marks (k + (n : Int) + (m : Int)) q)) (hk0 : 0 ≤ k) (hk : k ≤ 14073748835123) (hn : n ≤ 14073748835123) (hm : m ≤ 14073748835123) (hq : q ≤ 14073748835123) :
    Calls Tryz.prog 128 #[.agg #[.slice A n c, .slice B m d, .slice C q f, .int .i64 z], .int .i64 k] w fun e w' => e = .returned (.int .i64 (k + (n : Int) + (m : Int) + (q : Int))) ∧ Below w.heap.size w w' := by
  go_enter Tryz.func128, Tryz.ntmps128
  go_wp2_with fail
  refine (heldByteS_any _ _ _ _ _ (h1.alloc _) hk0 (by omega) (by omega)).mono ?_
  rintro e w' ⟨rfl, rfl⟩
  go_wp2_with fail
  refine (heldByteS_any _ _ _ _ _ (h2.alloc _) (by omega) (by omega) (by omega)).mono ?_
  rintro e w' ⟨rfl, rfl⟩
  go_wp2_with fail
  refine (heldByteS_any _ _ _ _ _ (h3.alloc _) (by omega) (by omega) (by omega)).mono ?_
  rintro e w' ⟨rfl, rfl⟩
  go_wp2
  go_returns
  exact ⟨rfl, ab (Below.refl _ _) _⟩
end Go.Proofs.YtabhcolfkkfonaaGreatDoor

/-! SymA -/
/- The answers that bear a state. -/
namespace Go.Proofs.YtabhcolfkkfonaaGreatDoor
open Go.RowKit

theorem eqSymResult_any (x : Int) (A B C D A' B' C' D' : Option Addr) (n m q p c d f g c' d' f' g' : Nat) (l r s t : List Int) (k : Int) (w : World) (h1 : Bs w A n l) (h2 : Bs w B m r) (h3 : Bs w C q s) (h4 : Bs w D p t) (h1' : Bs w A' n l) (h2' : Bs w B' m r) (h3' : Bs w C' q s) (h4' : Bs w D' p t) (hn : n ≤ 140737488351232) (hm : m ≤ 140737488351232) (hq : q ≤ 140737488351232) (hp : p ≤ 140737488351232) :
    Calls Tryz.prog 50 #[.agg #[.int .i64 x, .slice A n c, .slice B m d, .slice C q f, .int .i64 k, .slice D p g], .agg #[.int .i64 x, .slice A' n c', .slice B' m d', .slice C' q f', .int .i64 k, .slice D' p g']] w fun e w' => e = .returned (.bool true) ∧ Below w.heap.size w w' := by
  have e4 := fun W a b => eqByteS_any D D' p g p g' t t W a b hp hp
  simp only [decide_true] at e4
  go_enter Tryz.func50, Tryz.ntmps50
  go_wp2_with fail
  refine (eqSym_any _ _ _ _ _ _ _ _ _ _ _ _ _ _ _ _ _ _ _ _ ((h1.alloc _).alloc _) ((h2.alloc _).alloc _) ((h3.alloc _).alloc _) ((h1'.alloc _).alloc _) ((h2'.alloc _).alloc _) ((h3'.alloc _).alloc _) hn hm hq).mono ?_
  rintro e w1 ⟨rfl, b1⟩
  have S0 := ((Stc.new w 29 [.int .i64 x, .slice A n c, .slice B m d, .slice C q f, .int .i64 k, .slice D p g] _ rfl).alloc (.cells #[.int .i64 x, .slice A' n c', .slice B' m d', .slice C' q f', .int .i64 k, .slice D' p g'] 29)).below b1 (by simp; omega)
  have S1 := ((Stc.new (w.alloc (.cells #[.int .i64 x, .slice A n c, .slice B m d, .slice C q f, .int .i64 k, .slice D p g] 29)) 29 [.int .i64 x, .slice A' n c', .slice B' m d', .slice C' q f', .int .i64 k, .slice D' p g'] _ rfl)).below b1 (by simp)
  simp only [World.size_alloc] at S1
  have x0 := S0.cell (i := 5) rfl
  have x1 := S1.cell (i := 5) rfl
  go_wp2_with fail
  refine (e4 _ (((h4.alloc _).alloc _).below b1) (((h4'.alloc _).alloc _).below b1)).mono ?_
  rintro e w' ⟨rfl, q3, rfl⟩
  go_wp2
  go_returns
  exact ⟨rfl, ad (ac (ab (ab (Below.refl _ _) _) _) b1) _⟩

theorem markSymResult_any (x : Int) (A B C D : Option Addr) (n m q p c d f g X : Nat) (l r s t : List Int) (z k : Int) (w : World) (h : Rs w X [(A, n, l), (B, m, r), (C, q, s), (D, p, t)]) (hk0 : 0 ≤ k) (hk : k ≤ 1407374883512) (hn : n ≤ 1407374883512) (hm : m ≤ 1407374883512) (hq : q ≤ 1407374883512) (hp : p ≤ 1407374883512) :
    Calls Tryz.prog 55 #[.agg #[.int .i64 x, .slice A n c, .slice B m d, .slice C q f, .int .i64 z, .slice D p g], .int .i64 k] w fun e w' => e = .returned (.int .i64 (k + (n : Int) + (m : Int) + (q : Int) + (p : Int))) ∧
      Rs w' X [(A, n, marks k n), (B, m, marks (k + (n : Int)) m), (C, q, marks (k + (n : Int) + (m : Int)) q), (D, p, marks (k + (n : Int) + (m : Int) + (q : Int)) p)] ∧ Touch [(A, n, l), (B, m, r), (C, q, s), (D, p, t)] w w' := by
  have hA := h.tops
  have t0 : Touch [(A, n, l), (B, m, r), (C, q, s), (D, p, t)] w (w.alloc (.cells #[.int .i64 x, .slice A n c, .slice B m d, .slice C q f, .int .i64 z, .slice D p g] 29)) := Touch.ofBelow (ab (Below.refl _ w) _)
  have S0 := Stc.new w 29 [.int .i64 x, .slice A n c, .slice B m d, .slice C q f, .int .i64 z, .slice D p g] _ rfl
  have h3 : Rs w X [(A, n, l), (B, m, r), (C, q, s)] := by
    obtain ⟨o1, s1, o2, s2, o3, s3, o4, _⟩ := h
    refine Rs.cons o1 ?_ (Rs.cons o2 ?_ (Rs.cons o3 ?_ (Rs.nil _ _)))
    · intro y hy; exact s1 y (by simp only [List.mem_cons, List.not_mem_nil, or_false] at hy ⊢; rcases hy with rfl | rfl <;> simp)
    · intro y hy; exact s2 y (by simp only [List.mem_cons, List.not_mem_nil, or_false] at hy ⊢; subst hy; simp)
    · intro y hy; cases hy
  obtain ⟨_, s1, _, s2, _, s3, o4, _⟩ := h
  have s14 := s1 (D, p, t) (by simp)
  have s24 := s2 (D, p, t) (by simp)
  have s34 := s3 (D, p, t) (by simp)
  have hA : ∀ y ∈ [(A, n, l), (B, m, r), (C, q, s), (D, p, t)], 0 < y.2.1 → ∀ a, y.1 = some a → a.block ≠ w.heap.size := fun y hy h0 a ha => Nat.ne_of_lt (hA y hy h0 a ha)
  have hsub : ∀ y ∈ [(A, n, l), (B, m, r), (C, q, s)], y ∈ [(A, n, l), (B, m, r), (C, q, s), (D, p, t)] := fun y hy => by
    simp only [List.mem_cons, List.not_mem_nil, or_false] at hy ⊢
    rcases hy with h | h | h <;> simp [h]
  have sA : ∀ y ∈ [(A, n, l), (B, m, r), (C, q, s)], Sunder p y.2.1 D y.1 := fun y hy => by
    simp only [List.mem_cons, List.not_mem_nil, or_false] at hy
    rcases hy with rfl | rfl | rfl
    · exact s14.symm
    · exact s24.symm
    · exact s34.symm
  go_enter Tryz.func55, Tryz.ntmps55
  go_wp2_with fail
  refine (markSym_any _ _ _ _ _ _ _ _ _ _ _ _ _ _ _ _ (h3.alloc _) hk0 (by omega) (by omega) (by omega) (by omega)).mono ?_
  rintro e w1 ⟨rfl, m1, t1⟩
  have t2 := t0.trans (t1.wider hsub)
  replace S0 := S0.touch (t1.wider hsub) hA
  replace o4 := (o4.alloc _).touch t1 sA
  have x1 := S0.cell (i := 5) rfl
  go_wp2_with fail
  refine (markByteS_any _ _ _ _ _ _ _ o4 (by omega) (by omega) (by omega)).mono ?_
  rintro e w2 ⟨rfl, m4, on2⟩
  have t3 := t2.trans (Touch.ofOnly (L := [(A, n, l), (B, m, r), (C, q, s), (D, p, t)]) (l := t) on2 (by simp))
  obtain ⟨m1, u1, m2, u2, m3, u3, _⟩ := m1
  replace m1 := m1.only' on2 s14.symm
  replace m2 := m2.only' on2 s24.symm
  replace m3 := m3.only' on2 s34.symm
  go_wp2
  go_returns
  refine ⟨rfl, Rs.cons m1 ?_ (Rs.cons m2 ?_ (Rs.cons m3 ?_ (Rs.cons m4 ?_ (Rs.nil _ _)))), t3⟩
  · intro y hy
    simp only [List.mem_cons, List.not_mem_nil, or_false] at hy
    rcases hy with rfl | rfl | rfl
    · exact u1 _ (by simp)
    · exact u1 _ (by simp)
    · exact s14
  · intro y hy
    simp only [List.mem_cons, List.not_mem_nil, or_false] at hy
    rcases hy with rfl | rfl
    · exact u2 _ (by simp)
    · exact s24
  · intro y hy
    simp only [List.mem_cons, List.not_mem_nil, or_false] at hy
    subst hy
    exact s34
  · intro y hy; cases hy

theorem heldSymResult_any (x : Int) (A B C D : Option Addr) (n m q p c d f g : Nat) (z k : Int) (w : World) (h1 : Bs w A n (marks k n)) (h2 : Bs w B m (marks (k + (n : Int)) m)) (h3 : Bs w C q (marks (k + (n : Int) + (m : Int)) q)) (h4 : Bs w D p (marks (k + (n : Int) + (m : Int) + (q : Int)) p)) (hk0 : 0 ≤ k) (hk : k ≤ 1407374883512) (hn : n ≤ 1407374883512) (hm : m ≤ 1407374883512) (hq : q ≤ 1407374883512) (hp : p ≤ 1407374883512) :
    Calls Tryz.prog 56 #[.agg #[.int .i64 x, .slice A n c, .slice B m d, .slice C q f, .int .i64 z, .slice D p g], .int .i64 k] w fun e w' => e = .returned (.int .i64 (k + (n : Int) + (m : Int) + (q : Int) + (p : Int))) ∧ Below w.heap.size w w' := by
  go_enter Tryz.func56, Tryz.ntmps56
  go_wp2_with fail
  refine (heldSym_any _ _ _ _ _ _ _ _ _ _ _ _ (h1.alloc _) (h2.alloc _) (h3.alloc _) hk0 (by omega) (by omega) (by omega) (by omega)).mono ?_
  rintro e w1 ⟨rfl, b1⟩
  have S0 := (Stc.new w 29 [.int .i64 x, .slice A n c, .slice B m d, .slice C q f, .int .i64 z, .slice D p g] _ rfl).below b1 (by simp)
  have x0 := S0.cell (i := 5) rfl
  go_wp2_with fail
  refine (heldByteS_any _ _ _ _ _ ((h4.alloc _).below b1) (by omega) (by omega) (by omega)).mono ?_
  rintro e w' ⟨rfl, rfl⟩
  go_wp2
  go_returns
  exact ⟨rfl, ac (ab (Below.refl _ _) _) b1⟩

/-- a slice has room for what it holds -/
def Roomy (A : Option Addr) (n c : Nat) : Prop := n ≤ c ∧ (A = none → c = 0)

/-- an answer with a code, a state and bytes, in memory of its own -/
def SymAns (x : Int) (n m q p : Nat) (l r s t : List Int) (k : Int) (w : World) (e : Ending) (w' : World) : Prop :=
  (∃ A c B d C f D g, e = .returned (.agg #[.int .i64 x, .slice A n c, .slice B m d, .slice C q f, .int .i64 k, .slice D p g]) ∧
    Rs w' w.heap.size [(A, n, l), (B, m, r), (C, q, s), (D, p, t)] ∧ Roomy D p g) ∧ Below w.heap.size w w'
end Go.Proofs.YtabhcolfkkfonaaGreatDoor

/-! CellC -/
/- The laws' helpers for a cell, and for an answer that bears one. -/
namespace Go.Proofs.YtabhcolfkkfonaaGreatDoor
open Go.RowKit

theorem Rs.one {w : World} {B n : Nat} {A : Option Addr} {l : List Int} (h : Ow w B A n l) : Rs w B [(A, n, l)] := Rs.cons h (fun y hy => by cases hy) (Rs.nil _ _)

/-- what is left of a bound behind one run -/
def leftC (x : Int) (n : Nat) : Int := if x - (n : Int) < 0 then -1 else x - (n : Int)
theorem eqCell_any (a b c d : Int) (v : Bool) (A A' : Option Addr) (n f f' : Nat) (l : List Int) (w : World) (h : Bs w A n l) (h' : Bs w A' n l) (hn : n ≤ 140737488351232) :
    Calls Tryz.prog 130 #[.agg #[.int .i64 a, .int .i64 b, .int .i64 c, .int .i64 d, .bool v, .slice A n f], .agg #[.int .i64 a, .int .i64 b, .int .i64 c, .int .i64 d, .bool v, .slice A' n f']] w fun e w' => e = .returned (.bool true) ∧ Below w.heap.size w w' := by
  have e1 := fun W a b => eqByteS_any A A' n f n f' l l W a b hn hn
  simp only [decide_true] at e1
  go_enter Tryz.func130, Tryz.ntmps130
  go_wp2_with fail
  refine (e1 _ ((h.alloc _).alloc _) ((h'.alloc _).alloc _)).mono ?_
  rintro e w' ⟨rfl, q1, rfl⟩
  go_wp2
  go_returns
  exact ⟨rfl, ad (ab (ab (Below.refl _ _) _) _) _⟩

theorem markCell_any (a b c d : Int) (v : Bool) (A : Option Addr) (n f : Nat) (l : List Int) (X : Nat) (k : Int) (w : World) (h : Rs w X [(A, n, l)]) (hk0 : 0 ≤ k) (hk1 : k ≤ 140737488351232) (hn : n ≤ 140737488351232) :
    Calls Tryz.prog 131 #[.agg #[.int .i64 a, .int .i64 b, .int .i64 c, .int .i64 d, .bool v, .slice A n f], .int .i64 k] w fun e w' => e = .returned (.int .i64 (k + (n : Int))) ∧ Rs w' X [(A, n, marks k n)] ∧ Touch [(A, n, l)] w w' := by
  go_enter Tryz.func131, Tryz.ntmps131
  go_wp2_with fail
  refine (markByteS_any _ _ _ _ _ _ _ (h.head.below (ab (Below.refl _ _) _) (Nat.le_refl _)) hk0 hk1 hn).mono ?_
  rintro e w' ⟨rfl, ho, hon⟩
  go_wp2
  go_returns
  exact ⟨rfl, Rs.one ho, (Touch.ofBelow (ab (Below.refl _ _) _)).trans (Touch.ofOnly (L := [(A, n, l)]) (l := l) hon (by simp))⟩

theorem heldCell_any (a b c d : Int) (v : Bool) (A : Option Addr) (n f : Nat) (k : Int) (w : World) (h : Bs w A n (marks k n)) (hk0 : 0 ≤ k) (hk1 : k ≤ 140737488351232) (hn : n ≤ 140737488351232) :
    Calls Tryz.prog 132 #[.agg #[.int .i64 a, .int .i64 b, .int .i64 c, .int .i64 d, .bool v, .slice A n f], .int .i64 k] w fun e w' => e = .returned (.int .i64 (k + (n : Int))) ∧ Below w.heap.size w w' := by
  go_enter Tryz.func132, Tryz.ntmps132
  go_wp2_with fail
  refine (heldByteS_any _ _ _ _ _ (h.alloc _) hk0 hk1 hn).mono ?_
  rintro e w' ⟨rfl, rfl⟩
  go_wp2
  go_returns
  exact ⟨rfl, ab (Below.refl _ _) _⟩

theorem sameCellResult_any (x y a b c d : Int) (v : Bool) (A A' : Option Addr) (n f f' : Nat) (l : List Int) (w : World) (h : Bs w A n l) (h' : Bs w A' n l) (hn : n ≤ 140737488351232) :
    Calls Tryz.prog 61 #[.agg #[.int .i64 x, .int .i64 y, .int .i64 a, .int .i64 b, .int .i64 c, .int .i64 d, .bool v, .slice A n f], .agg #[.int .i64 x, .int .i64 y, .int .i64 a, .int .i64 b, .int .i64 c, .int .i64 d, .bool v, .slice A' n f']] w fun e w' => e = .returned (.bool true) ∧ Below w.heap.size w w' := by
  have e1 := fun W a1 b1 => eqCell_any a b c d v A A' n f f' l W a1 b1 hn
  go_enter Tryz.func61, Tryz.ntmps61
  go_wp2_with fail
  refine (e1 _ ((h.alloc _).alloc _) ((h'.alloc _).alloc _)).mono ?_
  rintro e w' ⟨rfl, b1⟩
  go_wp2
  go_returns
  exact ⟨rfl, ac (ab (ab (Below.refl _ _) _) _) b1⟩

theorem markRCellResult_any (x y a b c d : Int) (v : Bool) (A : Option Addr) (n f : Nat) (l : List Int) (X : Nat) (k : Int) (w : World) (h : Rs w X [(A, n, l)]) (hk0 : 0 ≤ k) (hk1 : k ≤ 140737488351232) (hn : n ≤ 140737488351232) :
    Calls Tryz.prog 62 #[.agg #[.int .i64 x, .int .i64 y, .int .i64 a, .int .i64 b, .int .i64 c, .int .i64 d, .bool v, .slice A n f], .int .i64 k] w fun e w' => e = .returned (.int .i64 (k + (n : Int))) ∧ Rs w' X [(A, n, marks k n)] ∧ Touch [(A, n, l)] w w' := by
  go_enter Tryz.func62, Tryz.ntmps62
  go_wp2_with fail
  refine (markCell_any _ _ _ _ _ _ _ _ _ _ _ _ (h.below (ab (Below.refl _ _) _) (Nat.le_refl _)) hk0 hk1 hn).mono ?_
  rintro e w' ⟨rfl, ho, t1⟩
  go_wp2
  go_returns
  exact ⟨rfl, ho, (Touch.ofBelow (ab (Below.refl _ _) _)).trans t1⟩

theorem heldRCellResult_any (x y a b c d : Int) (v : Bool) (A : Option Addr) (n f : Nat) (k : Int) (w : World) (h : Bs w A n (marks k n)) (hk0 : 0 ≤ k) (hk1 : k ≤ 140737488351232) (hn : n ≤ 140737488351232) :
    Calls Tryz.prog 63 #[.agg #[.int .i64 x, .int .i64 y, .int .i64 a, .int .i64 b, .int .i64 c, .int .i64 d, .bool v, .slice A n f], .int .i64 k] w fun e w' => e = .returned (.int .i64 (k + (n : Int))) ∧ Below w.heap.size w w' := by
  go_enter Tryz.func63, Tryz.ntmps63
  go_wp2_with fail
  refine (heldCell_any _ _ _ _ _ _ _ _ _ _ (h.alloc _) hk0 hk1 hn).mono ?_
  rintro e w' ⟨rfl, b1⟩
  go_wp2
  go_returns
  exact ⟨rfl, ac (ab (Below.refl _ _) _) b1⟩

/-- the answer with a code, a slot and a cell whose bytes are of the call's own -/
def CellAns (x y a b c d : Int) (v : Bool) (n : Nat) (l : List Int) (w : World) (e : Ending) (w' : World) : Prop :=
  (∃ A f, e = .returned (.agg #[.int .i64 x, .int .i64 y, .int .i64 a, .int .i64 b, .int .i64 c, .int .i64 d, .bool v, .slice A n f]) ∧ Rs w' w.heap.size [(A, n, l)]) ∧ Below w.heap.size w w'

end Go.Proofs.YtabhcolfkkfonaaGreatDoor
