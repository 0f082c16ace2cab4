/- Blocks of numbers of one kind (words, whole numbers), known whole. -/
import Derived.Test.YtcanmhlhnihijaaMem
namespace Go.Proofs.Ytcanmhlhnihijaa
open Go.RowKit

/-- block b holds just the numbers l of kind k, none frozen -/
def KB (k : IntKind) (t : TypeId) (w : World) (b : Nat) (l : List Int) : Prop := w.heap[b]? = some (.cells (l.map (Value.int k)).toArray t (0, 0))

section
variable {k : IntKind} {t : TypeId} {w w' : World} {b : Nat} {l : List Int}
theorem KB.lt (h : KB k t w b l) : b < w.heap.size := by
  rcases Nat.lt_or_ge b w.heap.size with hlt | hge
  · exact hlt
  · unfold KB at h; rw [Array.getElem?_eq_none hge] at h; cases h
theorem KB.cell (h : KB k t w b l) {i : Nat} (hi : i < l.length) : w.cell? ⟨b, i, none⟩ = some (.int k (l.getD i 0)) := by
  rw [cell_of_row w b i _ _ (0, 0) h]
  simp [List.getD, List.getElem?_eq_getElem hi]
theorem KB.frozen (h : KB k t w b l) (i : Nat) : w.frozen? ⟨b, i, none⟩ = false := by
  unfold KB at h; simp [World.frozen?, h]
theorem KB.keep (h : KB k t w b l) (e : w'.heap[b]? = w.heap[b]?) : KB k t w' b l := e.trans h
theorem KB.below {B : Nat} (h : KB k t w b l) (hb : Below B w w') (hl : b < B) : KB k t w' b l := h.keep (hb.block b hl)
theorem KB.drew (h : KB k t w b l) : KB k t w.drew b l := h
theorem KB.drewN (h : KB k t w b l) (q : Nat) : KB k t (w.drewN q) b l := h
theorem KB.alloc (h : KB k t w b l) (o : Obj) : KB k t (w.alloc o) b l := h.keep (Below.heap_alloc w o b h.lt)
theorem KB.far (h : KB k t w b l) {p : Addr} (hp : b ≠ p.block) (v : Value) : KB k t (w.setCell p v) b l := h.keep (Below.heap_setCell w p v b hp)
theorem KB.set_ (h : KB k t w b l) (i : Nat) (x : Int) : KB k t (w.setCell ⟨b, i, none⟩ (.int k x)) b (l.set i x) := by
  unfold KB at h ⊢
  simp [World.setCell, Array.getElem?_modify, h, List.map_set]
theorem KB.new (w : World) (l : List Int) (cs : Array Value) (hcs : cs = (l.map (Value.int k)).toArray) : KB k t (w.alloc (.cells cs t)) w.heap.size l := by
  subst hcs; exact heap_alloc_new w _
end

/-- a list with zeros behind it, n in all -/
def padded (l : List Int) (n : Nat) : List Int := l ++ List.replicate (n - l.length) 0
theorem padded_len (l : List Int) (n : Nat) (h : l.length ≤ n) : (padded l n).length = n := by simp [padded]; omega
theorem padded_nil (n : Nat) : padded [] n = List.replicate n 0 := by simp [padded]
theorem padded_full (l : List Int) (n : Nat) (h : l.length = n) : padded l n = l := by simp [padded, h]
theorem padded_get (l : List Int) (n i : Nat) (h : i < l.length) : (padded l n).getD i 0 = l.getD i 0 := by
  simp [padded, List.getD, List.getElem?_append_left h]
theorem padded_set (l : List Int) (n : Nat) (x : Int) (h : l.length < n) : (padded l n).set l.length x = padded (l ++ [x]) n := by
  unfold padded
  rw [List.set_append, if_neg (by omega), Nat.sub_self, List.append_assoc]
  congr 1
  obtain ⟨m, hm⟩ : ∃ m, n - l.length = m + 1 := ⟨n - l.length - 1, by omega⟩
  rw [hm, List.replicate_succ, List.set_cons_zero, List.length_append, show n - (l.length + [x].length) = m by simp; omega]
  rfl

theorem info_u32 : (Try.prog.info? 53).map (fun i => (i.zero, i.size, i.bytes)) = some (some (.int .u32 0), 1, 4) := by kernel_rfl

theorem made_one (z : Value) (hz : z.cells = #[z]) (n : Nat) : madeCells z.cells n = Array.replicate n z := by
  apply Array.ext
  · simp [madeCells]
  · intro i h1 h2
    simp [madeCells, hz, Nat.mod_one]

/-- n words that are zero, as make lays them -/
def zeroWords (n : Nat) : Array Value := Array.replicate n (.int .u32 0)
theorem zeroWords_eq (n : Nat) : zeroWords n = ((List.replicate n (0 : Int)).map (Value.int .u32)).toArray := by simp [zeroWords]

/-- a part of a slice of bytes -/
theorem Bs.part_ {w : World} {b off n : Nat} {l : List Int} (h : Bs w (some ⟨b, off, none⟩) n l) (i m : Nat) (hm : i + m ≤ n) : Bs w (some ⟨b, off + i, none⟩) m ((l.drop i).take m) := by
  refine ⟨by rw [List.length_take, List.length_drop, h.len]; omega, fun x hx => h.byte x (List.mem_of_mem_drop (List.mem_of_mem_take hx)), fun hp => ?_⟩
  obtain ⟨b', off', e, hb, hcell⟩ := h.at_ (by omega)
  injection e with e
  injection e with e1 e2
  subst e1 e2
  refine ⟨b, off + i, rfl, hb, fun q hq => ?_⟩
  have hcq := hcell (i + q) (by omega)
  rw [show off + (i + q) = off + i + q by omega] at hcq
  rw [hcq]
  simp [List.getD, List.getElem?_take_of_lt hq, List.getElem?_drop]

/-- n numbers of kind k at block b, of the call's own -/
structure KOw (k : IntKind) (w : World) (b : Nat) (l : List Int) : Prop where
  lt : b < w.heap.size
  cell : ∀ i, i < l.length → w.cell? ⟨b, i, none⟩ = some (.int k (l.getD i 0))
  frozen : ∀ i, w.frozen? ⟨b, i, none⟩ = false

section
variable {k : IntKind} {w w' : World} {b : Nat} {l : List Int}
theorem KB.kow {t : TypeId} (h : KB k t w b l) : KOw k w b l := ⟨h.lt, fun _ hi => h.cell hi, h.frozen⟩
theorem KOw.keep (h : KOw k w b l) (e : w'.heap[b]? = w.heap[b]?) (hs : w.heap.size ≤ w'.heap.size) : KOw k w' b l :=
  ⟨Nat.lt_of_lt_of_le h.lt hs, fun i hi => (World.cell?_of_block (a := ⟨b, i, none⟩) e).trans (h.cell i hi), fun i => (World.frozen?_of_block (a := ⟨b, i, none⟩) e).trans (h.frozen i)⟩
theorem KOw.below {B : Nat} (h : KOw k w b l) (hb : Below B w w') (hl : b < B) : KOw k w' b l := h.keep (hb.block b hl) hb.size
theorem KOw.drewN (h : KOw k w b l) (q : Nat) : KOw k (w.drewN q) b l := ⟨h.lt, h.cell, h.frozen⟩
theorem KOw.drew (h : KOw k w b l) : KOw k w.drew b l := ⟨h.lt, h.cell, h.frozen⟩
theorem KOw.alloc (h : KOw k w b l) (o : Obj) : KOw k (w.alloc o) b l := h.keep (Below.heap_alloc w o b h.lt) (by simp)
theorem KOw.far (h : KOw k w b l) {p : Addr} (hp : b ≠ p.block) (v : Value) : KOw k (w.setCell p v) b l := h.keep (Below.heap_setCell w p v b hp) (by simp)
theorem KOw.set_ (h : KOw k w b l) (i : Nat) (hi : i < l.length) (x : Int) : KOw k (w.setCell ⟨b, i, none⟩ (.int k x)) b (l.set i x) := by
  refine ⟨by rw [World.size_setCell]; exact h.lt, fun j hj => ?_, fun j => by rw [World.frozen?_setCell]; exact h.frozen j⟩
  rw [List.length_set] at hj
  by_cases hij : i = j
  · subst hij
    rw [World.cell?_setCell_same (h := h.cell i hi)]
    simp [List.getD, List.getElem?_set_self hi]
  · rw [World.cell?_setCell_other (h := by intro e; injection e with _ e2; exact hij e2), h.cell j hj]
    simp [List.getD, List.getElem?_set_ne hij]
end

end Go.Proofs.Ytcanmhlhnihijaa
