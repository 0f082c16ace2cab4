/- Bytes in memory: what a slice reads as, blocks of the call's own. -/
import Derived.Test.YtcanmhlhnihijaaKit
import Derived.Laws.MakeOwn
import Derived.Laws.BytesArg
import Derived.OwnWalk
import Derived.Deep.RegionLaw
namespace Go.Proofs.Ytcanmhlhnihijaa
open Go.RowKit

def By (l : List Int) : Prop := ∀ x ∈ l, 0 ≤ x ∧ x < 256
theorem By.nil : By [] := fun _ h => by cases h
theorem By.get {l : List Int} (h : By l) (k : Nat) : 0 ≤ l.getD k 0 ∧ l.getD k 0 < 256 := by
  rcases Nat.lt_or_ge k l.length with hk | hk
  · have e : l.getD k 0 = l[k] := by simp [List.getD, List.getElem?_eq_getElem hk]
    rw [e]; exact h _ (List.getElem_mem hk)
  · have e : l.getD k 0 = 0 := by simp [List.getD, List.getElem?_eq_none hk]
    rw [e]; omega
theorem By.append {a b : List Int} (ha : By a) (hb : By b) : By (a ++ b) := fun x h => by
  rcases List.mem_append.1 h with h | h
  · exact ha x h
  · exact hb x h

/-- a slice of n bytes at A reads as l -/
structure Bs (w : World) (A : Option Addr) (n : Nat) (l : List Int) : Prop where
  len : l.length = n
  byte : By l
  at_ : 0 < n → ∃ b off, A = some ⟨b, off, none⟩ ∧ b < w.heap.size ∧ ∀ i, i < n → w.cell? ⟨b, off + i, none⟩ = some (.int .u8 (l.getD i 0))

/-- block b holds just the bytes l, none frozen -/
def Blk (w : World) (b : Nat) (l : List Int) : Prop := w.heap[b]? = some (.cells (l.map (Value.int .u8)).toArray 5 (0, 0))

section
variable {w w' : World} {A : Option Addr} {n b : Nat} {l : List Int}
theorem Blk.lt (h : Blk w b l) : b < w.heap.size := by
  rcases Nat.lt_or_ge b w.heap.size with hlt | hge
  · exact hlt
  · unfold Blk at h; rw [Array.getElem?_eq_none hge] at h; cases h
theorem Blk.cell (h : Blk w b l) {i : Nat} (hi : i < l.length) : w.cell? ⟨b, i, none⟩ = some (.int .u8 (l.getD i 0)) := by
  rw [cell_of_row w b i _ _ (0, 0) h]
  simp [List.getD, List.getElem?_eq_getElem hi]
theorem Blk.frozen (h : Blk w b l) (i : Nat) : w.frozen? ⟨b, i, none⟩ = false := by
  unfold Blk at h; simp [World.frozen?, h]
theorem Blk.keep (h : Blk w b l) (e : w'.heap[b]? = w.heap[b]?) : Blk w' b l := e.trans h
theorem Blk.below {B : Nat} (h : Blk w b l) (hb : Below B w w') (hl : b < B) : Blk w' b l := h.keep (hb.block b hl)
theorem Blk.drewN (h : Blk w b l) (k : Nat) : Blk (w.drewN k) b l := h
theorem Blk.alloc (h : Blk w b l) (o : Obj) : Blk (w.alloc o) b l := h.keep (Below.heap_alloc w o b h.lt)
theorem Blk.far (h : Blk w b l) {p : Addr} (hp : b ≠ p.block) (v : Value) : Blk (w.setCell p v) b l := h.keep (Below.heap_setCell w p v b hp)
theorem Blk.set_ (h : Blk w b l) (i : Nat) (x : Int) : Blk (w.setCell ⟨b, i, none⟩ (.int .u8 x)) b (l.set i x) := by
  unfold Blk at h ⊢
  simp [World.setCell, Array.getElem?_modify, h, List.map_set]
theorem Blk.bs (h : Blk w b l) (hl : By l) : Bs w (some ⟨b, 0, none⟩) l.length l :=
  ⟨rfl, hl, fun _ => ⟨b, 0, rfl, h.lt, fun i hi => by rw [Nat.zero_add]; exact h.cell hi⟩⟩
theorem Bs.keep (h : Bs w A n l) (hk : ∀ p : Addr, p.block < w.heap.size → w'.cell? p = w.cell? p) (hs : w.heap.size ≤ w'.heap.size) : Bs w' A n l :=
  ⟨h.len, h.byte, fun hn => by
    obtain ⟨b, off, e, hb, hc⟩ := h.at_ hn
    exact ⟨b, off, e, Nat.lt_of_lt_of_le hb hs, fun i hi => (hk _ hb).trans (hc i hi)⟩⟩
theorem Bs.below (h : Bs w A n l) (hb : Below w.heap.size w w') : Bs w' A n l := h.keep (fun _ hp => hb.cell hp) hb.size
theorem Bs.drewN (h : Bs w A n l) (k : Nat) : Bs (w.drewN k) A n l := ⟨h.len, h.byte, h.at_⟩
theorem Bs.alloc (h : Bs w A n l) (o : Obj) : Bs (w.alloc o) A n l := h.below ((Below.refl _ _).alloc (Nat.le_refl _) o)
theorem Bs.get (h : Bs w A n l) {k : Nat} (hk : k < n) : ∃ b off X, A = some ⟨b, off, none⟩ ∧ b < w.heap.size ∧ 0 ≤ X ∧ X < 256 ∧ Hid (l.getD k 0 = X) ∧ w.cell? ⟨b, off + k, none⟩ = some (.int .u8 X) := by
  obtain ⟨b, off, e, hb, hc⟩ := h.at_ (by omega)
  have hx := h.byte.get k
  exact ⟨b, off, l.getD k 0, e, hb, hx.1, hx.2, rfl, hc k hk⟩
theorem Bs.none_ (w : World) : Bs w none 0 [] := ⟨rfl, By.nil, fun h => absurd h (by omega)⟩
end

/-- a slice of n bytes at A, of the call's own, in a block from B on: the block holds what the slice reads -/
structure Ow (w : World) (B : Nat) (A : Option Addr) (n : Nat) (l : List Int) : Prop where
  len : l.length = n
  byte : By l
  at_ : 0 < n → ∃ b, A = some ⟨b, 0, none⟩ ∧ B ≤ b ∧ b < w.heap.size ∧ (∀ i, i < n → w.cell? ⟨b, i, none⟩ = some (.int .u8 (l.getD i 0))) ∧ ∀ i, w.frozen? ⟨b, i, none⟩ = false

theorem Ow.bs {w : World} {B n : Nat} {A : Option Addr} {l : List Int} (h : Ow w B A n l) : Bs w A n l :=
  ⟨h.len, h.byte, fun hn => by
    obtain ⟨b, e, _, hb, hc, _⟩ := h.at_ hn
    exact ⟨b, 0, e, hb, fun i hi => by rw [Nat.zero_add]; exact hc i hi⟩⟩

theorem Ow.below {w w' : World} {B C n : Nat} {A : Option Addr} {l : List Int} (h : Ow w B A n l) (hb : Below C w w') (hC : w.heap.size ≤ C) : Ow w' B A n l :=
  ⟨h.len, h.byte, fun hn => by
    obtain ⟨b, e, hB, hlt, hc, hf⟩ := h.at_ hn
    exact ⟨b, e, hB, Nat.lt_of_lt_of_le hlt hb.size, fun i hi => (hb.cell (p := ⟨b, i, none⟩) (by show b < C; omega)).trans (hc i hi), fun i => (hb.frozen (p := ⟨b, i, none⟩) (by show b < C; omega)).trans (hf i)⟩⟩
theorem Ow.mono {w : World} {B C n : Nat} {A : Option Addr} {l : List Int} (h : Ow w B A n l) (hC : C ≤ B) : Ow w C A n l :=
  ⟨h.len, h.byte, fun hn => by
    obtain ⟨b, e, hB, rest⟩ := h.at_ hn
    exact ⟨b, e, by omega, rest⟩⟩

theorem Blk.ow {w : World} {b : Nat} {l : List Int} (h : Blk w b l) (hl : By l) : Ow w b (some ⟨b, 0, none⟩) l.length l :=
  ⟨rfl, hl, fun _ => ⟨b, rfl, Nat.le_refl _, h.lt, fun _ hi => h.cell hi, h.frozen⟩⟩

theorem Blk.bsn {w : World} {b n : Nat} {l : List Int} (h : Blk w b l) (hl : By l) (hn : l.length = n) : Bs w (some ⟨b, 0, none⟩) n l := by
  subst hn; exact h.bs hl
theorem Blk.own {w : World} {b n : Nat} {l : List Int} (h : Blk w b l) (hl : By l) (hn : l.length = n) : Ow w b (some ⟨b, 0, none⟩) n l := by
  subst hn; exact h.ow hl
/-- nothing has turned but cells of the block at A (and nothing at all, if there are none) -/
structure Only (n : Nat) (A : Option Addr) (w w' : World) : Prop where
  os : w'.os = w.os
  tape : w'.tape = w.tape
  output : w'.output = w.output
  size : w'.heap.size = w.heap.size
  block : ∀ k, (0 < n → ∀ a, A = some a → a.block ≠ k) → w'.heap[k]? = w.heap[k]?
theorem Only.refl (n : Nat) (A : Option Addr) (w : World) : Only n A w w := ⟨rfl, rfl, rfl, rfl, fun _ _ => rfl⟩
theorem Only.set_ {w w' : World} {b n : Nat} (h : Only n (some ⟨b, 0, none⟩) w w') (hn : 0 < n) (i : Nat) (v : Value) : Only n (some ⟨b, 0, none⟩) w (w'.setCell ⟨b, i, none⟩ v) :=
  ⟨h.os, h.tape, h.output, by rw [World.size_setCell]; exact h.size, fun k hk => (Below.heap_setCell w' ⟨b, i, none⟩ v k (fun e => hk hn _ rfl e.symm)).trans (h.block k hk)⟩
theorem Only.below {w w' : World} {A : Option Addr} {n B : Nat} (h : Only n A w w') (hA : 0 < n → ∀ a, A = some a → B ≤ a.block) : Below B w w' :=
  ⟨h.os, h.tape, h.output, by rw [h.size]; exact Nat.le_refl _, fun k hk => h.block k (fun hn a ha e => by have := hA hn a ha; omega)⟩
theorem Ow.base {w : World} {B n : Nat} {A : Option Addr} {l : List Int} (h : Ow w B A n l) : 0 < n → ∀ a, A = some a → B ≤ a.block := fun hn a ha => by
  obtain ⟨b, e, hB, _⟩ := h.at_ hn
  rw [e] at ha
  injection ha with ha
  subst ha
  exact hB
theorem Ow.top {w : World} {B n : Nat} {A : Option Addr} {l : List Int} (h : Ow w B A n l) : 0 < n → ∀ a, A = some a → a.block < w.heap.size := fun hn a ha => by
  obtain ⟨b, e, _, hlt, _⟩ := h.at_ hn
  rw [e] at ha
  injection ha with ha
  subst ha
  exact hlt
theorem Ow.set_ {w : World} {B n b i : Nat} {l : List Int} {x : Int} (h : Ow w B (some ⟨b, 0, none⟩) n l) (hi : i < n) (hx0 : 0 ≤ x) (hx1 : x < 256) :
    Ow (w.setCell ⟨b, i, none⟩ (.int .u8 x)) B (some ⟨b, 0, none⟩) n (l.set i x) := by
  refine ⟨by rw [List.length_set]; exact h.len, fun y hy => ?_, fun hn => ?_⟩
  · rcases List.mem_or_eq_of_mem_set hy with h1 | h1
    · exact h.byte y h1
    · subst h1; exact ⟨hx0, hx1⟩
  · obtain ⟨b', e, hB, hlt, hc, hf⟩ := h.at_ hn
    injection e with e
    injection e with e
    subst e
    refine ⟨b, rfl, hB, by rw [World.size_setCell]; exact hlt, fun j hj => ?_, fun j => by rw [World.frozen?_setCell]; exact hf j⟩
    by_cases hij : i = j
    · subst hij
      rw [World.cell?_setCell_same (h := hc i hi)]
      simp [List.getD, List.getElem?_set_self (show i < l.length by rw [h.len]; exact hi)]
    · rw [World.cell?_setCell_other (h := by intro e; injection e with _ e2; exact hij e2), hc j hj]
      simp [List.getD, List.getElem?_set_ne hij]
theorem Ow.only {w w' : World} {B n m : Nat} {A A' : Option Addr} {l : List Int} (h : Ow w B A n l) (ho : Only m A' w w') (hA : 0 < m → ∀ a, A' = some a → a.block < B) : Ow w' B A n l :=
  ⟨h.len, h.byte, fun hn => by
    obtain ⟨b, e, hB, hlt, hc, hf⟩ := h.at_ hn
    have hk := ho.block b (fun hm a ha e => by have := hA hm a ha; omega)
    exact ⟨b, e, hB, by rw [ho.size]; exact hlt, fun i hi => (World.cell?_of_block (a := ⟨b, i, none⟩) hk).trans (hc i hi), fun i => (World.frozen?_of_block (a := ⟨b, i, none⟩) hk).trans (hf i)⟩⟩
theorem Blk.only {w w' : World} {b m : Nat} {A' : Option Addr} {l : List Int} (h : Blk w b l) (ho : Only m A' w w') (hA : 0 < m → ∀ a, A' = some a → a.block ≠ b) : Blk w' b l :=
  h.keep (ho.block b hA)

theorem Ow.far {w : World} {B n : Nat} {A : Option Addr} {l : List Int} (h : Ow w B A n l) {p : Addr} (hp : p.block < B) (v : Value) : Ow (w.setCell p v) B A n l :=
  ⟨h.len, h.byte, fun hn => by
    obtain ⟨b, e, hB, hlt, hc, hf⟩ := h.at_ hn
    have hk := Below.heap_setCell w p v b (by omega)
    exact ⟨b, e, hB, by rw [World.size_setCell]; exact hlt, fun i hi => (World.cell?_of_block (a := ⟨b, i, none⟩) hk).trans (hc i hi), fun i => (World.frozen?_of_block (a := ⟨b, i, none⟩) hk).trans (hf i)⟩⟩

theorem Ow.drew {w : World} {B n : Nat} {A : Option Addr} {l : List Int} (h : Ow w B A n l) : Ow w.drew B A n l := ⟨h.len, h.byte, h.at_⟩
theorem Ow.drewN {w : World} {B n : Nat} {A : Option Addr} {l : List Int} (h : Ow w B A n l) (k : Nat) : Ow (w.drewN k) B A n l := ⟨h.len, h.byte, h.at_⟩
theorem Ow.alloc {w : World} {B n : Nat} {A : Option Addr} {l : List Int} (h : Ow w B A n l) (o : Obj) : Ow (w.alloc o) B A n l := h.below ((Below.refl w.heap.size w).alloc (Nat.le_refl _) o) (Nat.le_refl _)
theorem Only.drew {w w' : World} {n : Nat} {A : Option Addr} (h : Only n A w w') : Only n A w w'.drew := ⟨h.os, h.tape, h.output, h.size, h.block⟩

theorem Ow.under {w w' : World} {B C n : Nat} {A : Option Addr} {l : List Int} (h : Ow w B A n l) (hb : Below C w w') (hA : 0 < n → ∀ a, A = some a → a.block < C) : Ow w' B A n l :=
  ⟨h.len, h.byte, fun hn => by
    obtain ⟨b, e, hB, hlt, hc, hf⟩ := h.at_ hn
    have hk := hb.block b (hA hn _ e)
    exact ⟨b, e, hB, Nat.lt_of_lt_of_le hlt hb.size, fun i hi => (World.cell?_of_block (a := ⟨b, i, none⟩) hk).trans (hc i hi), fun i => (World.frozen?_of_block (a := ⟨b, i, none⟩) hk).trans (hf i)⟩⟩

theorem info_u8 : (Try.prog.info? 5).map (fun i => (i.zero, i.size, i.bytes)) = some (some (.int .u8 0), 1, 1) := by kernel_rfl

theorem made_u8 (n : Nat) : madeCells (Value.int .u8 0).cells n = ((List.replicate n (0 : Int)).map (Value.int .u8)).toArray := by
  apply Array.ext
  · simp [madeCells]
  · intro i h1 h2
    have h3 : i < n := by simpa [madeCells] using h1
    simp [madeCells, Value.cells, Nat.mod_one]

theorem run_make_bytes (n : Nat) (hn : n ≤ 281474976710656) (w : World) :
    (Instr.makeSlice 22 (.int .i64 (n : Int)) (.int .i64 (n : Int))).run Try.prog w =
      .ok (.slice (some ⟨w.heap.size, 0, none⟩) n n) (w.alloc (.cells ((List.replicate n (0 : Int)).map (Value.int .u8)).toArray 5)) := by
  obtain ⟨i, hi, hz0, hz1, hz2⟩ := info_parts info_u8
  have hr := run_make (P := Try.prog) w 22 5 i _ Try.underlying22 hi hz0 .i64 .i64 n n (by omega) (by omega) (by rw [hz2]; omega) (by omega)
  simp only [Int.toNat_natCast, hz1, Nat.mul_one, made_u8] at hr
  exact hr

theorem Blk.made (w : World) (l : List Int) : Blk (w.alloc (.cells (l.map (Value.int .u8)).toArray 5)) w.heap.size l := heap_alloc_new w _

/-- k bytes copied, the rest zeros -/
def part (l : List Int) (n k : Nat) : List Int := l.take k ++ List.replicate (n - k) 0
theorem part_zero (l : List Int) (n : Nat) : part l n 0 = List.replicate n 0 := by simp [part]
theorem part_full (l : List Int) (n : Nat) (h : l.length = n) : part l n n = l := by simp [part, ← h]
theorem part_len (l : List Int) (n k : Nat) (h : l.length = n) (hk : k ≤ n) : (part l n k).length = n := by simp [part]; omega
theorem part_get (l : List Int) (n k i : Nat) (h : l.length = n) (hk : k ≤ n) : (part l n k)[i]? = if i < k then l[i]? else if i < n then some 0 else none := by
  unfold part
  by_cases hi : i < k
  · rw [List.getElem?_append_left (by rw [List.length_take]; omega), List.getElem?_take_of_lt hi, if_pos hi]
  · rw [List.getElem?_append_right (by rw [List.length_take]; omega), if_neg hi, List.getElem?_replicate, List.length_take]
    by_cases hn : i < n
    · rw [if_pos (by omega), if_pos hn]
    · rw [if_neg (by omega), if_neg hn]
theorem part_set (l : List Int) (n k : Nat) (h : l.length = n) (hk : k < n) : (part l n k).set k (l.getD k 0) = part l n (k + 1) := by
  apply List.ext_getElem?
  intro i
  rw [part_get l n (k + 1) i h (by omega)]
  rcases Nat.lt_trichotomy i k with hi | hi | hi
  · rw [List.getElem?_set_ne (by omega), part_get l n k i h (by omega), if_pos hi, if_pos (by omega)]
  · subst hi
    rw [List.getElem?_set_self (by rw [part_len l n i h (by omega)]; omega), if_pos (by omega)]
    simp [List.getD, List.getElem?_eq_getElem (show i < l.length by omega)]
  · rw [List.getElem?_set_ne (by omega), part_get l n k i h (by omega), if_neg (show ¬ i < k by omega), if_neg (show ¬ i < k + 1 by omega)]

/-- what is known of a slice of integers that came in -/
def IsRow (k : IntKind) (w : World) (a : Option Addr) (len cap : Nat) (zs : List Int) : Prop :=
  (a = none ∧ len = 0 ∧ cap = 0 ∧ zs = []) ∨
  ∃ x, a = some x ∧ len ≤ cap ∧ cap ≤ maxLen ∧ zs.length = cap ∧ (∀ i, i < zs.length → w.cell? (x.add i) = some (.int k (zs.getD i 0))) ∧ ∀ n ∈ zs, (Lit.int k n).wf = true

theorem byte_of_wf {x : Int} (h : (Lit.int .u8 x).wf = true) : 0 ≤ x ∧ x < 256 := by
  have : IntKind.u8.min ≤ x ∧ x ≤ IntKind.u8.max := by simpa [Lit.wf] using h
  have e1 : IntKind.u8.min = 0 := rfl
  have e2 : IntKind.u8.max = 255 := rfl
  omega

theorem IsRow.bs {w : World} {A : Option Addr} {n c : Nat} {zs : List Int} (h : IsRow .u8 w A n c zs) : Bs w A n (zs.take n) := by
  rcases h with ⟨rfl, rfl, rfl, rfl⟩ | ⟨x, rfl, hl, _, hz, hcell, hwz⟩
  · exact Bs.none_ w
  · refine ⟨by rw [List.length_take]; omega, fun y hy => byte_of_wf (hwz y (List.mem_of_mem_take hy)), fun hn => ?_⟩
    obtain ⟨b, off, spot⟩ := x
    have h0 := hcell 0 (by omega)
    have hspot : spot = none := by simpa [Addr.add] using World.cell?_spot h0
    subst hspot
    have hadd : ∀ j, (⟨b, off, none⟩ : Addr).add j = ⟨b, off + j, none⟩ := fun j => by unfold Addr.add; split <;> simp_all
    refine ⟨b, off, rfl, World.block_lt_of_cell? w _ (by rw [hadd] at h0; exact h0), fun i hi => ?_⟩
    have hc := hcell i (by omega)
    rw [hadd] at hc
    rw [hc]
    simp [List.getD, List.getElem?_take_of_lt hi]

theorem cell_one (w : World) (v : Value) (t : TypeId) : ∀ j u, [v][j]? = some u → (w.alloc (.cells #[v] t)).cell? ((⟨w.heap.size, 0, none⟩ : Addr).add j) = some u := by
  intro j u hj
  cases j with
  | zero =>
    simp at hj
    subst hj
    have h := cell_of_row (w.alloc (.cells #[v] t)) w.heap.size 0 #[v] t (0, 0) (heap_alloc_new w _)
    simp [Addr.add]
  | succ j => simp at hj

/-- a row of bytes, of the call's own from block B on, that is appended to -/
structure Row (w : World) (B : Nat) (v : Value) (l : List Int) : Prop where
  byte : By l
  own : w.ownsRow B 5 1 v l.length (l.map (Value.int .u8))

section
variable {w w' : World} {B : Nat} {v : Value} {l : List Int}
theorem Row.alloc (h : Row w B v l) (o : Obj) : Row (w.alloc o) B v l := ⟨h.byte, h.own.alloc o⟩
theorem Row.ow (h : Row w B v l) {n : Nat} (hn : l.length = n) : ∃ A c, v = .slice A n c ∧ Ow w B A n l := by
  subst hn
  rcases h.own.2 with ⟨rfl, hn⟩ | ⟨g, cap, cur, rfl, hB, hg, _, _, _, _⟩
  · rw [hn]
    exact ⟨none, 0, rfl, hn, h.byte, fun h0 => absurd h0 (by omega)⟩
  · refine ⟨_, cap, rfl, rfl, h.byte, fun _ => ⟨g, rfl, hB, (Array.getElem?_eq_some_iff.1 hg).1, fun i hi => ?_, fun i => ?_⟩⟩
    · have hc := h.own.cells (g := g) rfl i (.int .u8 (l.getD i 0)) (by simp [List.getD, List.getElem?_eq_getElem hi])
      have hadd : (⟨g, 0, none⟩ : Addr).add i = ⟨g, i, none⟩ := by unfold Addr.add; split <;> simp_all
      rwa [hadd] at hc
    · simp [World.frozen?, hg]
theorem Row.empty (w : World) (cur : Array Value) (hB : B ≤ w.heap.size) (hs : cur.size = 0) : Row (w.alloc (.cells cur 5)) B (.slice (some ⟨w.heap.size, 0, none⟩) 0 0) [] :=
  ⟨By.nil, World.ownsRow_made w cur 0 hB (by unfold maxLen; omega) (by omega)⟩
end

theorem wpList_row_append {ops : Array Oper} {rest : List Oper} {o : Oper} {a : Act} {Q : Exit → Act → World → Prop} (hgd : o.guard = none) (s x : Operand)
    (ho : o.op = .call { callee := .builtin .append, args := #[s, x], argTypes := #[22, 22] })
    (w : World) (B : Nat) (v : Value) (l : List Int) (hs : a.eval s = v) (hrow : Row w B v l) (hB : B ≤ w.heap.size)
    (ad : Addr) (c : Nat) (X : Int) (hx : a.eval x = .slice (some ad) 1 c) (hcell : ∀ j u, [Value.int .u8 X][j]? = some u → w.cell? (ad.add j) = some u)
    (hX0 : 0 ≤ X) (hX1 : X < 256) (hlen : l.length ≤ 140737488351232)
    (h : ∀ v' w', Row w' B v' (l ++ [X]) → Below B w w' → w.heap.size ≤ w'.heap.size → wpList Try.prog ops Q rest (a.put o.dst v') w') : wpList Try.prog ops Q (o :: rest) a w := by
  obtain ⟨i0, hi, hz0, hz1, hz2⟩ := info_parts info_u8
  refine wpList_append_own _ hgd s x 22 ho B 5 i0 (.int .u8 0) 1 1 Try.underlying22 hi hz0 hz1 hz2 rfl (by decide) v l.length _ hs hrow.own ad 1 c [.int .u8 X] hx rfl hcell
    (by simp [Value.oneCell']) (by unfold maxLen; omega) (by omega) hB ?_
  intro v' w' hown hgrow _
  refine h v' w' ⟨hrow.byte.append (fun y hy => by simp at hy; subst hy; exact ⟨hX0, hX1⟩), ?_⟩ ⟨hgrow.os, hgrow.tape, hgrow.output, hgrow.size, fun k hk => hgrow.block k (by omega) (fun e => ?_)⟩ hgrow.size
  · simpa using hown
  · have := (hrow.own.lt k e.symm).1
    omega

theorem Row.drew {w : World} {B : Nat} {v : Value} {l : List Int} (h : Row w B v l) : Row w.drew B v l := ⟨h.byte, h.own⟩

/-- the same as one step of a region that draws its order -/
theorem step_row_append {ops : Array Oper} {o : Oper} {a : Act} {K : Act → World → Prop} {Q : Exit → Act → World → Prop} {E : Prop} (hgd : o.guard = none) (s x : Operand)
    (ho : o.op = .call { callee := .builtin .append, args := #[s, x], argTypes := #[22, 22] })
    (w : World) (B : Nat) (v : Value) (l : List Int) (hs : a.eval s = v) (hrow : Row w B v l) (hB : B ≤ w.heap.size)
    (ad : Addr) (c : Nat) (X : Int) (hx : a.eval x = .slice (some ad) 1 c) (hcell : ∀ j u, [Value.int .u8 X][j]? = some u → w.cell? (ad.add j) = some u)
    (hX0 : 0 ≤ X) (hX1 : X < 256) (hlen : l.length ≤ 140737488351232)
    (h : ∀ v' w', Row w' B v' (l ++ [X]) → Below B w w' → w.heap.size ≤ w'.heap.size → K (a.put o.dst v') w') :
    if Region.wanted o (yielded ops a.tmps) = true then Oper.wp Try.prog o a w K Q else E := by
  have hw : Region.wanted o (yielded ops a.tmps) = true := by simp [Region.wanted, hgd]
  rw [if_pos hw]
  obtain ⟨i0, hi, hz0, hz1, hz2⟩ := info_parts info_u8
  refine wp_append_own w s x 22 ho B 5 i0 (.int .u8 0) 1 1 Try.underlying22 hi hz0 hz1 hz2 rfl (by decide) v l.length _ hs hrow.own ad 1 c [.int .u8 X] hx rfl hcell
    (by simp [Value.oneCell']) (by unfold maxLen; omega) (by omega) hB ?_
  intro v' w' hown hgrow _
  refine h v' w' ⟨hrow.byte.append (fun y hy => by simp at hy; subst hy; exact ⟨hX0, hX1⟩), ?_⟩ ⟨hgrow.os, hgrow.tape, hgrow.output, hgrow.size, fun k hk => hgrow.block k (by omega) (fun e => ?_)⟩ hgrow.size
  · simpa using hown
  · have := (hrow.own.lt k e.symm).1
    omega

/-- a result's own two cells, still there below a world in which blocks behind them were made and written -/
theorem two_cells {w wr : World} {a b : Value} {t : TypeId} (h : Below (w.heap.size + 1) (w.alloc (.cells #[a, b] t)) wr) :
    wr.cell? ⟨w.heap.size, 0, none⟩ = some a ∧ wr.cell? ⟨w.heap.size, 1, none⟩ = some b ∧ wr.frozen? ⟨w.heap.size, 0, none⟩ = false ∧ wr.frozen? ⟨w.heap.size, 1, none⟩ = false ∧ w.heap.size + 1 ≤ wr.heap.size := by
  have e := heap_alloc_new w (.cells #[a, b] t)
  have hk := (h.block w.heap.size (by omega)).trans e
  refine ⟨?_, ?_, by simp [World.frozen?, hk], by simp [World.frozen?, hk], by have := h.size; simpa using this⟩
  · have := cell_of_row wr w.heap.size 0 _ _ (0, 0) hk
    simpa using this
  · have := cell_of_row wr w.heap.size 1 _ _ (0, 0) hk
    simpa using this

/-- block b holds a struct's two cells -/
def Two (w : World) (b : Nat) (t : TypeId) (x y : Value) : Prop := w.heap[b]? = some (.cells #[x, y] t (0, 0))
theorem Two.cells {w : World} {b : Nat} {t : TypeId} {x y : Value} (h : Two w b t x y) :
    w.cell? ⟨b, 0, none⟩ = some x ∧ w.cell? ⟨b, 1, none⟩ = some y ∧ w.frozen? ⟨b, 0, none⟩ = false ∧ w.frozen? ⟨b, 1, none⟩ = false := by
  unfold Two at h
  refine ⟨?_, ?_, by simp [World.frozen?, h], by simp [World.frozen?, h]⟩
  · have := cell_of_row w b 0 _ _ (0, 0) h
    simpa using this
  · have := cell_of_row w b 1 _ _ (0, 0) h
    simpa using this
theorem Two.new (w : World) (t : TypeId) (x y : Value) : Two (w.alloc (.cells #[x, y] t)) w.heap.size t x y := heap_alloc_new w _
theorem Two.below {w w' : World} {b B : Nat} {t : TypeId} {x y : Value} (h : Two w b t x y) (hb : Below B w w') (hl : b < B) : Two w' b t x y := (hb.block b hl).trans h
theorem Two.alloc {w : World} {b : Nat} {t : TypeId} {x y : Value} (h : Two w b t x y) (o : Obj) (hl : b < w.heap.size) : Two (w.alloc o) b t x y := (Below.heap_alloc w o b hl).trans h
theorem Two.only {w w' : World} {b n : Nat} {A : Option Addr} {t : TypeId} {x y : Value} (h : Two w b t x y) (ho : Only n A w w') (hA : 0 < n → ∀ a, A = some a → a.block ≠ b) : Two w' b t x y := (ho.block b hA).trans h

/-- the answer with a code and bytes in memory of its own -/
def BytesAns (code : Int) (n : Nat) (l : List Int) (w : World) (e : Ending) (w' : World) : Prop :=
  (∃ A c, e = .returned (.agg #[.int .i64 code, .slice A n c]) ∧ Ow w' w.heap.size A n l) ∧ Below w.heap.size w w'

theorem Ow.nil_ (w : World) (B : Nat) : Ow w B none 0 [] := ⟨rfl, By.nil, fun h => absurd h (by omega)⟩

end Go.Proofs.Ytcanmhlhnihijaa
