import Derived.Test.YtpaemmoopjkppaaRows
import Derived.WalkKit
import Derived.ProofKit
import Derived.OpenShut
import Derived.ShutString
import Derived.ChangeOld
import Derived.Below
import Derived.IntWalk
import Derived.BigQuiet
import Derived.Outline
import Derived.Deep.QuietTactic
import Derived.Deep.Draws
import Derived.Deep.DeepFit
import Derived.RegionTactic
import Derived.Handy
import Derived.Lib.Hide
import Derived.Laws.BitsAllLaws
import Derived.Laws.MakeOwn
import Derived.Laws.BytesArg
import Derived.OwnWalk
import Derived.Deep.RegionLaw
import Derived.RangeFuncOwn
import Derived.Laws.CopyOwn
import Derived.Laws.AppendOwnNone
import Derived.Maps.AppendAt

/-! Kit -/
/- Small words of mine that every text of the seat uses. -/
namespace Go.Proofs.Ytpaemmoopjkppaa
open Go.RowKit

/-- behind a call that made memory: every cell that was there, and every mark, reads as it did -/
theorem bcell {W w1 : World} (hb : Below W.heap.size W w1) :
    (∀ b o, b < W.heap.size → w1.cell? ⟨b, o, none⟩ = W.cell? ⟨b, o, none⟩) ∧ (∀ b o, b < W.heap.size → w1.frozen? ⟨b, o, none⟩ = W.frozen? ⟨b, o, none⟩) ∧ W.heap.size < w1.heap.size + 1 :=
  ⟨fun b o h => hb.cell (p := ⟨b, o, none⟩) h, fun b o h => hb.frozen (p := ⟨b, o, none⟩) h, by have := hb.size; omega⟩

theorem below_drewN {B : Nat} {a w : World} (h : Below B a w) (n : Nat) : Below B a (w.drewN n) := ⟨h.os, h.tape, h.output, h.size, h.block⟩

theorem ab {a w : World} (h : Below a.heap.size a w) (o : Obj) : Below a.heap.size a (w.alloc o) := h.alloc h.size o
theorem ac {a w w' : World} (h : Below a.heap.size a w) (k : Below w.heap.size w w') : Below a.heap.size a w' := h.trans (k.mono h.size)
theorem ad {a w : World} (h : Below a.heap.size a w) (n : Nat) : Below a.heap.size a (w.drewN n) := below_drewN h n
theorem ae {a w : World} (h : Below a.heap.size a w) {p : Addr} (hp : a.heap.size ≤ p.block) (v : Value) : Below a.heap.size a (w.setCell p v) := h.setCell hp v

end Go.Proofs.Ytpaemmoopjkppaa

/-! Mem -/
/- Bytes in memory: what a slice reads as, blocks of the call's own. -/
namespace Go.Proofs.Ytpaemmoopjkppaa
open Go.RowKit

def By (l : List Int) : Prop := ∀ x ∈ l, 0 ≤ x ∧ x < 256
theorem By.nil : By [] := fun _ h => by cases h
theorem By.get {l : List Int} (h : By l) (k : Nat) : 0 ≤ l.getD k 0 ∧ l.getD k 0 < 256 := by
  rcases Nat.lt_or_ge k l.length with hk | hk
  · have e : l.getD k 0 = l[k] := by simp [List.getD, List.getElem?_eq_getElem hk]
    rw [e]; exact h _ (List.getElem_mem hk)
  · have e : l.getD k 0 = 0 := by simp [List.getD, List.getElem?_eq_none hk]
    rw [e]; omega
theorem By.append {a b : List Int} (ha : By a) (hb : By b) : By (a ++ b) := fun x h => by
  rcases List.mem_append.1 h with h | h
  · exact ha x h
  · exact hb x h

/-- a slice of n bytes at A reads as l -/
structure Bs (w : World) (A : Option Addr) (n : Nat) (l : List Int) : Prop where
  len : l.length = n
  byte : By l
  at_ : 0 < n → ∃ b off, A = some ⟨b, off, none⟩ ∧ b < w.heap.size ∧ ∀ i, i < n → w.cell? ⟨b, off + i, none⟩ = some (.int .u8 (l.getD i 0))

/-- block b holds just the bytes l, none frozen -/
def Blk (w : World) (b : Nat) (l : List Int) : Prop := w.heap[b]? = some (.cells (l.map (Value.int .u8)).toArray 5 (0, 0))

section
variable {w w' : World} {A : Option Addr} {n b : Nat} {l : List Int}
theorem Blk.lt (h : Blk w b l) : b < w.heap.size := by
  rcases Nat.lt_or_ge b w.heap.size with hlt | hge
  · exact hlt
  · unfold Blk at h; rw [Array.getElem?_eq_none hge] at h; cases h
theorem Blk.cell (h : Blk w b l) {i : Nat} (hi : i < l.length) : w.cell? ⟨b, i, none⟩ = some (.int .u8 (l.getD i 0)) := by
  rw [cell_of_row w b i _ _ (0, 0) h]
  simp [List.getD, List.getElem?_eq_getElem hi]
theorem Blk.frozen (h : Blk w b l) (i : Nat) : w.frozen? ⟨b, i, none⟩ = false := by
  unfold Blk at h; simp [World.frozen?, h]
theorem Blk.keep (h : Blk w b l) (e : w'.heap[b]? = w.heap[b]?) : Blk w' b l := e.trans h
theorem Blk.below {B : Nat} (h : Blk w b l) (hb : Below B w w') (hl : b < B) : Blk w' b l := h.keep (hb.block b hl)
theorem Blk.drewN (h : Blk w b l) (k : Nat) : Blk (w.drewN k) b l := h
theorem Blk.alloc (h : Blk w b l) (o : Obj) : Blk (w.alloc o) b l := h.keep (Below.heap_alloc w o b h.lt)
theorem Blk.far (h : Blk w b l) {p : Addr} (hp : b ≠ p.block) (v : Value) : Blk (w.setCell p v) b l := h.keep (Below.heap_setCell w p v b hp)
theorem Blk.set_ (h : Blk w b l) (i : Nat) (x : Int) : Blk (w.setCell ⟨b, i, none⟩ (.int .u8 x)) b (l.set i x) := by
  unfold Blk at h ⊢
  simp [World.setCell, Array.getElem?_modify, h, List.map_set]
theorem Blk.bs (h : Blk w b l) (hl : By l) : Bs w (some ⟨b, 0, none⟩) l.length l :=
  ⟨rfl, hl, fun _ => ⟨b, 0, rfl, h.lt, fun i hi => by rw [Nat.zero_add]; exact h.cell hi⟩⟩
theorem Bs.keep (h : Bs w A n l) (hk : ∀ p : Addr, p.block < w.heap.size → w'.cell? p = w.cell? p) (hs : w.heap.size ≤ w'.heap.size) : Bs w' A n l :=
  ⟨h.len, h.byte, fun hn => by
    obtain ⟨b, off, e, hb, hc⟩ := h.at_ hn
    exact ⟨b, off, e, Nat.lt_of_lt_of_le hb hs, fun i hi => (hk _ hb).trans (hc i hi)⟩⟩
theorem Bs.below (h : Bs w A n l) (hb : Below w.heap.size w w') : Bs w' A n l := h.keep (fun _ hp => hb.cell hp) hb.size
theorem Bs.drewN (h : Bs w A n l) (k : Nat) : Bs (w.drewN k) A n l := ⟨h.len, h.byte, h.at_⟩
theorem Bs.alloc (h : Bs w A n l) (o : Obj) : Bs (w.alloc o) A n l := h.below ((Below.refl _ _).alloc (Nat.le_refl _) o)
theorem Bs.get (h : Bs w A n l) {k : Nat} (hk : k < n) : ∃ b off X, A = some ⟨b, off, none⟩ ∧ b < w.heap.size ∧ 0 ≤ X ∧ X < 256 ∧ Hid (l.getD k 0 = X) ∧ w.cell? ⟨b, off + k, none⟩ = some (.int .u8 X) := by
  obtain ⟨b, off, e, hb, hc⟩ := h.at_ (by omega)
  have hx := h.byte.get k
  exact ⟨b, off, l.getD k 0, e, hb, hx.1, hx.2, rfl, hc k hk⟩
theorem Bs.none_ (w : World) : Bs w none 0 [] := ⟨rfl, By.nil, fun h => absurd h (by omega)⟩
end

/-- a slice of n bytes at A, of the call's own, in a block from B on: the block holds what the slice reads -/
structure Ow (w : World) (B : Nat) (A : Option Addr) (n : Nat) (l : List Int) : Prop where
  len : l.length = n
  byte : By l
  at_ : 0 < n → ∃ b, A = some ⟨b, 0, none⟩ ∧ B ≤ b ∧ b < w.heap.size ∧ (∀ i, i < n → w.cell? ⟨b, i, none⟩ = some (.int .u8 (l.getD i 0))) ∧ ∀ i, w.frozen? ⟨b, i, none⟩ = false

theorem Ow.bs {w : World} {B n : Nat} {A : Option Addr} {l : List Int} (h : Ow w B A n l) : Bs w A n l :=
  ⟨h.len, h.byte, fun hn => by
    obtain ⟨b, e, _, hb, hc, _⟩ := h.at_ hn
    exact ⟨b, 0, e, hb, fun i hi => by rw [Nat.zero_add]; exact hc i hi⟩⟩

theorem Ow.below {w w' : World} {B C n : Nat} {A : Option Addr} {l : List Int} (h : Ow w B A n l) (hb : Below C w w') (hC : w.heap.size ≤ C) : Ow w' B A n l :=
  ⟨h.len, h.byte, fun hn => by
    obtain ⟨b, e, hB, hlt, hc, hf⟩ := h.at_ hn
    exact ⟨b, e, hB, Nat.lt_of_lt_of_le hlt hb.size, fun i hi => (hb.cell (p := ⟨b, i, none⟩) (by show b < C; omega)).trans (hc i hi), fun i => (hb.frozen (p := ⟨b, i, none⟩) (by show b < C; omega)).trans (hf i)⟩⟩
theorem Ow.mono {w : World} {B C n : Nat} {A : Option Addr} {l : List Int} (h : Ow w B A n l) (hC : C ≤ B) : Ow w C A n l :=
  ⟨h.len, h.byte, fun hn => by
    obtain ⟨b, e, hB, rest⟩ := h.at_ hn
    exact ⟨b, e, by omega, rest⟩⟩

theorem Blk.ow {w : World} {b : Nat} {l : List Int} (h : Blk w b l) (hl : By l) : Ow w b (some ⟨b, 0, none⟩) l.length l :=
  ⟨rfl, hl, fun _ => ⟨b, rfl, Nat.le_refl _, h.lt, fun _ hi => h.cell hi, h.frozen⟩⟩

theorem Blk.bsn {w : World} {b n : Nat} {l : List Int} (h : Blk w b l) (hl : By l) (hn : l.length = n) : Bs w (some ⟨b, 0, none⟩) n l := by
  subst hn; exact h.bs hl
theorem Blk.own {w : World} {b n : Nat} {l : List Int} (h : Blk w b l) (hl : By l) (hn : l.length = n) : Ow w b (some ⟨b, 0, none⟩) n l := by
  subst hn; exact h.ow hl
/-- nothing has turned but cells of the block at A (and nothing at all, if there are none) -/
structure Only (n : Nat) (A : Option Addr) (w w' : World) : Prop where
  os : w'.os = w.os
  tape : w'.tape = w.tape
  output : w'.output = w.output
  size : w'.heap.size = w.heap.size
  block : ∀ k, (0 < n → ∀ a, A = some a → a.block ≠ k) → w'.heap[k]? = w.heap[k]?
theorem Only.refl (n : Nat) (A : Option Addr) (w : World) : Only n A w w := ⟨rfl, rfl, rfl, rfl, fun _ _ => rfl⟩
theorem Only.set_ {w w' : World} {b n : Nat} (h : Only n (some ⟨b, 0, none⟩) w w') (hn : 0 < n) (i : Nat) (v : Value) : Only n (some ⟨b, 0, none⟩) w (w'.setCell ⟨b, i, none⟩ v) :=
  ⟨h.os, h.tape, h.output, by rw [World.size_setCell]; exact h.size, fun k hk => (Below.heap_setCell w' ⟨b, i, none⟩ v k (fun e => hk hn _ rfl e.symm)).trans (h.block k hk)⟩
theorem Only.below {w w' : World} {A : Option Addr} {n B : Nat} (h : Only n A w w') (hA : 0 < n → ∀ a, A = some a → B ≤ a.block) : Below B w w' :=
  ⟨h.os, h.tape, h.output, by rw [h.size]; exact Nat.le_refl _, fun k hk => h.block k (fun hn a ha e => by have := hA hn a ha; omega)⟩
theorem Ow.base {w : World} {B n : Nat} {A : Option Addr} {l : List Int} (h : Ow w B A n l) : 0 < n → ∀ a, A = some a → B ≤ a.block := fun hn a ha => by
  obtain ⟨b, e, hB, _⟩ := h.at_ hn
  rw [e] at ha
  injection ha with ha
  subst ha
  exact hB
theorem Ow.top {w : World} {B n : Nat} {A : Option Addr} {l : List Int} (h : Ow w B A n l) : 0 < n → ∀ a, A = some a → a.block < w.heap.size := fun hn a ha => by
  obtain ⟨b, e, _, hlt, _⟩ := h.at_ hn
  rw [e] at ha
  injection ha with ha
  subst ha
  exact hlt
theorem Ow.set_ {w : World} {B n b i : Nat} {l : List Int} {x : Int} (h : Ow w B (some ⟨b, 0, none⟩) n l) (hi : i < n) (hx0 : 0 ≤ x) (hx1 : x < 256) :
    Ow (w.setCell ⟨b, i, none⟩ (.int .u8 x)) B (some ⟨b, 0, none⟩) n (l.set i x) := by
  refine ⟨by rw [List.length_set]; exact h.len, fun y hy => ?_, fun hn => ?_⟩
  · rcases List.mem_or_eq_of_mem_set hy with h1 | h1
    · exact h.byte y h1
    · subst h1; exact ⟨hx0, hx1⟩
  · obtain ⟨b', e, hB, hlt, hc, hf⟩ := h.at_ hn
    injection e with e
    injection e with e
    subst e
    refine ⟨b, rfl, hB, by rw [World.size_setCell]; exact hlt, fun j hj => ?_, fun j => by rw [World.frozen?_setCell]; exact hf j⟩
    by_cases hij : i = j
    · subst hij
      rw [World.cell?_setCell_same (h := hc i hi)]
      simp [List.getD, List.getElem?_set_self (show i < l.length by rw [h.len]; exact hi)]
    · rw [World.cell?_setCell_other (h := by intro e; injection e with _ e2; exact hij e2), hc j hj]
      simp [List.getD, List.getElem?_set_ne hij]
theorem Ow.only {w w' : World} {B n m : Nat} {A A' : Option Addr} {l : List Int} (h : Ow w B A n l) (ho : Only m A' w w') (hA : 0 < m → ∀ a, A' = some a → a.block < B) : Ow w' B A n l :=
  ⟨h.len, h.byte, fun hn => by
    obtain ⟨b, e, hB, hlt, hc, hf⟩ := h.at_ hn
    have hk := ho.block b (fun hm a ha e => by have := hA hm a ha; omega)
    exact ⟨b, e, hB, by rw [ho.size]; exact hlt, fun i hi => (World.cell?_of_block (a := ⟨b, i, none⟩) hk).trans (hc i hi), fun i => (World.frozen?_of_block (a := ⟨b, i, none⟩) hk).trans (hf i)⟩⟩
theorem Blk.only {w w' : World} {b m : Nat} {A' : Option Addr} {l : List Int} (h : Blk w b l) (ho : Only m A' w w') (hA : 0 < m → ∀ a, A' = some a → a.block ≠ b) : Blk w' b l :=
  h.keep (ho.block b hA)

theorem Ow.far {w : World} {B n : Nat} {A : Option Addr} {l : List Int} (h : Ow w B A n l) {p : Addr} (hp : p.block < B) (v : Value) : Ow (w.setCell p v) B A n l :=
  ⟨h.len, h.byte, fun hn => by
    obtain ⟨b, e, hB, hlt, hc, hf⟩ := h.at_ hn
    have hk := Below.heap_setCell w p v b (by omega)
    exact ⟨b, e, hB, by rw [World.size_setCell]; exact hlt, fun i hi => (World.cell?_of_block (a := ⟨b, i, none⟩) hk).trans (hc i hi), fun i => (World.frozen?_of_block (a := ⟨b, i, none⟩) hk).trans (hf i)⟩⟩

theorem Ow.drew {w : World} {B n : Nat} {A : Option Addr} {l : List Int} (h : Ow w B A n l) : Ow w.drew B A n l := ⟨h.len, h.byte, h.at_⟩
theorem Ow.drewN {w : World} {B n : Nat} {A : Option Addr} {l : List Int} (h : Ow w B A n l) (k : Nat) : Ow (w.drewN k) B A n l := ⟨h.len, h.byte, h.at_⟩
theorem Ow.alloc {w : World} {B n : Nat} {A : Option Addr} {l : List Int} (h : Ow w B A n l) (o : Obj) : Ow (w.alloc o) B A n l := h.below ((Below.refl w.heap.size w).alloc (Nat.le_refl _) o) (Nat.le_refl _)
theorem Only.drew {w w' : World} {n : Nat} {A : Option Addr} (h : Only n A w w') : Only n A w w'.drew := ⟨h.os, h.tape, h.output, h.size, h.block⟩

theorem Ow.under {w w' : World} {B C n : Nat} {A : Option Addr} {l : List Int} (h : Ow w B A n l) (hb : Below C w w') (hA : 0 < n → ∀ a, A = some a → a.block < C) : Ow w' B A n l :=
  ⟨h.len, h.byte, fun hn => by
    obtain ⟨b, e, hB, hlt, hc, hf⟩ := h.at_ hn
    have hk := hb.block b (hA hn _ e)
    exact ⟨b, e, hB, Nat.lt_of_lt_of_le hlt hb.size, fun i hi => (World.cell?_of_block (a := ⟨b, i, none⟩) hk).trans (hc i hi), fun i => (World.frozen?_of_block (a := ⟨b, i, none⟩) hk).trans (hf i)⟩⟩

theorem info_u8 : (Try.prog.info? 5).map (fun i => (i.zero, i.size, i.bytes)) = some (some (.int .u8 0), 1, 1) := by kernel_rfl

theorem made_u8 (n : Nat) : madeCells (Value.int .u8 0).cells n = ((List.replicate n (0 : Int)).map (Value.int .u8)).toArray := by
  apply Array.ext
  · simp [madeCells]
  · intro i h1 h2
    have h3 : i < n := by simpa [madeCells] using h1
    simp [madeCells, Value.cells, Nat.mod_one]

theorem run_make_bytes (n : Nat) (hn : n ≤ 281474976710656) (w : World) :
    (Instr.makeSlice 23 (.int .i64 (n : Int)) (.int .i64 (n : Int))).run Try.prog w =
      .ok (.slice (some ⟨w.heap.size, 0, none⟩) n n) (w.alloc (.cells ((List.replicate n (0 : Int)).map (Value.int .u8)).toArray 5)) := by
  obtain ⟨i, hi, hz0, hz1, hz2⟩ := info_parts info_u8
  have hr := run_make (P := Try.prog) w 23 5 i _ Try.underlying23 hi hz0 .i64 .i64 n n (by omega) (by omega) (by rw [hz2]; omega) (by omega)
  simp only [Int.toNat_natCast, hz1, Nat.mul_one, made_u8] at hr
  exact hr

theorem Blk.made (w : World) (l : List Int) : Blk (w.alloc (.cells (l.map (Value.int .u8)).toArray 5)) w.heap.size l := heap_alloc_new w _

/-- k bytes copied, the rest zeros -/
def part (l : List Int) (n k : Nat) : List Int := l.take k ++ List.replicate (n - k) 0
theorem part_zero (l : List Int) (n : Nat) : part l n 0 = List.replicate n 0 := by simp [part]
theorem part_full (l : List Int) (n : Nat) (h : l.length = n) : part l n n = l := by simp [part, ← h]
theorem part_len (l : List Int) (n k : Nat) (h : l.length = n) (hk : k ≤ n) : (part l n k).length = n := by simp [part]; omega
theorem part_get (l : List Int) (n k i : Nat) (h : l.length = n) (hk : k ≤ n) : (part l n k)[i]? = if i < k then l[i]? else if i < n then some 0 else none := by
  unfold part
  by_cases hi : i < k
  · rw [List.getElem?_append_left (by rw [List.length_take]; omega), List.getElem?_take_of_lt hi, if_pos hi]
  · rw [List.getElem?_append_right (by rw [List.length_take]; omega), if_neg hi, List.getElem?_replicate, List.length_take]
    by_cases hn : i < n
    · rw [if_pos (by omega), if_pos hn]
    · rw [if_neg (by omega), if_neg hn]
theorem part_set (l : List Int) (n k : Nat) (h : l.length = n) (hk : k < n) : (part l n k).set k (l.getD k 0) = part l n (k + 1) := by
  apply List.ext_getElem?
  intro i
  rw [part_get l n (k + 1) i h (by omega)]
  rcases Nat.lt_trichotomy i k with hi | hi | hi
  · rw [List.getElem?_set_ne (by omega), part_get l n k i h (by omega), if_pos hi, if_pos (by omega)]
  · subst hi
    rw [List.getElem?_set_self (by rw [part_len l n i h (by omega)]; omega), if_pos (by omega)]
    simp [List.getD, List.getElem?_eq_getElem (show i < l.length by omega)]
  · rw [List.getElem?_set_ne (by omega), part_get l n k i h (by omega), if_neg (show ¬ i < k by omega), if_neg (show ¬ i < k + 1 by omega)]

/-- what is known of a slice of integers that came in -/
def IsRow (k : IntKind) (w : World) (a : Option Addr) (len cap : Nat) (zs : List Int) : Prop :=
  (a = none ∧ len = 0 ∧ cap = 0 ∧ zs = []) ∨
  ∃ x, a = some x ∧ len ≤ cap ∧ cap ≤ maxLen ∧ zs.length = cap ∧ (∀ i, i < zs.length → w.cell? (x.add i) = some (.int k (zs.getD i 0))) ∧ ∀ n ∈ zs, (Lit.int k n).wf = true

theorem byte_of_wf {x : Int} (h : (Lit.int .u8 x).wf = true) : 0 ≤ x ∧ x < 256 := by
  have : IntKind.u8.min ≤ x ∧ x ≤ IntKind.u8.max := by simpa [Lit.wf] using h
  have e1 : IntKind.u8.min = 0 := rfl
  have e2 : IntKind.u8.max = 255 := rfl
  omega

theorem IsRow.bs {w : World} {A : Option Addr} {n c : Nat} {zs : List Int} (h : IsRow .u8 w A n c zs) : Bs w A n (zs.take n) := by
  rcases h with ⟨rfl, rfl, rfl, rfl⟩ | ⟨x, rfl, hl, _, hz, hcell, hwz⟩
  · exact Bs.none_ w
  · refine ⟨by rw [List.length_take]; omega, fun y hy => byte_of_wf (hwz y (List.mem_of_mem_take hy)), fun hn => ?_⟩
    obtain ⟨b, off, spot⟩ := x
    have h0 := hcell 0 (by omega)
    have hspot : spot = none := by simpa [Addr.add] using World.cell?_spot h0
    subst hspot
    have hadd : ∀ j, (⟨b, off, none⟩ : Addr).add j = ⟨b, off + j, none⟩ := fun j => by unfold Addr.add; split <;> simp_all
    refine ⟨b, off, rfl, World.block_lt_of_cell? w _ (by rw [hadd] at h0; exact h0), fun i hi => ?_⟩
    have hc := hcell i (by omega)
    rw [hadd] at hc
    rw [hc]
    simp [List.getD, List.getElem?_take_of_lt hi]

theorem cell_one (w : World) (v : Value) (t : TypeId) : ∀ j u, [v][j]? = some u → (w.alloc (.cells #[v] t)).cell? ((⟨w.heap.size, 0, none⟩ : Addr).add j) = some u := by
  intro j u hj
  cases j with
  | zero =>
    simp at hj
    subst hj
    have h := cell_of_row (w.alloc (.cells #[v] t)) w.heap.size 0 #[v] t (0, 0) (heap_alloc_new w _)
    simp [Addr.add]
  | succ j => simp at hj

/-- a row of bytes, of the call's own from block B on, that is appended to -/
structure Row (w : World) (B : Nat) (v : Value) (l : List Int) : Prop where
  byte : By l
  own : w.ownsRow B 5 1 v l.length (l.map (Value.int .u8))

section
variable {w w' : World} {B : Nat} {v : Value} {l : List Int}
theorem Row.alloc (h : Row w B v l) (o : Obj) : Row (w.alloc o) B v l := ⟨h.byte, h.own.alloc o⟩
theorem Row.ow (h : Row w B v l) {n : Nat} (hn : l.length = n) : ∃ A c, v = .slice A n c ∧ Ow w B A n l := by
  subst hn
  rcases h.own.2 with ⟨rfl, hn⟩ | ⟨g, cap, cur, rfl, hB, hg, _, _, _, _⟩
  · rw [hn]
    exact ⟨none, 0, rfl, hn, h.byte, fun h0 => absurd h0 (by omega)⟩
  · refine ⟨_, cap, rfl, rfl, h.byte, fun _ => ⟨g, rfl, hB, (Array.getElem?_eq_some_iff.1 hg).1, fun i hi => ?_, fun i => ?_⟩⟩
    · have hc := h.own.cells (g := g) rfl i (.int .u8 (l.getD i 0)) (by simp [List.getD, List.getElem?_eq_getElem hi])
      have hadd : (⟨g, 0, none⟩ : Addr).add i = ⟨g, i, none⟩ := by unfold Addr.add; split <;> simp_all
      rwa [hadd] at hc
    · simp [World.frozen?, hg]
theorem Row.empty (w : World) (cur : Array Value) (hB : B ≤ w.heap.size) (hs : cur.size = 0) : Row (w.alloc (.cells cur 5)) B (.slice (some ⟨w.heap.size, 0, none⟩) 0 0) [] :=
  ⟨By.nil, World.ownsRow_made w cur 0 hB (by unfold maxLen; omega) (by omega)⟩
end

theorem wpList_row_append {ops : Array Oper} {rest : List Oper} {o : Oper} {a : Act} {Q : Exit → Act → World → Prop} (hgd : o.guard = none) (s x : Operand)
    (ho : o.op = .call { callee := .builtin .append, args := #[s, x], argTypes := #[23, 23] })
    (w : World) (B : Nat) (v : Value) (l : List Int) (hs : a.eval s = v) (hrow : Row w B v l) (hB : B ≤ w.heap.size)
    (ad : Addr) (c : Nat) (X : Int) (hx : a.eval x = .slice (some ad) 1 c) (hcell : ∀ j u, [Value.int .u8 X][j]? = some u → w.cell? (ad.add j) = some u)
    (hX0 : 0 ≤ X) (hX1 : X < 256) (hlen : l.length ≤ 140737488351232)
    (h : ∀ v' w', Row w' B v' (l ++ [X]) → Below B w w' → w.heap.size ≤ w'.heap.size → wpList Try.prog ops Q rest (a.put o.dst v') w') : wpList Try.prog ops Q (o :: rest) a w := by
  obtain ⟨i0, hi, hz0, hz1, hz2⟩ := info_parts info_u8
  refine wpList_append_own _ hgd s x 23 ho B 5 i0 (.int .u8 0) 1 1 Try.underlying23 hi hz0 hz1 hz2 rfl (by decide) v l.length _ hs hrow.own ad 1 c [.int .u8 X] hx rfl hcell
    (by simp [Value.oneCell']) (by unfold maxLen; omega) (by omega) hB ?_
  intro v' w' hown hgrow _
  refine h v' w' ⟨hrow.byte.append (fun y hy => by simp at hy; subst hy; exact ⟨hX0, hX1⟩), ?_⟩ ⟨hgrow.os, hgrow.tape, hgrow.output, hgrow.size, fun k hk => hgrow.block k (by omega) (fun e => ?_)⟩ hgrow.size
  · simpa using hown
  · have := (hrow.own.lt k e.symm).1
    omega

theorem Row.drew {w : World} {B : Nat} {v : Value} {l : List Int} (h : Row w B v l) : Row w.drew B v l := ⟨h.byte, h.own⟩

/-- the same as one step of a region that draws its order -/
theorem step_row_append {ops : Array Oper} {o : Oper} {a : Act} {K : Act → World → Prop} {Q : Exit → Act → World → Prop} {E : Prop} (hgd : o.guard = none) (s x : Operand)
    (ho : o.op = .call { callee := .builtin .append, args := #[s, x], argTypes := #[23, 23] })
    (w : World) (B : Nat) (v : Value) (l : List Int) (hs : a.eval s = v) (hrow : Row w B v l) (hB : B ≤ w.heap.size)
    (ad : Addr) (c : Nat) (X : Int) (hx : a.eval x = .slice (some ad) 1 c) (hcell : ∀ j u, [Value.int .u8 X][j]? = some u → w.cell? (ad.add j) = some u)
    (hX0 : 0 ≤ X) (hX1 : X < 256) (hlen : l.length ≤ 140737488351232)
    (h : ∀ v' w', Row w' B v' (l ++ [X]) → Below B w w' → w.heap.size ≤ w'.heap.size → K (a.put o.dst v') w') :
    if Region.wanted o (yielded ops a.tmps) = true then Oper.wp Try.prog o a w K Q else E := by
  have hw : Region.wanted o (yielded ops a.tmps) = true := by simp [Region.wanted, hgd]
  rw [if_pos hw]
  obtain ⟨i0, hi, hz0, hz1, hz2⟩ := info_parts info_u8
  refine wp_append_own w s x 23 ho B 5 i0 (.int .u8 0) 1 1 Try.underlying23 hi hz0 hz1 hz2 rfl (by decide) v l.length _ hs hrow.own ad 1 c [.int .u8 X] hx rfl hcell
    (by simp [Value.oneCell']) (by unfold maxLen; omega) (by omega) hB ?_
  intro v' w' hown hgrow _
  refine h v' w' ⟨hrow.byte.append (fun y hy => by simp at hy; subst hy; exact ⟨hX0, hX1⟩), ?_⟩ ⟨hgrow.os, hgrow.tape, hgrow.output, hgrow.size, fun k hk => hgrow.block k (by omega) (fun e => ?_)⟩ hgrow.size
  · simpa using hown
  · have := (hrow.own.lt k e.symm).1
    omega

/-- a result's own two cells, still there below a world in which blocks behind them were made and written -/
theorem two_cells {w wr : World} {a b : Value} {t : TypeId} (h : Below (w.heap.size + 1) (w.alloc (.cells #[a, b] t)) wr) :
    wr.cell? ⟨w.heap.size, 0, none⟩ = some a ∧ wr.cell? ⟨w.heap.size, 1, none⟩ = some b ∧ wr.frozen? ⟨w.heap.size, 0, none⟩ = false ∧ wr.frozen? ⟨w.heap.size, 1, none⟩ = false ∧ w.heap.size + 1 ≤ wr.heap.size := by
  have e := heap_alloc_new w (.cells #[a, b] t)
  have hk := (h.block w.heap.size (by omega)).trans e
  refine ⟨?_, ?_, by simp [World.frozen?, hk], by simp [World.frozen?, hk], by have := h.size; simpa using this⟩
  · have := cell_of_row wr w.heap.size 0 _ _ (0, 0) hk
    simpa using this
  · have := cell_of_row wr w.heap.size 1 _ _ (0, 0) hk
    simpa using this

/-- block b holds a struct's two cells -/
def Two (w : World) (b : Nat) (t : TypeId) (x y : Value) : Prop := w.heap[b]? = some (.cells #[x, y] t (0, 0))
theorem Two.cells {w : World} {b : Nat} {t : TypeId} {x y : Value} (h : Two w b t x y) :
    w.cell? ⟨b, 0, none⟩ = some x ∧ w.cell? ⟨b, 1, none⟩ = some y ∧ w.frozen? ⟨b, 0, none⟩ = false ∧ w.frozen? ⟨b, 1, none⟩ = false := by
  unfold Two at h
  refine ⟨?_, ?_, by simp [World.frozen?, h], by simp [World.frozen?, h]⟩
  · have := cell_of_row w b 0 _ _ (0, 0) h
    simpa using this
  · have := cell_of_row w b 1 _ _ (0, 0) h
    simpa using this
theorem Two.new (w : World) (t : TypeId) (x y : Value) : Two (w.alloc (.cells #[x, y] t)) w.heap.size t x y := heap_alloc_new w _
theorem Two.below {w w' : World} {b B : Nat} {t : TypeId} {x y : Value} (h : Two w b t x y) (hb : Below B w w') (hl : b < B) : Two w' b t x y := (hb.block b hl).trans h
theorem Two.alloc {w : World} {b : Nat} {t : TypeId} {x y : Value} (h : Two w b t x y) (o : Obj) (hl : b < w.heap.size) : Two (w.alloc o) b t x y := (Below.heap_alloc w o b hl).trans h
theorem Two.only {w w' : World} {b n : Nat} {A : Option Addr} {t : TypeId} {x y : Value} (h : Two w b t x y) (ho : Only n A w w') (hA : 0 < n → ∀ a, A = some a → a.block ≠ b) : Two w' b t x y := (ho.block b hA).trans h

/-- the answer with a code and bytes in memory of its own -/
def BytesAns (code : Int) (n : Nat) (l : List Int) (w : World) (e : Ending) (w' : World) : Prop :=
  (∃ A c, e = .returned (.agg #[.int .i64 code, .slice A n c]) ∧ Ow w' w.heap.size A n l) ∧ Below w.heap.size w w'

theorem Ow.nil_ (w : World) (B : Nat) : Ow w B none 0 [] := ⟨rfl, By.nil, fun h => absurd h (by omega)⟩

end Go.Proofs.Ytpaemmoopjkppaa

/-! BytesC -/
/- Contracts of the laws' own helpers on slices of bytes: the copy, the comparison, the marks. -/
namespace Go.Proofs.Ytpaemmoopjkppaa
open Go.RowKit

theorem zero_row (w : World) (n : Nat) : Blk (w.alloc (.cells (Array.replicate n (Value.int .u8 0)) 5)) w.heap.size (List.replicate n 0) := by
  have h := Blk.made w (List.replicate n 0)
  simpa using h

theorem toByteS_any (A : Option Addr) (n c : Nat) (l : List Int) (w : World) (h : Bs w A n l) (hn : n ≤ 140737488351232) :
    Calls Try.prog 40 #[.slice A n c] w fun e w' => e = .returned (.slice (some ⟨w.heap.size, 0, none⟩) n n) ∧ Blk w' w.heap.size l ∧ Below w.heap.size w w' := by
  have hmk := run_make_bytes n (by omega)
  have hl := h.len
  have Hl := Lib.hid hl
  clear hl
  go_enter Try.func40, Try.ntmps40
  go_wp2
  clear hmk
  go_loopw [4] (fun i wr => ∃ k : Nat, k ≤ n ∧ i = .int .i64 k ∧ Blk wr w.heap.size (part l n k) ∧ Below w.heap.size w wr) (fun i _ => n - (intOf i).toNat)
  case atStart =>
    refine ⟨0, Nat.zero_le _, rfl, ?_, ab (Below.refl _ _) _⟩
    rw [part_zero]
    exact zero_row w n
  case round =>
    obtain ⟨k, hk, rfl, hblk, hbel⟩ := hrel
    by_cases hlt : k < n
    · obtain ⟨b, off, rfl, hbs, hc⟩ := h.at_ (by omega)
      have hx := hc k hlt
      have hx' := (hbel.cell (p := ⟨b, off + k, none⟩) hbs).trans hx
      clear hx hc
      have hpl := part_len l n k Hl.out hk
      have hy := hblk.cell (i := k) (by omega)
      have hz := hblk.frozen k
      clear hpl
      go_wp2
      go_roundw
      case rel =>
        refine ⟨k + 1, by omega, by go_num, ?_, ae hbel (Nat.le_refl _) _⟩
        rw [← part_set l n k Hl.out hlt]
        exact hblk.set_ k _
      case measure => simp [intOf]; omega
    · obtain rfl : k = n := by omega
      go_wp2
      go_ret
      refine ⟨rfl, ?_, hbel⟩
      rw [← part_full l k Hl.out]
      exact hblk

theorem beq_u8 (a b : Int) : (a == b) = decide (a = b) := by rw [Bool.eq_iff_iff]; simp

/-- two slices of bytes are told apart just where they differ -/
theorem eqByteS_any (A B : Option Addr) (n c m d : Nat) (l r : List Int) (w : World) (h : Bs w A n l) (h' : Bs w B m r) (hn : n ≤ 140737488351232) (hm : m ≤ 140737488351232) :
    Calls Try.prog 52 #[.slice A n c, .slice B m d] w fun e w' => e = .returned (.bool (decide (l = r))) ∧ ∃ q, w' = w.drewN q := by
  have hl := h.len
  have hr := h'.len
  by_cases hnm : n = m
  · subst hnm
    have Hl := Lib.hid hl
    have Hr := Lib.hid hr
    clear hl hr
    go_enter Try.func52, Try.ntmps52
    go_wp2
    go_loopw [5] (fun i wr => ∃ k : Nat, k ≤ n ∧ i = .int .i64 k ∧ l.take k = r.take k ∧ ∃ q, wr = w.drewN q) (fun i _ => n - (intOf i).toNat)
    case atStart => exact ⟨0, Nat.zero_le _, rfl, rfl, 0, rfl⟩
    case round =>
      obtain ⟨k, hk, rfl, ht, q, rfl⟩ := hrel
      have Ht := Lib.hid ht
      clear ht
      by_cases hlt : k < n
      · obtain ⟨b, off, X, rfl, hbs, hX0, hX1, HX, hx⟩ := h.get hlt
        obtain ⟨b', off', Y, rfl, hbs', hY0, hY1, HY, hy⟩ := h'.get hlt
        by_cases he : X = Y
        · have Hs : Hid (l.take (k + 1) = r.take (k + 1)) := by
            show l.take (k + 1) = r.take (k + 1)
            have hkl : k < l.length := by have := Hl.out; omega
            have hkr : k < r.length := by have := Hr.out; omega
            rw [List.take_succ_eq_append_getElem hkl, List.take_succ_eq_append_getElem hkr, Ht.out]
            have e : l.getD k 0 = r.getD k 0 := HX.out.trans (he.trans HY.out.symm)
            simp [List.getD, List.getElem?_eq_getElem hkl, List.getElem?_eq_getElem hkr] at e
            rw [e]
          have hne : (X != Y) = false := by rw [he]; simp
          have He := Lib.hid he
          clear he
          go_wp2
          go_quiet (fail)
          go_wp2
          exact ⟨⟨k + 1, by omega, by go_num, Hs.out, _, rfl⟩, by simp [intOf]; omega⟩
        · have hne : (X != Y) = true := by simpa using he
          have Hs : Hid (l ≠ r) := fun hh => he (HX.out.symm.trans ((by rw [hh]) : l.getD k 0 = r.getD k 0) |>.trans HY.out)
          clear he
          go_wp2
          go_quiet (fail)
          go_wp2
          go_ret
          exact ⟨by simp [Hs.out], _, World.drewN_drewN _ _ _⟩
      · obtain rfl : k = n := by omega
        have Hs : Hid (l = r) := by
          have h0 := Ht.out
          rw [List.take_of_length_le (by rw [Hl.out]; exact Nat.le_refl _), List.take_of_length_le (by rw [Hr.out]; exact Nat.le_refl _)] at h0
          exact h0
        go_wp2
        go_ret
        exact ⟨by simp [Hs.out], _, rfl⟩
  · have hb : ((n : Int) != (m : Int)) = true := by rw [bne_iff_ne]; omega
    have Hs : Hid (l ≠ r) := fun hh => hnm (by rw [← hl, ← hr, hh])
    clear hl hr
    go_enter Try.func52, Try.ntmps52
    go_wp2
    go_ret
    exact ⟨by simp [Hs.out], 0, rfl⟩

/-- the marks from k on -/
def marks (k : Int) (n : Nat) : List Int := (List.range n).map fun i : Nat => (k + (i : Int)) % 256
theorem marks_len (k : Int) (n : Nat) : (marks k n).length = n := by simp [marks]
theorem marks_byte (k : Int) (n : Nat) : By (marks k n) := fun x hx => by
  simp only [marks, List.mem_map] at hx
  obtain ⟨i, _, rfl⟩ := hx
  omega
theorem marks_get (k : Int) (n i : Nat) (hi : i < n) : (marks k n).getD i 0 = (k + (i : Int)) % 256 := by
  simp [marks, List.getD, hi]

/-- the first j bytes marked -/
def markd (k : Int) (l : List Int) (j : Nat) : List Int := marks k j ++ l.drop j
theorem markd_zero (k : Int) (l : List Int) : markd k l 0 = l := by simp [markd, marks]
theorem markd_full (k : Int) (l : List Int) (n : Nat) (h : l.length = n) : markd k l n = marks k n := by simp [markd, ← h]
theorem markd_set (k : Int) (l : List Int) (j : Nat) (h : j < l.length) : (markd k l j).set j ((k + (j : Int)) % 256) = markd k l (j + 1) := by
  have e : marks k (j + 1) = marks k j ++ [(k + (j : Int)) % 256] := by simp [marks, List.range_succ]
  unfold markd
  rw [e, List.set_append, if_neg (by rw [marks_len]; omega), marks_len, Nat.sub_self, List.append_assoc, List.drop_eq_getElem_cons h]
  rfl

/-- the marks are laid into the slice's own block, and nowhere else -/
theorem markByteS_any (A : Option Addr) (n c B : Nat) (l : List Int) (k : Int) (w : World) (h : Ow w B A n l) (hk0 : 0 ≤ k) (hk1 : k ≤ 140737488351232) (hn : n ≤ 140737488351232) :
    Calls Try.prog 54 #[.slice A n c, .int .i64 k] w fun e w' => e = .returned (.int .i64 (k + (n : Int))) ∧ Ow w' B A n (marks k n) ∧ Only n A w w' := by
  have Hl := Lib.hid h.len
  go_enter Try.func54, Try.ntmps54
  go_wp2
  go_loopw [1, 5] (fun q i wr => ∃ j : Nat, j ≤ n ∧ i = .int .i64 j ∧ q = .int .i64 (k + (j : Int)) ∧ Ow wr B A n (markd k l j) ∧ Only n A w wr) (fun _ i _ => n - (intOf i).toNat)
  case atStart => exact ⟨0, Nat.zero_le _, rfl, by go_num, by rw [markd_zero]; exact h, Only.refl _ _ _⟩
  case round =>
    obtain ⟨j, hj, rfl, rfl, ho, hon⟩ := hrel
    by_cases hlt : j < n
    · obtain ⟨b, rfl, hB, hbl, hc, hf⟩ := ho.at_ (by omega)
      have hx := hc j hlt
      have hy := hf j
      clear hc hf
      go_wp2
      refine ⟨⟨j + 1, by omega, by go_num, by go_num, ?_, ?_⟩, by simp [intOf]; omega⟩
      · rw [← markd_set k l j (by rw [Hl.out]; exact hlt)]
        exact ho.set_ hlt (by omega) (by omega)
      · exact hon.set_ (by omega) _ _
    · obtain rfl : j = n := by omega
      go_wp2
      go_ret
      exact ⟨rfl, by rw [← markd_full k l j Hl.out]; exact ho, hon⟩

/-- the marks are found as they were laid -/
theorem heldByteS_any (A : Option Addr) (n c : Nat) (k : Int) (w : World) (h : Bs w A n (marks k n)) (hk0 : 0 ≤ k) (hk1 : k ≤ 140737488351232) (hn : n ≤ 140737488351232) :
    Calls Try.prog 93 #[.slice A n c, .int .i64 k] w fun e w' => e = .returned (.int .i64 (k + (n : Int))) ∧ w = w' := by
  go_enter Try.func93, Try.ntmps93
  go_wp2
  go_loop [1, 5] (fun q i => ∃ j : Nat, j ≤ n ∧ i = .int .i64 j ∧ q = .int .i64 (k + (j : Int))) (fun _ i => n - (intOf i).toNat)
  case atStart => exact ⟨0, Nat.zero_le _, rfl, by go_num⟩
  case round =>
    obtain ⟨j, hj, rfl, rfl⟩ := hrel
    by_cases hlt : j < n
    · obtain ⟨b, off, rfl, hbs, hc⟩ := h.at_ (by omega)
      have hx := hc j hlt
      rw [marks_get k n j hlt] at hx
      clear hc
      go_wp2
      exact ⟨⟨j + 1, by omega, by go_num, by go_num⟩, by simp [intOf]; omega⟩
    · obtain rfl : j = n := by omega
      go_wp2
      go_ret
      exact ⟨rfl, rfl⟩

end Go.Proofs.Ytpaemmoopjkppaa

/-! TurnC -/
/- Contracts of the functions that TurnWord's exact law calls. -/
namespace Go.Proofs.Ytpaemmoopjkppaa
open Go.RowKit

def wordB (n : Int) : Bool := decide (0 ≤ n ∧ n ≤ 4294967295)
def inB (v lo hi : Int) : Bool := decide (lo ≤ v ∧ v ≤ hi)
/-- the 32 bits of x gone round by b places -/
def turn (x b : Int) : Int := bits BinOp.or IntKind.u32 (x * 2 ^ b.toNat % 4294967296) (x / 2 ^ (32 - b).toNat)

theorem In_any (v lo hi : Int) (w : World) :
    Calls Try.prog 81 #[.int .i64 v, .int .i64 lo, .int .i64 hi] w fun e w' => e = .returned (.bool (inB v lo hi)) ∧ w = w' := by
  by_cases h1 : lo ≤ v
  · go_enter Try.func81, Try.ntmps81
    go_wp2
    go_ret
    exact ⟨by simp [inB, h1], rfl⟩
  · have h2 : ¬ (lo ≤ v ∧ v ≤ hi) := fun h => h1 h.1
    go_enter Try.func81, Try.ntmps81
    go_wp2
    go_ret
    exact ⟨by simp [inB]; omega, rfl⟩

theorem turn_bd (x b : Int) (hx0 : 0 ≤ x) (hx1 : x ≤ 4294967295) (hb : 0 ≤ b) (hb1 : b ≤ 31) : 0 ≤ turn x b ∧ turn x b ≤ 4294967295 := by
  obtain ⟨b, rfl⟩ := Int.eq_ofNat_of_zero_le hb
  obtain ⟨x, rfl⟩ := Int.eq_ofNat_of_zero_le hx0
  have h0 : 0 ≤ (x : Int) / 2 ^ (32 - (b : Int)).toNat := Int.ediv_nonneg (by omega) (Int.le_of_lt (Int.pow_pos (by omega)))
  have h1 : (x : Int) / 2 ^ (32 - (b : Int)).toNat ≤ x := Int.ediv_le_self _ (by omega)
  unfold turn
  rw [u32_or _ _ (Int.emod_nonneg _ (by omega)) (Int.emod_lt_of_pos _ (by omega)) h0 (by omega)]
  have := Nat.or_lt_two_pow (n := 32) (x := ((x : Int) * 2 ^ (b : Int).toNat % 4294967296).toNat) (y := ((x : Int) / 2 ^ (32 - (b : Int)).toNat).toNat) (by omega) (by omega)
  omega

/-- what both functions answer -/
def tcode (x b : Int) : Int := if wordB x && inB b 0 31 then 0 else 3
def tval (x b : Int) : Int := if wordB x && inB b 0 31 then turn x b else 0

end Go.Proofs.Ytpaemmoopjkppaa

/-! ReadC -/
/- ReadHigh, of the program and of the model. -/
namespace Go.Proofs.Ytpaemmoopjkppaa
open Go.RowKit

def hiStep (a x : Int) : Int := a * 256 + x
/-- the number of bytes, the highest one first -/
def hi (l : List Int) : Int := l.foldl hiStep 0

theorem hi_snoc (l : List Int) (x : Int) : hi (l ++ [x]) = hi l * 256 + x := by simp [hi, hiStep]
theorem hi_bd (l : List Int) (h : By l) : 0 ≤ hi l ∧ hi l < 256 ^ l.length := by
  have key : ∀ (l : List Int) (a b : Int), By l → 0 ≤ a → a < b → 0 ≤ l.foldl hiStep a ∧ l.foldl hiStep a < b * 256 ^ l.length := by
    intro l
    induction l with
    | nil => intro a b _ h0 h1; simp; omega
    | cons x l ih =>
      intro a b hb h0 h1
      have hx := hb x (by simp)
      have := ih (hiStep a x) (b * 256) (fun y hy => hb y (by simp [hy])) (by unfold hiStep; omega) (by unfold hiStep; omega)
      simpa [Int.pow_succ, Int.mul_assoc, Int.mul_comm, Int.mul_left_comm] using this
  have := key l 0 1 h (by omega) (by omega)
  simpa [hi] using this

theorem hi_take_bd (l : List Int) (h : By l) (k : Nat) (hk : k ≤ 6) : 0 ≤ hi (l.take k) ∧ hi (l.take k) < 281474976710656 := by
  have h1 := hi_bd (l.take k) (fun x hx => h x (List.mem_of_mem_take hx))
  have h2 : ∀ m : Nat, m < 7 → (256 : Int) ^ m ≤ 281474976710656 := by decide
  have h3 := h2 (l.take k).length (by have := List.length_take_le k l; omega)
  omega

theorem take_hi (l : List Int) (k : Nat) (h : k < l.length) : hi (l.take (k + 1)) = hi (l.take k) * 256 + l.getD k 0 := by
  rw [List.take_succ_eq_append_getElem h, hi_snoc]
  simp [List.getD, List.getElem?_eq_getElem h]

theorem or_i64 (a b : Nat) (ha : a < 9223372036854775808) (hb : b < 9223372036854775808) : bits BinOp.or IntKind.i64 (a : Int) (b : Int) = ((a ||| b : Nat) : Int) := by
  have back : ∀ n : Nat, n < 9223372036854775808 → (BitVec.ofInt 64 (n : Int)).toNat = n := by
    intro n hn
    rw [BitVec.ofInt_natCast, BitVec.toNat_ofNat]
    exact Nat.mod_eq_of_lt (by omega)
  have hx : a ||| b < 2 ^ 63 := Nat.or_lt_two_pow (by omega) (by omega)
  show IntKind.i64.wrap ((BitVec.ofInt 64 (a : Int) ||| BitVec.ofInt 64 (b : Int)).toNat : Int) = _
  rw [BitVec.toNat_or, back a ha, back b hb]
  exact IntWalk.i64_in _ (by omega)

/-- a byte put below a number: their bits do not meet -/
theorem or_byte (a x : Int) (ha0 : 0 ≤ a) (ha1 : a < 281474976710656) (hx0 : 0 ≤ x) (hx1 : x < 256) : bits BinOp.or IntKind.i64 (a * 256) x = a * 256 + x := by
  obtain ⟨a, rfl⟩ := Int.eq_ofNat_of_zero_le ha0
  obtain ⟨x, rfl⟩ := Int.eq_ofNat_of_zero_le hx0
  have e : ((a : Int) * 256) = ((a * 256 : Nat) : Int) := by omega
  have h := Nat.shiftLeft_add_eq_or_of_lt (i := 8) (b := x) (by omega) a
  rw [Nat.shiftLeft_eq] at h
  rw [e, or_i64 _ _ (by omega) (by omega), ← h]
  rfl

def rcode (n : Nat) : Int := if 1 ≤ n ∧ n ≤ 7 then 0 else 2
def rhigh (l : List Int) : Int := if 1 ≤ l.length ∧ l.length ≤ 7 then hi l else 0

end Go.Proofs.Ytpaemmoopjkppaa

/-! BackC -/
/- Bytes turned round: the model's copy, and slices.Reverse in place. -/
namespace Go.Proofs.Ytpaemmoopjkppaa
open Go.RowKit

theorem drop_rev (l : List Int) (k : Nat) (h : k < l.length) : (l.drop (k + 1)).reverse ++ [l.getD k 0] = (l.drop k).reverse := by
  rw [List.drop_eq_getElem_cons h, List.reverse_cons]
  simp [List.getD, List.getElem?_eq_getElem h]

/-- the first k and the last k bytes turned round -/
def mirr (l : List Int) (n k : Nat) : List Int := (List.range n).map fun i => if i < k ∨ n - k ≤ i then l.getD (n - 1 - i) 0 else l.getD i 0
theorem mirr_len (l : List Int) (n k : Nat) : (mirr l n k).length = n := by simp [mirr]
theorem mirr_get (l : List Int) (n k i : Nat) : (mirr l n k)[i]? = if i < n then some (if i < k ∨ n - k ≤ i then l.getD (n - 1 - i) 0 else l.getD i 0) else none := by
  unfold mirr
  by_cases hi : i < n
  · rw [if_pos hi, List.getElem?_map, List.getElem?_range hi]; rfl
  · rw [if_neg hi, List.getElem?_eq_none (by simp; omega)]
theorem mirr_mid (l : List Int) (n k i : Nat) (hi : i < n) (h1 : k ≤ i) (h2 : i < n - k) : (mirr l n k).getD i 0 = l.getD i 0 := by
  have h := mirr_get l n k i
  rw [if_pos hi, if_neg (by omega)] at h
  rw [List.getD, h]; rfl
theorem mirr_zero (l : List Int) (n : Nat) (h : l.length = n) : mirr l n 0 = l := by
  apply List.ext_getElem?
  intro i
  rw [mirr_get]
  by_cases hi : i < n
  · rw [if_pos hi, if_neg (by omega)]
    simp [List.getD, List.getElem?_eq_getElem (show i < l.length by omega)]
  · rw [if_neg hi, List.getElem?_eq_none (by omega)]
theorem mirr_done (l : List Int) (n k : Nat) (h : l.length = n) (hk : n ≤ 2 * k + 1) : mirr l n k = l.reverse := by
  apply List.ext_getElem?
  intro i
  rw [mirr_get]
  by_cases hi : i < n
  · rw [if_pos hi, List.getElem?_reverse (by omega), h]
    by_cases hm : i < k ∨ n - k ≤ i
    · rw [if_pos hm]
      simp [List.getD, List.getElem?_eq_getElem (show n - 1 - i < l.length by omega)]
    · rw [if_neg hm]
      have e : n - 1 - i = i := by omega
      rw [e]
      simp [List.getD, List.getElem?_eq_getElem (show i < l.length by omega)]
  · rw [if_neg hi, List.getElem?_eq_none (by rw [List.length_reverse]; omega)]
theorem mirr_swap (l : List Int) (n k j : Nat) (hj : k + j + 1 = n) (hkj : k < j) : ((mirr l n k).set k (l.getD j 0)).set j (l.getD k 0) = mirr l n (k + 1) := by
  apply List.ext_getElem?
  intro i
  rw [mirr_get]
  by_cases hi : i < n
  · rw [if_pos hi]
    by_cases e1 : i = j
    · subst e1
      rw [List.getElem?_set_self (by rw [List.length_set, mirr_len]; exact hi), if_pos (by omega)]
      congr 2; omega
    · rw [List.getElem?_set_ne (by omega)]
      by_cases e2 : i = k
      · subst e2
        rw [List.getElem?_set_self (by rw [mirr_len]; exact hi), if_pos (by omega)]
        congr 2; omega
      · rw [List.getElem?_set_ne (by omega), mirr_get, if_pos hi]
        by_cases hm : i < k ∨ n - k ≤ i
        · rw [if_pos hm, if_pos (by omega)]
        · rw [if_neg hm, if_neg (by omega)]
  · rw [if_neg hi, List.getElem?_eq_none (by rw [List.length_set, List.length_set, mirr_len]; omega)]

end Go.Proofs.Ytpaemmoopjkppaa

/-! Box -/
/- Boxes: a block of one cell; a loop's own object that is put. -/
namespace Go.Proofs.Ytpaemmoopjkppaa
open Go.RowKit

theorem one_new (W : World) (v : Value) (t : TypeId) : (W.alloc (.cells #[v] t)).cell? ⟨W.heap.size, 0, none⟩ = some v ∧ (W.alloc (.cells #[v] t)).frozen? ⟨W.heap.size, 0, none⟩ = false := by
  have e := heap_alloc_new W (.cells #[v] t)
  have f : ∀ (w' : World) (b : Nat), w'.heap[b]? = some (.cells #[v] t (0, 0)) → w'.frozen? ⟨b, 0, none⟩ = false := fun w' b h => by simp [World.frozen?, h]
  have g : ∀ (w' : World) (b : Nat), w'.heap[b]? = some (.cells #[v] t (0, 0)) → w'.cell? ⟨b, 0, none⟩ = some v := fun w' b h => by
    have := cell_of_row w' b 0 _ _ (0, 0) h
    simpa using this
  exact ⟨g _ _ e, f _ _ e⟩
theorem cell_past {W : World} {a : Addr} {v : Value} (o : Obj) (h : W.cell? a = some v) : (W.alloc o).cell? a = some v :=
  (World.cell?_of_block (Below.heap_alloc W o a.block (World.block_lt_of_cell? W a h))).trans h
theorem frozen_past {W : World} {a : Addr} {v : Value} (o : Obj) (h : W.cell? a = some v) (hf : W.frozen? a = false) : (W.alloc o).frozen? a = false :=
  (World.frozen?_of_block (Below.heap_alloc W o a.block (World.block_lt_of_cell? W a h))).trans hf

theorem putObj_other (W : World) (l : Nat) (o : Obj) (k : Nat) (h : k ≠ l) : (W.putObj l o).heap[k]? = W.heap[k]? := by
  simp only [World.putObj]
  rw [Array.getElem?_setIfInBounds_ne (by omega)]
end Go.Proofs.Ytpaemmoopjkppaa

/-! KMem -/
/- Blocks of numbers of one kind (words, whole numbers), known whole. -/
namespace Go.Proofs.Ytpaemmoopjkppaa
open Go.RowKit

/-- block b holds just the numbers l of kind k, none frozen -/
def KB (k : IntKind) (t : TypeId) (w : World) (b : Nat) (l : List Int) : Prop := w.heap[b]? = some (.cells (l.map (Value.int k)).toArray t (0, 0))

section
variable {k : IntKind} {t : TypeId} {w w' : World} {b : Nat} {l : List Int}
theorem KB.lt (h : KB k t w b l) : b < w.heap.size := by
  rcases Nat.lt_or_ge b w.heap.size with hlt | hge
  · exact hlt
  · unfold KB at h; rw [Array.getElem?_eq_none hge] at h; cases h
theorem KB.cell (h : KB k t w b l) {i : Nat} (hi : i < l.length) : w.cell? ⟨b, i, none⟩ = some (.int k (l.getD i 0)) := by
  rw [cell_of_row w b i _ _ (0, 0) h]
  simp [List.getD, List.getElem?_eq_getElem hi]
theorem KB.frozen (h : KB k t w b l) (i : Nat) : w.frozen? ⟨b, i, none⟩ = false := by
  unfold KB at h; simp [World.frozen?, h]
theorem KB.keep (h : KB k t w b l) (e : w'.heap[b]? = w.heap[b]?) : KB k t w' b l := e.trans h
theorem KB.below {B : Nat} (h : KB k t w b l) (hb : Below B w w') (hl : b < B) : KB k t w' b l := h.keep (hb.block b hl)
theorem KB.drew (h : KB k t w b l) : KB k t w.drew b l := h
theorem KB.drewN (h : KB k t w b l) (q : Nat) : KB k t (w.drewN q) b l := h
theorem KB.alloc (h : KB k t w b l) (o : Obj) : KB k t (w.alloc o) b l := h.keep (Below.heap_alloc w o b h.lt)
theorem KB.far (h : KB k t w b l) {p : Addr} (hp : b ≠ p.block) (v : Value) : KB k t (w.setCell p v) b l := h.keep (Below.heap_setCell w p v b hp)
theorem KB.set_ (h : KB k t w b l) (i : Nat) (x : Int) : KB k t (w.setCell ⟨b, i, none⟩ (.int k x)) b (l.set i x) := by
  unfold KB at h ⊢
  simp [World.setCell, Array.getElem?_modify, h, List.map_set]
theorem KB.new (w : World) (l : List Int) (cs : Array Value) (hcs : cs = (l.map (Value.int k)).toArray) : KB k t (w.alloc (.cells cs t)) w.heap.size l := by
  subst hcs; exact heap_alloc_new w _
end

/-- a list with zeros behind it, n in all -/
def padded (l : List Int) (n : Nat) : List Int := l ++ List.replicate (n - l.length) 0
theorem padded_len (l : List Int) (n : Nat) (h : l.length ≤ n) : (padded l n).length = n := by simp [padded]; omega
theorem padded_nil (n : Nat) : padded [] n = List.replicate n 0 := by simp [padded]
theorem padded_full (l : List Int) (n : Nat) (h : l.length = n) : padded l n = l := by simp [padded, h]
theorem padded_get (l : List Int) (n i : Nat) (h : i < l.length) : (padded l n).getD i 0 = l.getD i 0 := by
  simp [padded, List.getD, List.getElem?_append_left h]
theorem padded_set (l : List Int) (n : Nat) (x : Int) (h : l.length < n) : (padded l n).set l.length x = padded (l ++ [x]) n := by
  unfold padded
  rw [List.set_append, if_neg (by omega), Nat.sub_self, List.append_assoc]
  congr 1
  obtain ⟨m, hm⟩ : ∃ m, n - l.length = m + 1 := ⟨n - l.length - 1, by omega⟩
  rw [hm, List.replicate_succ, List.set_cons_zero, List.length_append, show n - (l.length + [x].length) = m by simp; omega]
  rfl

theorem info_u32 : (Try.prog.info? 177).map (fun i => (i.zero, i.size, i.bytes)) = some (some (.int .u32 0), 1, 4) := by kernel_rfl

theorem made_one (z : Value) (hz : z.cells = #[z]) (n : Nat) : madeCells z.cells n = Array.replicate n z := by
  apply Array.ext
  · simp [madeCells]
  · intro i h1 h2
    simp [madeCells, hz, Nat.mod_one]

/-- n words that are zero, as make lays them -/
def zeroWords (n : Nat) : Array Value := Array.replicate n (.int .u32 0)
theorem zeroWords_eq (n : Nat) : zeroWords n = ((List.replicate n (0 : Int)).map (Value.int .u32)).toArray := by simp [zeroWords]

/-- a part of a slice of bytes -/
theorem Bs.part_ {w : World} {b off n : Nat} {l : List Int} (h : Bs w (some ⟨b, off, none⟩) n l) (i m : Nat) (hm : i + m ≤ n) : Bs w (some ⟨b, off + i, none⟩) m ((l.drop i).take m) := by
  refine ⟨by rw [List.length_take, List.length_drop, h.len]; omega, fun x hx => h.byte x (List.mem_of_mem_drop (List.mem_of_mem_take hx)), fun hp => ?_⟩
  obtain ⟨b', off', e, hb, hcell⟩ := h.at_ (by omega)
  injection e with e
  injection e with e1 e2
  subst e1 e2
  refine ⟨b, off + i, rfl, hb, fun q hq => ?_⟩
  have hcq := hcell (i + q) (by omega)
  rw [show off + (i + q) = off + i + q by omega] at hcq
  rw [hcq]
  simp [List.getD, List.getElem?_take_of_lt hq, List.getElem?_drop]

/-- n numbers of kind k at block b, of the call's own -/
structure KOw (k : IntKind) (w : World) (b : Nat) (l : List Int) : Prop where
  lt : b < w.heap.size
  cell : ∀ i, i < l.length → w.cell? ⟨b, i, none⟩ = some (.int k (l.getD i 0))
  frozen : ∀ i, w.frozen? ⟨b, i, none⟩ = false

section
variable {k : IntKind} {w w' : World} {b : Nat} {l : List Int}
theorem KB.kow {t : TypeId} (h : KB k t w b l) : KOw k w b l := ⟨h.lt, fun _ hi => h.cell hi, h.frozen⟩
theorem KOw.keep (h : KOw k w b l) (e : w'.heap[b]? = w.heap[b]?) (hs : w.heap.size ≤ w'.heap.size) : KOw k w' b l :=
  ⟨Nat.lt_of_lt_of_le h.lt hs, fun i hi => (World.cell?_of_block (a := ⟨b, i, none⟩) e).trans (h.cell i hi), fun i => (World.frozen?_of_block (a := ⟨b, i, none⟩) e).trans (h.frozen i)⟩
theorem KOw.below {B : Nat} (h : KOw k w b l) (hb : Below B w w') (hl : b < B) : KOw k w' b l := h.keep (hb.block b hl) hb.size
theorem KOw.drewN (h : KOw k w b l) (q : Nat) : KOw k (w.drewN q) b l := ⟨h.lt, h.cell, h.frozen⟩
theorem KOw.drew (h : KOw k w b l) : KOw k w.drew b l := ⟨h.lt, h.cell, h.frozen⟩
theorem KOw.alloc (h : KOw k w b l) (o : Obj) : KOw k (w.alloc o) b l := h.keep (Below.heap_alloc w o b h.lt) (by simp)
theorem KOw.far (h : KOw k w b l) {p : Addr} (hp : b ≠ p.block) (v : Value) : KOw k (w.setCell p v) b l := h.keep (Below.heap_setCell w p v b hp) (by simp)
theorem KOw.set_ (h : KOw k w b l) (i : Nat) (hi : i < l.length) (x : Int) : KOw k (w.setCell ⟨b, i, none⟩ (.int k x)) b (l.set i x) := by
  refine ⟨by rw [World.size_setCell]; exact h.lt, fun j hj => ?_, fun j => by rw [World.frozen?_setCell]; exact h.frozen j⟩
  rw [List.length_set] at hj
  by_cases hij : i = j
  · subst hij
    rw [World.cell?_setCell_same (h := h.cell i hi)]
    simp [List.getD, List.getElem?_set_self hi]
  · rw [World.cell?_setCell_other (h := by intro e; injection e with _ e2; exact hij e2), h.cell j hj]
    simp [List.getD, List.getElem?_set_ne hij]
end

end Go.Proofs.Ytpaemmoopjkppaa

/-! PackC -/
/- PackLow, of the program and of the model. -/
namespace Go.Proofs.Ytpaemmoopjkppaa
open Go.RowKit

/-- the lowest k bytes of n, the lowest first -/
def lowOf (n : Int) (k : Nat) : List Int := (List.range k).map fun i : Nat => n / 256 ^ i % 256
theorem lowOf_len (n : Int) (k : Nat) : (lowOf n k).length = k := by simp [lowOf]
theorem lowOf_byte (n : Int) (k : Nat) : By (lowOf n k) := fun x hx => by
  simp only [lowOf, List.mem_map] at hx
  obtain ⟨i, _, rfl⟩ := hx
  omega
theorem lowOf_succ (n : Int) (k : Nat) : lowOf n (k + 1) = lowOf n k ++ [n / 256 ^ k % 256] := by simp [lowOf, List.range_succ]
theorem div_succ (n : Int) (k : Nat) : n / 256 ^ k / 256 = n / 256 ^ (k + 1) := by
  rw [Int.ediv_ediv_of_nonneg (Int.le_of_lt (Int.pow_pos (by omega))), Int.pow_succ]

/-- n fits into size bytes -/
def fitB (n size : Int) : Bool := decide (1 ≤ size ∧ size ≤ 7 ∧ 0 ≤ n ∧ n < 256 ^ size.toNat)

theorem lowOf_lt (n : Int) (k : Nat) (h : 0 ≤ n) : n / 256 ^ k = 0 ↔ n < 256 ^ k := by
  have hp : (0 : Int) < 256 ^ k := Int.pow_pos (by omega)
  constructor
  · intro e
    have := Int.lt_ediv_add_one_mul_self n hp
    rw [e] at this
    omega
  · exact fun hlt => Int.ediv_eq_zero_of_lt h hlt

theorem lowOf_get (n : Int) (m k : Nat) (hk : k < m) : (lowOf n m).getD k 0 = n / 256 ^ k % 256 := by simp [lowOf, List.getD, hk]

theorem pow8 (k : Nat) : (2 : Int) ^ (8 * k) = 256 ^ k := by rw [Int.pow_mul]; rfl

/-- what PackLow answers -/
def pcode (n size : Int) : Int := if fitB n size then 0 else 3
def plow (n size : Int) : List Int := if fitB n size then lowOf n size.toNat else []
def plen (n size : Int) : Nat := if fitB n size then size.toNat else 0
theorem plow_len (n size : Int) : (plow n size).length = plen n size := by unfold plow plen; split <;> simp [lowOf_len]
theorem plow_byte (n size : Int) : By (plow n size) := by unfold plow; split; exact lowOf_byte _ _; exact By.nil

theorem plen_le (n size : Int) : plen n size ≤ 7 := by
  unfold plen
  split
  · rename_i h; simp [fitB] at h; omega
  · omega

theorem i64_of_wf {x : Int} (h : (Lit.int .i64 x).wf = true) : -9223372036854775808 ≤ x ∧ x ≤ 9223372036854775807 := by
  have : IntKind.i64.min ≤ x ∧ x ≤ IntKind.i64.max := by simpa [Lit.wf] using h
  exact this
end Go.Proofs.Ytpaemmoopjkppaa

/-! PackD -/
/- PackLow of the model; PackHigh of both. -/
namespace Go.Proofs.Ytpaemmoopjkppaa
open Go.RowKit

def phigh (n size : Int) : List Int := (plow n size).reverse

end Go.Proofs.Ytpaemmoopjkppaa

/-! CopyC -/
/- The builtin copy, of bytes, into a block of the call's own. -/
namespace Go.Proofs.Ytpaemmoopjkppaa
open Go.RowKit

/-- a fact that the walk does not look into -/
structure Shut (p : Prop) : Prop where
  out : p

/-- cells of n zero bytes -/
def zeroB (n : Nat) : Array Value := ((List.replicate n (0 : Int)).map (Value.int .u8)).toArray
theorem Blk.zeroB (w : World) (n : Nat) : Blk (w.alloc (.cells (zeroB n) 5)) w.heap.size (List.replicate n 0) := Blk.made w _

/-- r put over a list, from place off on -/
def laidOver (L : List Int) (off : Nat) (r : List Int) : List Int := L.take off ++ (r ++ L.drop (off + r.length))
theorem laidOver_len (L r : List Int) (off : Nat) (h : off + r.length ≤ L.length) : (laidOver L off r).length = L.length := by
  simp [laidOver]; omega

theorem size_u8 : (Try.prog.info? 5).map (·.size) = some 1 := by kernel_rfl

theorem splice_over (L r : List Int) (off : Nat) : splice (L.map (Value.int .u8)) off (r.map (Value.int .u8)) = (laidOver L off r).map (Value.int .u8) := by
  simp [splice, laidOver, List.map_take, List.map_drop]

theorem bs_src {w : World} {A : Option Addr} {n : Nat} {r : List Int} (h : Bs w A n r) : ∀ ad, A = some ad → ∀ j v, (r.map (Value.int .u8))[j]? = some v → w.cell? (ad.add j) = some v := by
  intro ad hA j u hu
  have hj : j < r.length := by
    rcases Nat.lt_or_ge j r.length with h1 | h1
    · exact h1
    · rw [List.getElem?_eq_none (by simpa using h1)] at hu; cases hu
  obtain ⟨b, off, e, _, hc⟩ := h.at_ (by have := h.len; omega)
  rw [hA] at e
  injection e with e
  subst e
  have hadd : (⟨b, off, none⟩ : Addr).add j = ⟨b, off + j, none⟩ := by unfold Addr.add; split <;> simp_all
  rw [hadd, hc j (by have := h.len; omega)]
  rw [List.getElem?_map, List.getElem?_eq_getElem hj] at hu
  simpa [List.getD, List.getElem?_eq_getElem hj] using hu

theorem wpList_copyb {ops : Array Oper} {rest : List Oper} {o : Oper} {a : Act} {Q : Exit → Act → World → Prop} (hgd : o.guard = none) (d s : Operand)
    (ho : o.op = .call { callee := .builtin .copy, args := #[d, s], argTypes := #[23, 23] })
    (w : World) (g off dLen dCap : Nat) (A : Option Addr) (n c : Nat) (L r : List Int) (hd : a.eval d = .slice (some ⟨g, off, none⟩) dLen dCap) (hs : a.eval s = .slice A n c)
    (hL : Blk w g L) (hr : Bs w A n r) (hnd : n ≤ dLen) (hfit : off + n ≤ L.length) (B : Nat) (w0 : World) (hb : Below B w0 w) (hBg : B ≤ g)
    (h : ∀ w', Blk w' g (laidOver L off r) → Below B w0 w' → wpList Try.prog ops Q rest (a.put o.dst (goInt n)) w') : wpList Try.prog ops Q (o :: rest) a w := by
  have hl := hr.len
  refine wpList_copy_splice hgd d s _ _ ho 5 Try.underlying23 size_u8 _ A dLen dCap n c hd hs g off (L.map (Value.int .u8)) 5 hL (r.map (Value.int .u8))
    (by rw [List.length_map, hl]; exact (Nat.min_eq_left hnd).symm) (fun hp => ⟨rfl, ?_⟩) (by simpa [hl] using hfit) (fun u hu => by obtain ⟨y, _, rfl⟩ := List.mem_map.1 hu; rfl) B w0 hb hBg ?_
  · obtain ⟨b, of, e, _⟩ := hr.at_ (by simpa [hl] using hp)
    exact ⟨_, e, bs_src hr _ e⟩
  · intro w' hh hb'
    rw [List.length_map, hl]
    exact h w' (by have := hh.out; rw [splice_over] at this; exact this) hb'

theorem step_copyb {ops : Array Oper} {o : Oper} {a : Act} {K : Act → World → Prop} {Q : Exit → Act → World → Prop} {E : Prop} (hgd : o.guard = none) (d s : Operand)
    (ho : o.op = .call { callee := .builtin .copy, args := #[d, s], argTypes := #[23, 23] })
    (w : World) (g off dLen dCap : Nat) (A : Option Addr) (n c : Nat) (L r : List Int) (hd : a.eval d = .slice (some ⟨g, off, none⟩) dLen dCap) (hs : a.eval s = .slice A n c)
    (hL : Blk w g L) (hr : Bs w A n r) (hnd : n ≤ dLen) (hfit : off + n ≤ L.length) (B : Nat) (w0 : World) (hb : Below B w0 w) (hBg : B ≤ g)
    (h : ∀ w', Blk w' g (laidOver L off r) → Below B w0 w' → K (a.put o.dst (goInt n)) w') : if Region.wanted o (yielded ops a.tmps) = true then Oper.wp Try.prog o a w K Q else E := by
  have hl := hr.len
  refine step_copy_splice hgd d s _ _ ho 5 Try.underlying23 size_u8 _ A dLen dCap n c hd hs g off (L.map (Value.int .u8)) 5 hL (r.map (Value.int .u8))
    (by rw [List.length_map, hl]; exact (Nat.min_eq_left hnd).symm) (fun hp => ⟨rfl, ?_⟩) (by simpa [hl] using hfit) (fun u hu => by obtain ⟨y, _, rfl⟩ := List.mem_map.1 hu; rfl) B w0 hb hBg ?_
  · obtain ⟨b, of, e, _⟩ := hr.at_ (by simpa [hl] using hp)
    exact ⟨_, e, bs_src hr _ e⟩
  · intro w' hh hb'
    rw [List.length_map, hl]
    exact h w' (by have := hh.out; rw [splice_over] at this; exact this) hb'
end Go.Proofs.Ytpaemmoopjkppaa

/-! DrawC -/
/- The draws of chapter 1: each answers something within its bounds. -/
namespace Go.Proofs.Ytpaemmoopjkppaa
open Go.RowKit

theorem emod_lt' (a m : Int) (h : 1 ≤ m) : a % m < m := Int.emod_lt_of_pos _ (by omega)
theorem emod_nn (a m : Int) (h : 1 ≤ m) : 0 ≤ a % m := Int.emod_nonneg _ (by omega)

/-- nothing below B but block p has turned -/
structure But (p B : Nat) (w w' : World) : Prop where
  os : w'.os = w.os
  tape : w'.tape = w.tape
  output : w'.output = w.output
  size : w.heap.size ≤ w'.heap.size
  block : ∀ k, k < B → k ≠ p → w'.heap[k]? = w.heap[k]?
section
variable {p B : Nat} {w w' w2 : World}
theorem But.refl (p B : Nat) (w : World) : But p B w w := ⟨rfl, rfl, rfl, Nat.le_refl _, fun _ _ _ => rfl⟩
theorem But.trans (h : But p B w w') (k : But p B w' w2) : But p B w w2 := ⟨k.os.trans h.os, k.tape.trans h.tape, k.output.trans h.output, Nat.le_trans h.size k.size, fun i hi hp => (k.block i hi hp).trans (h.block i hi hp)⟩
theorem But.of_below (h : Below B w w') : But p B w w' := ⟨h.os, h.tape, h.output, h.size, fun k hk _ => h.block k hk⟩
theorem But.mono {C : Nat} (h : But p B w w') (hC : C ≤ B) : But p C w w' := ⟨h.os, h.tape, h.output, h.size, fun k hk hp => h.block k (by omega) hp⟩
theorem But.below {C : Nat} (h : But p B w w') (hC : C ≤ B) (hp : C ≤ p) : Below C w w' := ⟨h.os, h.tape, h.output, h.size, fun k hk => h.block k (by omega) (by omega)⟩
theorem But.drewN (h : But p B w w') (n : Nat) : But p B w (w'.drewN n) := ⟨h.os, h.tape, h.output, h.size, h.block⟩
theorem But.setCell (h : But p B w w') (i : Nat) (v : Value) : But p B w (w'.setCell ⟨p, i, none⟩ v) :=
  ⟨h.os, h.tape, h.output, by rw [World.size_setCell]; exact h.size, fun k hk hp => (Below.heap_setCell w' ⟨p, i, none⟩ v k hp).trans (h.block k hk hp)⟩
theorem Two.set1 {t : TypeId} {x y : Value} (h : Two w p t x y) (v : Value) : Two (w.setCell ⟨p, 1, none⟩ v) p t x v := by
  unfold Two at h ⊢
  simp [World.setCell, Array.getElem?_modify, h]
end

theorem Ow.past {w w' : World} {B C p n : Nat} {A : Option Addr} {l : List Int} (h : Ow w B A n l) (hb : But p C w w') (hC : w.heap.size ≤ C) (hp : p < B) : Ow w' B A n l :=
  ⟨h.len, h.byte, fun hn => by
    obtain ⟨b, e, hB, hlt, hc, hf⟩ := h.at_ hn
    have hk := hb.block b (by omega) (by omega)
    exact ⟨b, e, hB, Nat.lt_of_lt_of_le hlt hb.size, fun i hi => (World.cell?_of_block (a := ⟨b, i, none⟩) hk).trans (hc i hi), fun i => (World.frozen?_of_block (a := ⟨b, i, none⟩) hk).trans (hf i)⟩⟩
theorem Row.keep {w w' : World} {B : Nat} {v : Value} {l : List Int} (h : Row w B v l) (hk : ∀ g, B ≤ g → g < w.heap.size → w'.heap[g]? = w.heap[g]?) : Row w' B v l := by
  refine ⟨h.byte, h.own.1, ?_⟩
  rcases h.own.2 with hn | ⟨g, cap, cur, hv, hB, hg, rest⟩
  · exact .inl hn
  · exact .inr ⟨g, cap, cur, hv, hB, (hk g hB (Array.getElem?_eq_some_iff.1 hg).1).trans hg, rest⟩
theorem Row.mono {w : World} {B C : Nat} {v : Value} {l : List Int} (h : Row w B v l) (hC : C ≤ B) : Row w C v l := by
  refine ⟨h.byte, h.own.1, ?_⟩
  rcases h.own.2 with hn | ⟨g, cap, cur, hv, hB, hg, rest⟩
  · exact .inl hn
  · exact .inr ⟨g, cap, cur, hv, by omega, hg, rest⟩
theorem Row.ow' {w : World} {B n c : Nat} {A : Option Addr} {l : List Int} (h : Row w B (.slice A n c) l) (hn : l.length = n) : Ow w B A n l := by
  obtain ⟨A', c', e, how⟩ := h.ow hn
  injection e with e1 e2 e3
  subst e1
  exact how

end Go.Proofs.Ytpaemmoopjkppaa

/-! RowC -/
/- What a slice of bytes reads as, put behind a row of the call's own. -/
namespace Go.Proofs.Ytpaemmoopjkppaa
open Go.RowKit

theorem Bs.cap_ {w : World} {A : Option Addr} {n c : Nat} {l : List Int} (h : Bs w A n l) (hn : 0 < n) : A = none → c = 0 := fun e => by
  obtain ⟨b, off, e2, _⟩ := h.at_ hn
  rw [e] at e2; cases e2

set_option maxRecDepth 100000 in
theorem wpList_row_joinx {ops : Array Oper} {rest : List Oper} {o : Oper} {a : Act} {Q : Exit → Act → World → Prop} (hgd : o.guard = none) (s x : Operand)
    (ho : o.op = .call { callee := .builtin .append, args := #[s, x], argTypes := #[23, 23] })
    (w : World) (B : Nat) (v : Value) (l r : List Int) (hs : a.eval s = v) (hrow : Row w B v l) (hB : B ≤ w.heap.size)
    (A : Option Addr) (n c : Nat) (hx : a.eval x = .slice A n c) (hbs : Bs w A n r) (hcap : A = none → c = 0) (hlen : l.length + n ≤ 140737488351232)
    (h : ∀ v' w', Row w' B v' (l ++ r) → Below B w w' → w.heap.size ≤ w'.heap.size → (∀ g, g < w.heap.size → v.ownBlock ≠ some g → w'.heap[g]? = w.heap[g]?) → wpList Try.prog ops Q rest (a.put o.dst v') w') : wpList Try.prog ops Q (o :: rest) a w := by
  obtain ⟨i0, hi, hz0, hz1, hz2⟩ := info_parts info_u8
  have hrl := hbs.len
  cases A with
  | none =>
    have hn0 : n = 0 := by
      rcases Nat.eq_zero_or_pos n with h0 | h0
      · exact h0
      · obtain ⟨b, off, e, _⟩ := hbs.at_ h0
        cases e
    have hc0 := hcap rfl
    subst hn0 hc0
    obtain rfl : r = [] := List.eq_nil_of_length_eq_zero hrl
    refine wpList_append_own_none hgd s x 23 ho B 5 i0 1 Try.underlying23 hi v _ _ hs hrow.own hx ?_
    exact h v w (by rw [List.append_nil]; exact hrow) (Below.refl _ _) (Nat.le_refl _) (fun _ _ _ => rfl)
  | some ad =>
    have hcell : ∀ j u, (r.map (Value.int .u8))[j]? = some u → w.cell? (ad.add j) = some u := by
      intro j u hu
      have hj : j < r.length := by
        rcases Nat.lt_or_ge j r.length with h1 | h1
        · exact h1
        · rw [List.getElem?_eq_none (by simpa using h1)] at hu; cases hu
      obtain ⟨b, off, e, _, hc⟩ := hbs.at_ (by omega)
      injection e with e
      subst e
      have hadd : (⟨b, off, none⟩ : Addr).add j = ⟨b, off + j, none⟩ := by unfold Addr.add; split <;> simp_all
      rw [hadd, hc j (by omega)]
      rw [List.getElem?_map, List.getElem?_eq_getElem hj] at hu
      simpa [List.getD, List.getElem?_eq_getElem hj] using hu
    refine wpList_append_own _ hgd s x 23 ho B 5 i0 (.int .u8 0) 1 1 Try.underlying23 hi hz0 hz1 hz2 rfl (by decide) v l.length _ hs hrow.own ad n c (r.map (Value.int .u8)) hx (by simp [hrl]) hcell
      (fun u hu => by obtain ⟨y, _, rfl⟩ := List.mem_map.1 hu; rfl) (by unfold maxLen; omega) (by omega) hB ?_
    intro v' w' hown hgrow _
    refine h v' w' ⟨hrow.byte.append hbs.byte, ?_⟩ ⟨hgrow.os, hgrow.tape, hgrow.output, hgrow.size, fun k hk => hgrow.block k (by omega) (fun e => ?_)⟩ hgrow.size (fun g hg hne => hgrow.block g hg (fun e => hne e.symm))
    · rw [List.length_append, List.map_append, hrl]; exact hown
    · have := (hrow.own.lt k e.symm).1
      omega

theorem wpList_row_join {ops : Array Oper} {rest : List Oper} {o : Oper} {a : Act} {Q : Exit → Act → World → Prop} (hgd : o.guard = none) (s x : Operand)
    (ho : o.op = .call { callee := .builtin .append, args := #[s, x], argTypes := #[23, 23] })
    (w : World) (B : Nat) (v : Value) (l r : List Int) (hs : a.eval s = v) (hrow : Row w B v l) (hB : B ≤ w.heap.size)
    (A : Option Addr) (n c : Nat) (hx : a.eval x = .slice A n c) (hbs : Bs w A n r) (hcap : A = none → c = 0) (hlen : l.length + n ≤ 140737488351232)
    (h : ∀ v' w', Row w' B v' (l ++ r) → Below B w w' → w.heap.size ≤ w'.heap.size → wpList Try.prog ops Q rest (a.put o.dst v') w') : wpList Try.prog ops Q (o :: rest) a w :=
  wpList_row_joinx hgd s x ho w B v l r hs hrow hB A n c hx hbs hcap hlen fun v' w' h1 h2 h3 _ => h v' w' h1 h2 h3

/-- a copy of what a slice of bytes reads as -/
theorem copyb_any (A : Option Addr) (n c : Nat) (r : List Int) (w : World) (h : Bs w A n r) (hc : A = none → c = 0) (hn : n ≤ 140737488351232) :
    Calls Try.prog 59 #[.slice A n c] w fun e w' => (∃ A' c', e = .returned (.slice A' n c') ∧ Row w' w.heap.size (.slice A' n c') r) ∧ Below w.heap.size w w' := by
  have Hn := Lib.hid h.len
  have e0 := Row.empty (B := w.heap.size) w #[] (Nat.le_refl _) rfl
  go_enter Try.func59, Try.ntmps59
  go_wp2_with (at_builtin; refine wpList_row_join rfl _ _ rfl _ w.heap.size (.slice (some ⟨w.heap.size, 0, none⟩) 0 0) [] r rfl e0 (by simp) A n c rfl (h.alloc _) hc (by simp; omega) ?_; intro v' w1 hrow1 hbel1 hsz1)
  rw [List.nil_append] at hrow1
  obtain ⟨A', c', rfl, _⟩ := hrow1.ow Hn.out
  go_ret
  exact ⟨⟨A', c', rfl, hrow1⟩, (ab (Below.refl _ _) _).trans hbel1⟩
end Go.Proofs.Ytpaemmoopjkppaa

/-! DrawD -/
/- The draws of chapter 1, function by function. -/
namespace Go.Proofs.Ytpaemmoopjkppaa
open Go.RowKit

theorem IsRow.lenmax {k : IntKind} {w : World} {a : Option Addr} {len cap : Nat} {zs : List Int} (h : IsRow k w a len cap zs) : len ≤ 9223372036854775807 := by
  rcases h with ⟨_, rfl, _, _⟩ | ⟨x, _, hl, hm, _⟩
  · omega
  · unfold maxLen at hm; omega

/-- seven cells of numbers, as a list of choices stands in memory -/
theorem ints_cells (w : World) (vs : List Int) (t : TypeId) (cs : Array Value) (hcs : cs = (vs.map (Value.int .i64)).toArray) : ∀ i, i < vs.length → (w.alloc (.cells cs t)).cell? ⟨w.heap.size, i, none⟩ = some (.int .i64 (vs.getD i 0)) := by
  subst hcs
  intro i hi
  have e := heap_alloc_new w (.cells (vs.map (Value.int .i64)).toArray t)
  rw [cell_of_row _ w.heap.size i _ _ (0, 0) e]
  simp [List.getD, List.getElem?_eq_getElem hi]

def turnList : List Int := [0, 1, 2147483648, 4294967295, 4294967296, -1, 305419896]
def byList : List Int := [0, 1, 7, 16, 31, 32, -1]

/-- two draws of bytes: what both end with -/
def TwoBytes (w : World) (e : Ending) (w' : World) : Prop :=
  (∃ A1 c1 n1 r1 A2 c2 n2 r2, e = .returned (.tuple #[.slice A1 n1 c1, .slice A2 n2 c2]) ∧ Ow w' w.heap.size A1 n1 r1 ∧ Ow w' w.heap.size A2 n2 r2 ∧ n1 ≤ 1001 ∧ n2 ≤ 1002) ∧ Below w.heap.size w w'

def lenList : List Int := [0, 1, 9, 32, 1000, 1001]
theorem lenList_bd : ∀ v ∈ lenList, 0 ≤ v ∧ v ≤ 1001 := by decide

set_option maxRecDepth 100000 in
theorem copy_any (A : Option Addr) (n c B : Nat) (r : List Int) (w : World) (h : Row w B (.slice A n c) r) (hr : r.length = n) (hn : n ≤ 140737488351232) :
    Calls Try.prog 59 #[.slice A n c] w fun e w' => (∃ A' c', e = .returned (.slice A' n c') ∧ Row w' w.heap.size (.slice A' n c') r) ∧ Below w.heap.size w w' := by
  obtain ⟨i0, hi, hz0, hz1, hz2⟩ := info_parts info_u8
  have e0 := Row.empty (B := w.heap.size) w #[] (Nat.le_refl _) rfl
  have Hr := Lib.hid hr
  cases A with
  | none =>
    have hc : n = 0 ∧ c = 0 := by
      rcases h.own.2 with ⟨e, _⟩ | ⟨g, cap, cur, e, _⟩
      · injection e with _ e2 e3
        exact ⟨e2, e3⟩
      · injection e with e1 _ _
        cases e1
    obtain ⟨rfl, rfl⟩ := hc
    obtain rfl : r = [] := List.eq_nil_of_length_eq_zero Hr.out
    clear hr
    go_enter Try.func59, Try.ntmps59
    go_wp2_with (at_builtin; refine wpList_append_own_none rfl _ _ 23 rfl w.heap.size 5 i0 1 Try.underlying23 hi _ _ _ rfl e0.own rfl ?_)
    go_ret
    exact ⟨⟨_, _, rfl, e0⟩, ab (Below.refl _ _) _⟩
  | some ad =>
    have hcell : ∀ j u, (r.map (Value.int .u8))[j]? = some u → (w.alloc (.cells #[] 5)).cell? (ad.add j) = some u := by
      intro j u hj
      rcases h.own.2 with ⟨e, _⟩ | ⟨g, cap, cur, e, _⟩
      · injection e with e1 _ _
        cases e1
      · injection e with e1 _ _
        injection e1 with e1
        subst e1
        have := h.own.cells (g := g) rfl j u hj
        exact (World.cell?_of_block (Below.heap_alloc w _ _ (World.block_lt_of_cell? w _ this))).trans this
    have hone : ∀ u ∈ r.map (Value.int .u8), u.oneCell' = true := by
      intro u hu
      obtain ⟨x, _, rfl⟩ := List.mem_map.1 hu
      rfl
    have hb := h.byte
    clear hr
    go_enter Try.func59, Try.ntmps59
    go_wp2_with (at_builtin; refine wpList_append_own _ rfl _ _ 23 rfl w.heap.size 5 i0 (.int .u8 0) 1 1 Try.underlying23 hi hz0 hz1 hz2 rfl (by decide) _ _ _ rfl e0.own ad n c (r.map (Value.int .u8)) rfl (by rw [List.length_map, Hr.out, Nat.mul_one]) hcell hone (by unfold maxLen; simp; omega) (by simp; omega) (by simp) ?_; intro v' w1 hown hgrow hnil)
    clear hnil
    have row1 : Row w1 w.heap.size v' r := ⟨hb, by
      have hh := hown
      simp only [List.map_nil, List.nil_append, List.length_nil, Nat.zero_add] at hh
      rw [Hr.out]
      exact hh⟩
    have B1 : Below w.heap.size w w1 := (ab (Below.refl _ w) (.cells #[] 5)).trans ⟨hgrow.os, hgrow.tape, hgrow.output, hgrow.size, fun k hk => hgrow.block k (by simp; omega) (fun e => by have := (e0.own.lt k e.symm).1; omega)⟩
    clear hgrow hown
    obtain ⟨A', c', rfl, _⟩ := row1.ow Hr.out
    go_ret
    exact ⟨⟨A', c', rfl, row1⟩, B1⟩

theorem xor_one (x : Int) (h0 : 0 ≤ x) (h1 : x < 256) : 0 ≤ bits BinOp.xor IntKind.u8 x 1 ∧ bits BinOp.xor IntKind.u8 x 1 < 256 := by
  rw [u8_xor x 1 h0 h1 (by omega) (by omega)]
  have := Nat.xor_lt_two_pow (n := 8) (x := x.toNat) (y := (1 : Int).toNat) (by omega) (by decide)
  omega

end Go.Proofs.Ytpaemmoopjkppaa

/-! XorC -/
/- XorBytes, of the program and of the model. -/
namespace Go.Proofs.Ytpaemmoopjkppaa
open Go.RowKit

def xorB (x y : Int) : Int := bits BinOp.xor IntKind.u8 x y
theorem xorB_bd (x y : Int) (hx0 : 0 ≤ x) (hx1 : x < 256) (hy0 : 0 ≤ y) (hy1 : y < 256) : 0 ≤ xorB x y ∧ xorB x y < 256 := by
  unfold xorB
  rw [u8_xor x y hx0 hx1 hy0 hy1]
  have := Nat.xor_lt_two_pow (n := 8) (x := x.toNat) (y := y.toNat) (by omega) (by omega)
  omega
def xorL (l r : List Int) : List Int := List.zipWith xorB l r
theorem xorL_len (l r : List Int) (h : l.length = r.length) : (xorL l r).length = l.length := by simp [xorL, h]
theorem xorL_get (l r : List Int) (k : Nat) (h1 : k < l.length) (h2 : k < r.length) : (xorL l r).getD k 0 = xorB (l.getD k 0) (r.getD k 0) := by
  simp [xorL, List.getD, List.getElem?_eq_getElem h1, List.getElem?_eq_getElem h2, List.getElem?_zipWith]
theorem xorL_byte (l r : List Int) (hl : By l) (hr : By r) : By (xorL l r) := fun x hx => by
  unfold xorL at hx
  obtain ⟨i, hi, rfl⟩ := List.getElem_of_mem hx
  rw [List.getElem_zipWith]
  have h1 := hl _ (List.getElem_mem (l := l) (n := i) (by simp at hi; omega))
  have h2 := hr _ (List.getElem_mem (l := r) (n := i) (by simp at hi; omega))
  exact xorB_bd _ _ h1.1 h1.2 h2.1 h2.2
theorem take_getD (l : List Int) (k : Nat) (h : k < l.length) : l.take (k + 1) = l.take k ++ [l.getD k 0] := by
  rw [List.take_succ_eq_append_getElem h]
  simp [List.getD, List.getElem?_eq_getElem h]

def xcode (n m : Nat) : Int := if n = m ∧ n ≤ 1000 then 0 else 2
def xlen (n m : Nat) : Nat := if n = m ∧ n ≤ 1000 then n else 0
def xbytes (l r : List Int) : List Int := if l.length = r.length ∧ l.length ≤ 1000 then xorL l r else []

theorem xlen_le (n m : Nat) : xlen n m ≤ 1000 := by
  unfold xlen
  split
  · rename_i h; exact h.2
  · omega
end Go.Proofs.Ytpaemmoopjkppaa

/-! Same -/
/- SameBytes: bytes as strings. -/
namespace Go.Proofs.Ytpaemmoopjkppaa
open Go.RowKit

theorem strOfNums_inj {l r : List Int} (hl : By l) (hr : By r) (h : strOfNums l = strOfNums r) : l = r := by
  have h1 : l.map (fun n => UInt8.ofNat n.toNat) = r.map (fun n => UInt8.ofNat n.toNat) := by
    rw [← strOfNums_data, ← strOfNums_data, h]
  have back : ∀ a : List Int, By a → (a.map (fun n => UInt8.ofNat n.toNat)).map (fun b => (b.toNat : Int)) = a := by
    intro a ha
    rw [List.map_map]
    conv => rhs; rw [← List.map_id a]
    apply List.map_congr_left
    intro x hx
    have hb := ha x hx
    simp only [Function.comp, id]
    rw [UInt8.toNat_ofNat']
    omega
  rw [← back l hl, ← back r hr, h1]

theorem run_str {w : World} {A : Option Addr} {n : Nat} {l : List Int} (h : Bs w A n l) (c : Nat) :
    (convert 23 9 (.slice A n c)).run Try.prog w = .ok (.string (strOfNums l)) w := by
  by_cases hn : 0 < n
  · obtain ⟨b, off, rfl, _, hc⟩ := h.at_ hn
    exact run_convert_bytes_arg w 23 5 Try.underlying23 Try.underlying5 b off n c l h.len hc 9 Try.underlying9
  · obtain rfl : n = 0 := by omega
    obtain rfl : l = [] := List.eq_nil_of_length_eq_zero h.len
    cases A with
    | none => exact run_convert_bytes_nil w 23 5 Try.underlying23 Try.underlying5 0 c 9 Try.underlying9
    | some a =>
      rw [run_convert_bytes_string w 23 9 5 _ 0 c Try.underlying23 Try.underlying5 Try.underlying9,
        run_bytesToString w a 0 c [] (by simp [loadCells, loadCellsFrom])]
      rfl

theorem str_beq {l r : List Int} (hl : By l) (hr : By r) : ((strOfNums l).toList == (strOfNums r).toList) = decide (l = r) := by
  rw [Bool.eq_iff_iff, beq_iff_eq, ByteArray.toList_eq, ByteArray.toList_eq, decide_eq_true_iff]
  exact ⟨fun e => strOfNums_inj hl hr (ByteArray.ext (Array.toList_inj.mp e)), fun e => by rw [e]⟩

theorem Equal_any (A B : Option Addr) (n c m d : Nat) (l r : List Int) (w : World) (h : Bs w A n l) (h' : Bs w B m r) :
    Calls Try.prog 115 #[.slice A n c, .slice B m d] w fun e w' => e = .returned (.bool (decide (l = r))) ∧ w = w' := by
  have h1 := run_str h c
  have h2 := run_str h' d
  have Hb := Lib.hid (str_beq h.byte h'.byte)
  go_enter Try.func115, Try.ntmps115
  go_wp2
  go_ret
  exact ⟨by simp [Hb.out], rfl⟩

theorem implSameBytes_any (A B : Option Addr) (n c m d : Nat) (l r : List Int) (w : World) (h : Bs w A n l) (h' : Bs w B m r) :
    Calls Try.prog 104 #[.slice A n c, .slice B m d] w fun e w' => e = .returned (.bool (decide (l = r))) ∧ w = w' := by
  go_enter Try.func104, Try.ntmps104
  go_wp2_with fail
  refine (Equal_any _ _ _ _ _ _ _ _ _ h h').mono ?_
  rintro e w' ⟨rfl, rfl⟩
  go_wp2
  go_ret
  exact ⟨rfl, rfl⟩
end Go.Proofs.Ytpaemmoopjkppaa

/-! FillC -/
/- Zeros up to a multiple of 16 bytes, of the model. -/
namespace Go.Proofs.Ytpaemmoopjkppaa
open Go.RowKit

/-- how many zeros are wanted -/
def fillN (n : Nat) : Nat := (16 - n % 16) % 16
def fillL (l : List Int) : List Int := l ++ List.replicate (fillN l.length) 0
theorem fillL_len (l : List Int) : (fillL l).length = l.length + fillN l.length := by simp [fillL]
theorem fillL_byte (l : List Int) (h : By l) : By (fillL l) := h.append fun x hx => by
  have := (List.mem_replicate.1 hx).2
  omega

/-- how long a slice is -/
def spanOf : Value → Nat
  | .slice _ n _ => n
  | _ => 0

end Go.Proofs.Ytpaemmoopjkppaa

/-! AtC -/
/- A row appended to, with where it lies then: in its own block, or in one that was just made. -/
namespace Go.Proofs.Ytpaemmoopjkppaa
open Go.RowKit

/-- where a row lies behind an append: where it lay, or in the newest block -/
def Lay (w : World) (v v' : Value) : Prop := v'.ownBlock = v.ownBlock ∨ v'.ownBlock = some w.heap.size
/-- all old blocks but the row's own one are as they were -/
def Else (v : Value) (w w' : World) : Prop := ∀ g, g < w.heap.size → v.ownBlock ≠ some g → w'.heap[g]? = w.heap[g]?

theorem step_row_append_at {ops : Array Oper} {o : Oper} {a : Act} {K : Act → World → Prop} {Q : Exit → Act → World → Prop} {E : Prop} (hgd : o.guard = none) (s x : Operand)
    (ho : o.op = .call { callee := .builtin .append, args := #[s, x], argTypes := #[23, 23] })
    (w : World) (B : Nat) (v : Value) (l : List Int) (hs : a.eval s = v) (hrow : Row w B v l) (hB : B ≤ w.heap.size)
    (ad : Addr) (c : Nat) (X : Int) (hx : a.eval x = .slice (some ad) 1 c) (hcell : ∀ j u, [Value.int .u8 X][j]? = some u → w.cell? (ad.add j) = some u)
    (hX0 : 0 ≤ X) (hX1 : X < 256) (hlen : l.length ≤ 140737488351232)
    (h : ∀ v' w', Row w' B v' (l ++ [X]) → Below B w w' → w.heap.size ≤ w'.heap.size → Lay w v v' → Else v w w' → K (a.put o.dst v') w') :
    if Region.wanted o (yielded ops a.tmps) = true then Oper.wp Try.prog o a w K Q else E := by
  have hw : Region.wanted o (yielded ops a.tmps) = true := by simp [Region.wanted, hgd]
  rw [if_pos hw]
  obtain ⟨i0, hi, hz0, hz1, hz2⟩ := info_parts info_u8
  obtain ⟨v', w', hr, hown, hgrow, _, hat⟩ := run_append_own_at (P := Try.prog) w B 23 o.type 5 i0 (.int .u8 0) 1 1 Try.underlying23 hi hz0 hz1 hz2 rfl (by decide) v l.length _ hrow.own ad 1 c [.int .u8 X] rfl hcell
    (by simp [Value.oneCell']) (by unfold maxLen; omega) (by omega) hB
  unfold Oper.wp execOp
  simp only [ho, resolve, invoke, builtin, Sem.run_bind, Sem.run_pure, Result.andThen_ok, List.map_toArray, List.map_cons, List.map_nil, hs, hx, hr]
  refine h v' w' ⟨hrow.byte.append (fun y hy => by simp at hy; subst hy; exact ⟨hX0, hX1⟩), ?_⟩ ⟨hgrow.os, hgrow.tape, hgrow.output, hgrow.size, fun k hk => hgrow.block k (by omega) (fun e => ?_)⟩ hgrow.size hat (fun g hg hne => hgrow.block g hg (fun e => hne e.symm))
  · simpa using hown
  · have := (hrow.own.lt k e.symm).1
    omega

theorem wpList_row_append_at {ops : Array Oper} {rest : List Oper} {o : Oper} {a : Act} {Q : Exit → Act → World → Prop} (hgd : o.guard = none) (s x : Operand)
    (ho : o.op = .call { callee := .builtin .append, args := #[s, x], argTypes := #[23, 23] })
    (w : World) (B : Nat) (v : Value) (l : List Int) (hs : a.eval s = v) (hrow : Row w B v l) (hB : B ≤ w.heap.size)
    (ad : Addr) (c : Nat) (X : Int) (hx : a.eval x = .slice (some ad) 1 c) (hcell : ∀ j u, [Value.int .u8 X][j]? = some u → w.cell? (ad.add j) = some u)
    (hX0 : 0 ≤ X) (hX1 : X < 256) (hlen : l.length ≤ 140737488351232)
    (h : ∀ v' w', Row w' B v' (l ++ [X]) → Below B w w' → w.heap.size ≤ w'.heap.size → Lay w v v' → Else v w w' → wpList Try.prog ops Q rest (a.put o.dst v') w') : wpList Try.prog ops Q (o :: rest) a w := by
  obtain ⟨i0, hi, hz0, hz1, hz2⟩ := info_parts info_u8
  refine wpList_append_own_at _ hgd s x 23 ho B 5 i0 (.int .u8 0) 1 1 Try.underlying23 hi hz0 hz1 hz2 rfl (by decide) v l.length _ hs hrow.own ad 1 c [.int .u8 X] hx rfl hcell
    (by simp [Value.oneCell']) (by unfold maxLen; omega) (by omega) hB ?_
  intro v' w' hown hgrow _ hat
  refine h v' w' ⟨hrow.byte.append (fun y hy => by simp at hy; subst hy; exact ⟨hX0, hX1⟩), ?_⟩ ⟨hgrow.os, hgrow.tape, hgrow.output, hgrow.size, fun k hk => hgrow.block k (by omega) (fun e => ?_)⟩ hgrow.size hat (fun g hg hne => hgrow.block g hg (fun e => hne e.symm))
  · simpa using hown
  · have := (hrow.own.lt k e.symm).1
    omega

theorem Bs.block {w w' : World} {b off n : Nat} {l : List Int} (h : Bs w (some ⟨b, off, none⟩) n l) (hb : w'.heap[b]? = w.heap[b]?) (hs : w.heap.size ≤ w'.heap.size) : Bs w' (some ⟨b, off, none⟩) n l :=
  ⟨h.len, h.byte, fun hn => by
    obtain ⟨b', off', e, hlt, hc⟩ := h.at_ hn
    injection e with e
    injection e with e1 e2
    subst e1 e2
    exact ⟨b, off, rfl, by omega, fun i hi => (World.cell?_of_block (a := ⟨b, off + i, none⟩) hb).trans (hc i hi)⟩⟩
/-- a value's own block is not g, and block g is as it was -/
structure Apart (g : Nat) (v : Value) (w w' : World) : Prop where
  own : v.ownBlock ≠ some g
  same : w'.heap[g]? = w.heap[g]?
  size : w.heap.size ≤ w'.heap.size
theorem Apart.step {g : Nat} {v v' : Value} {w a b : World} (h : Apart g v w a) (hg : g < w.heap.size) (hl : Lay a v v') (he : Else v a b) (hs : a.heap.size ≤ b.heap.size) : Apart g v' w b :=
  have hsz := h.size
  ⟨fun e => by rcases hl with h1 | h1
               · exact h.own (h1.symm.trans e)
               · rw [h1] at e; injection e with e; omega,
   (he g (by omega) h.own).trans h.same, Nat.le_trans h.size hs⟩
theorem Apart.alloc {g : Nat} {v : Value} {w a : World} (h : Apart g v w a) (hg : g < w.heap.size) (o : Obj) : Apart g v w (a.alloc o) :=
  have hsz := h.size
  ⟨h.own, (Below.heap_alloc a o g (by omega)).trans h.same, by rw [World.size_alloc]; omega⟩
theorem Apart.drew {g : Nat} {v : Value} {w a : World} (h : Apart g v w a) : Apart g v w a.drew := ⟨h.own, h.same, h.size⟩
/-- a row's own block is an old one -/
theorem Row.ownlt {w : World} {B g : Nat} {v : Value} {l : List Int} (h : Row w B v l) (e : v.ownBlock = some g) : B ≤ g ∧ g < w.heap.size := h.own.lt g e
end Go.Proofs.Ytpaemmoopjkppaa
