import Derived.Test.YtgmbofoneeagiaaSymB
import Derived.Deep.MidRow
import Derived.Deep.RegionHeld3

/- Lists of structs with runs of bytes in them: what they read as, and who owns them. -/
namespace Go.Proofs.Ytgmbofoneeagiaa
open Go.RowKit

/-- nothing but blocks of the set F is turned -/
structure Tu (F : Nat → Prop) (w w' : World) : Prop where
  os : w'.os = w.os
  tape : w'.tape = w.tape
  output : w'.output = w.output
  size : w.heap.size ≤ w'.heap.size
  block : ∀ k, k < w.heap.size → ¬ F k → w'.heap[k]? = w.heap[k]?
theorem Tu.refl (F : Nat → Prop) (w : World) : Tu F w w := ⟨rfl, rfl, rfl, Nat.le_refl _, fun _ _ _ => rfl⟩
theorem Tu.trans {F : Nat → Prop} {a b c : World} (h : Tu F a b) (k : Tu F b c) : Tu F a c :=
  ⟨k.os.trans h.os, k.tape.trans h.tape, k.output.trans h.output, Nat.le_trans h.size k.size, fun i hi hx => (k.block i (Nat.lt_of_lt_of_le hi h.size) hx).trans (h.block i hi hx)⟩
theorem Tu.ofBelow {F : Nat → Prop} {w w' : World} (h : Below w.heap.size w w') : Tu F w w' := ⟨h.os, h.tape, h.output, h.size, fun k hk _ => h.block k hk⟩
theorem Tu.wider {F G : Nat → Prop} {w w' : World} (h : Tu F w w') (hs : ∀ b, F b → G b) : Tu G w w' :=
  ⟨h.os, h.tape, h.output, h.size, fun k hk hx => h.block k hk (fun hf => hx (hs k hf))⟩
theorem Tu.below {F : Nat → Prop} {w w' : World} {C : Nat} (h : Tu F w w') (hC : C ≤ w.heap.size) (hb : ∀ b, F b → C ≤ b) : Below C w w' :=
  ⟨h.os, h.tape, h.output, h.size, fun k hk => h.block k (by omega) (fun hf => by have := hb k hf; omega)⟩
theorem Tu.drewN {F : Nat → Prop} {w w' : World} (h : Tu F w w') (q : Nat) : Tu F w (w'.drewN q) := ⟨h.os, h.tape, h.output, h.size, h.block⟩
theorem Tu.drew {F : Nat → Prop} {w w' : World} (h : Tu F w w') : Tu F w w'.drew := ⟨h.os, h.tape, h.output, h.size, h.block⟩
theorem Tu.set_ {F : Nat → Prop} {w w' : World} (h : Tu F w w') {p : Addr} (hp : F p.block) (v : Value) : Tu F w (w'.setCell p v) :=
  ⟨h.os, h.tape, h.output, by rw [World.size_setCell]; exact h.size, fun k hk hx => (Below.heap_setCell w' p v k (fun e => hx (e ▸ hp))).trans (h.block k hk hx)⟩
theorem Tu.ofOnly {F : Nat → Prop} {n : Nat} {A : Option Addr} {w w' : World} (h : Only n A w w') (hF : 0 < n → ∀ a, A = some a → F a.block) : Tu F w w' :=
  ⟨h.os, h.tape, h.output, by rw [h.size]; exact Nat.le_refl _, fun k _ hx => h.block k (fun hn a ha e => hx (e ▸ hF hn a ha))⟩
theorem Stc.tu {F : Nat → Prop} {w w' : World} {b : Nat} {l : List Value} {t : TypeId} (h : Stc w b l t) (k : Tu F w w') (hb : ¬ F b) : Stc w' b l t := (k.block b h.lt hb).trans h

/-- a run of bytes of the call's own, in a block of the set F -/
structure Bo (w : World) (F : Nat → Prop) (A : Option Addr) (n : Nat) (l : List Int) : Prop where
  len : l.length = n
  byte : By l
  at_ : 0 < n → ∃ b, A = some ⟨b, 0, none⟩ ∧ F b ∧ b < w.heap.size ∧ (∀ i, i < n → w.cell? ⟨b, i, none⟩ = some (.int .u8 (l.getD i 0))) ∧ ∀ i, w.frozen? ⟨b, i, none⟩ = false

section
variable {w w' : World} {F G : Nat → Prop} {A : Option Addr} {n : Nat} {l : List Int}
theorem Bo.ow {B : Nat} (h : Bo w F A n l) (hF : ∀ b, F b → B ≤ b) : Ow w B A n l :=
  ⟨h.len, h.byte, fun hn => by
    obtain ⟨b, e, hB, r⟩ := h.at_ hn
    exact ⟨b, e, hF b hB, r⟩⟩
theorem Bo.ow0 (h : Bo w F A n l) : Ow w 0 A n l := h.ow fun _ _ => Nat.zero_le _
theorem Bo.bs (h : Bo w F A n l) : Bs w A n l := h.ow0.bs
theorem Bo.ofOw {B : Nat} (h : Ow w B A n l) (hF : ∀ b, 0 < n → A = some ⟨b, 0, none⟩ → B ≤ b → b < w.heap.size → F b) : Bo w F A n l :=
  ⟨h.len, h.byte, fun hn => by
    obtain ⟨b, e, hB, hlt, r⟩ := h.at_ hn
    exact ⟨b, e, hF b hn e hB hlt, hlt, r⟩⟩
theorem Bo.keep (h : Bo w F A n l) (hs : w.heap.size ≤ w'.heap.size) (hk : ∀ b, F b → b < w.heap.size → w'.heap[b]? = w.heap[b]?) : Bo w' F A n l :=
  ⟨h.len, h.byte, fun hn => by
    obtain ⟨b, e, hF, hlt, hc, hf⟩ := h.at_ hn
    have hk := hk b hF hlt
    exact ⟨b, e, hF, Nat.lt_of_lt_of_le hlt hs, fun i hi => (World.cell?_of_block (a := ⟨b, i, none⟩) hk).trans (hc i hi), fun i => (World.frozen?_of_block (a := ⟨b, i, none⟩) hk).trans (hf i)⟩⟩
theorem Bo.wider (h : Bo w F A n l) (hs : ∀ b, F b → G b) : Bo w G A n l :=
  ⟨h.len, h.byte, fun hn => by
    obtain ⟨b, e, hF, r⟩ := h.at_ hn
    exact ⟨b, e, hs b hF, r⟩⟩
theorem Bo.tu {H : Nat → Prop} (h : Bo w F A n l) (t : Tu H w w') (hd : ∀ b, F b → ¬ H b) : Bo w' F A n l := h.keep t.size fun b hF hlt => t.block b hlt (hd b hF)
theorem Bo.below {C : Nat} (h : Bo w F A n l) (t : Below C w w') (hC : w.heap.size ≤ C) : Bo w' F A n l := h.keep t.size fun b _ hlt => t.block b (by omega)
theorem Bo.nil_ (w : World) (F : Nat → Prop) (A : Option Addr) : Bo w F A 0 [] := ⟨rfl, By.nil, fun h => absurd h (by omega)⟩
end

/-- what one cell of an element is: a plain value, or a run of bytes -/
inductive Cel where
  | v (x : Value)
  | b (l : List Int)

/-- the value x reads as that -/
def Cel.rd (w : World) (x : Value) : Cel → Prop
  | .v y => x = y
  | .b l => ∃ A n c, x = .slice A n c ∧ Bs w A n l ∧ (A = none → c = 0)
/-- .. and its bytes are of the call's own, in blocks of F -/
def Cel.ow (w : World) (F : Nat → Prop) (x : Value) : Cel → Prop
  | .v y => x = y
  | .b l => ∃ A n c, x = .slice A n c ∧ Bo w F A n l ∧ (A = none → c = 0)

theorem Cel.rd.keep {w w' : World} {x : Value} {d : Cel} (h : d.rd w x) (hk : ∀ p : Addr, p.block < w.heap.size → w'.cell? p = w.cell? p) (hs : w.heap.size ≤ w'.heap.size) : d.rd w' x := by
  cases d with
  | v y => exact h
  | b l =>
    obtain ⟨A, n, c, e, hb, hc⟩ := h
    exact ⟨A, n, c, e, hb.keep hk hs, hc⟩
theorem Cel.ow.rd {w : World} {F : Nat → Prop} {x : Value} {d : Cel} (h : d.ow w F x) : d.rd w x := by
  cases d with
  | v y => exact h
  | b l =>
    obtain ⟨A, n, c, e, hb, hc⟩ := h
    exact ⟨A, n, c, e, hb.bs, hc⟩
theorem Cel.ow.keep {w w' : World} {F : Nat → Prop} {x : Value} {d : Cel} (h : d.ow w F x) (hs : w.heap.size ≤ w'.heap.size) (hk : ∀ b, F b → b < w.heap.size → w'.heap[b]? = w.heap[b]?) : d.ow w' F x := by
  cases d with
  | v y => exact h
  | b l =>
    obtain ⟨A, n, c, e, hb, hc⟩ := h
    exact ⟨A, n, c, e, hb.keep hs hk, hc⟩
theorem Cel.ow.wider {w : World} {F G : Nat → Prop} {x : Value} {d : Cel} (h : d.ow w F x) (hs : ∀ b, F b → G b) : d.ow w G x := by
  cases d with
  | v y => exact h
  | b l =>
    obtain ⟨A, n, c, e, hb, hc⟩ := h
    exact ⟨A, n, c, e, hb.wider hs, hc⟩

/-- a slice of n elements of sz cells at A reads as els -/
structure Lst {E : Type} (cels : E → List Cel) (sz : Nat) (w : World) (A : Option Addr) (n : Nat) (els : List E) : Prop where
  len : els.length = n
  at_ : 0 < n → ∃ b off, A = some ⟨b, off, none⟩ ∧ b < w.heap.size ∧ ∀ i e, els[i]? = some e → ∀ j d, (cels e)[j]? = some d → ∃ x, w.cell? ⟨b, off + i * sz + j, none⟩ = some x ∧ d.rd w x

/-- a slice of n elements of sz cells at A, all of the call's own, in blocks of F -/
structure Lo {E : Type} (cels : E → List Cel) (sz : Nat) (w : World) (F : Nat → Prop) (A : Option Addr) (n : Nat) (els : List E) : Prop where
  len : els.length = n
  at_ : 0 < n → ∃ g off, ∃ G : Nat → Nat → Nat → Prop, A = some ⟨g, off, none⟩ ∧ F g ∧ g < w.heap.size ∧ (∀ i, w.frozen? ⟨g, i, none⟩ = false) ∧
    (∀ i j b, G i j b → F b ∧ b ≠ g) ∧ (∀ i j i' j' b, G i j b → G i' j' b → i = i' ∧ j = j') ∧
    ∀ i e, els[i]? = some e → ∀ j d, (cels e)[j]? = some d → ∃ x, w.cell? ⟨g, off + i * sz + j, none⟩ = some x ∧ d.ow w (G i j) x

section
variable {E : Type} {cels : E → List Cel} {sz : Nat} {w w' : World} {F H : Nat → Prop} {A : Option Addr} {n : Nat} {els : List E}
theorem Lst.keep (h : Lst cels sz w A n els) (hk : ∀ p : Addr, p.block < w.heap.size → w'.cell? p = w.cell? p) (hs : w.heap.size ≤ w'.heap.size) : Lst cels sz w' A n els :=
  ⟨h.len, fun hn => by
    obtain ⟨b, off, e, hlt, hc⟩ := h.at_ hn
    refine ⟨b, off, e, Nat.lt_of_lt_of_le hlt hs, fun i el hi j d hj => ?_⟩
    obtain ⟨x, hx, hr⟩ := hc i el hi j d hj
    exact ⟨x, (hk _ hlt).trans hx, hr.keep hk hs⟩⟩
theorem Lst.below (h : Lst cels sz w A n els) (hb : Below w.heap.size w w') : Lst cels sz w' A n els := h.keep (fun _ hp => hb.cell hp) hb.size
theorem Lst.drewN (h : Lst cels sz w A n els) (k : Nat) : Lst cels sz (w.drewN k) A n els := h.keep (fun _ _ => rfl) (Nat.le_refl _)
theorem Lst.alloc (h : Lst cels sz w A n els) (o : Obj) : Lst cels sz (w.alloc o) A n els := h.below ((Below.refl _ _).alloc (Nat.le_refl _) o)
theorem Lst.nil_ (w : World) (A : Option Addr) : Lst cels sz w A 0 [] := ⟨rfl, fun h => absurd h (by omega)⟩
theorem Lo.rows (h : Lo cels sz w F A n els) : Lst cels sz w A n els :=
  ⟨h.len, fun hn => by
    obtain ⟨g, off, G, e, _, hlt, _, _, _, hc⟩ := h.at_ hn
    refine ⟨g, off, e, hlt, fun i el hi j d hj => ?_⟩
    obtain ⟨x, hx, hr⟩ := hc i el hi j d hj
    exact ⟨x, hx, hr.rd⟩⟩
theorem Lo.keep (h : Lo cels sz w F A n els) (hs : w.heap.size ≤ w'.heap.size) (hk : ∀ b, F b → b < w.heap.size → w'.heap[b]? = w.heap[b]?) : Lo cels sz w' F A n els :=
  ⟨h.len, fun hn => by
    obtain ⟨g, off, G, e, hF, hlt, hf, hG, hD, hc⟩ := h.at_ hn
    have hg := hk g hF hlt
    refine ⟨g, off, G, e, hF, Nat.lt_of_lt_of_le hlt hs, fun i => (World.frozen?_of_block (a := ⟨g, i, none⟩) hg).trans (hf i), hG, hD, fun i el hi j d hj => ?_⟩
    obtain ⟨x, hx, hr⟩ := hc i el hi j d hj
    exact ⟨x, (World.cell?_of_block (a := ⟨g, _, none⟩) hg).trans hx, hr.keep hs fun b hb hl => hk b (hG i j b hb).1 hl⟩⟩
theorem Lo.tu (h : Lo cels sz w F A n els) (t : Tu H w w') (hd : ∀ b, F b → ¬ H b) : Lo cels sz w' F A n els := h.keep t.size fun b hF hlt => t.block b hlt (hd b hF)
theorem Lo.below {C : Nat} (h : Lo cels sz w F A n els) (t : Below C w w') (hC : w.heap.size ≤ C) : Lo cels sz w' F A n els := h.keep t.size fun b _ hlt => t.block b (by omega)
theorem Lo.wider (h : Lo cels sz w F A n els) (hs : ∀ b, F b → H b) : Lo cels sz w H A n els :=
  ⟨h.len, fun hn => by
    obtain ⟨g, off, G, e, hF, hlt, hf, hG, r⟩ := h.at_ hn
    exact ⟨g, off, G, e, hs g hF, hlt, hf, fun i j b hb => ⟨hs b (hG i j b hb).1, (hG i j b hb).2⟩, r⟩⟩
theorem Lo.nil_ (w : World) (F : Nat → Prop) (A : Option Addr) : Lo cels sz w F A 0 [] := ⟨rfl, fun h => absurd h (by omega)⟩
end

/-- a number of each element, all together -/
def sumE {E : Type} (f : E → Nat) : List E → Nat
  | [] => 0
  | e :: r => f e + sumE f r
theorem sumE_append {E : Type} (f : E → Nat) (a b : List E) : sumE f (a ++ b) = sumE f a + sumE f b := by
  induction a with
  | nil => simp [sumE]
  | cons x r ih => simp [sumE, ih]; omega
theorem sumE_mem {E : Type} (f : E → Nat) {els : List E} {e : E} (h : e ∈ els) : f e ≤ sumE f els := by
  induction els with
  | nil => cases h
  | cons x r ih =>
    rcases List.mem_cons.1 h with rfl | h
    · simp [sumE]
    · have := ih h; simp [sumE]; omega
theorem sumE_take_succ {E : Type} (f : E → Nat) {els : List E} {e : E} {k : Nat} (h : els[k]? = some e) : sumE f (els.take (k + 1)) = sumE f (els.take k) + f e := by
  rw [List.take_add_one, h]
  simp [sumE_append, sumE]
theorem sumE_take_le {E : Type} (f : E → Nat) (els : List E) (k : Nat) : sumE f (els.take k) ≤ sumE f els := by
  have := sumE_append f (els.take k) (els.drop k)
  rw [List.take_append_drop] at this
  omega
/-- a list marked from k on -/
def markE {E : Type} (mk : Int → E → E) (wd : E → Nat) (k : Int) : List E → List E
  | [] => []
  | e :: r => mk k e :: markE mk wd (k + (wd e : Int)) r
theorem markE_append {E : Type} (mk : Int → E → E) (wd : E → Nat) (k : Int) (a b : List E) : markE mk wd k (a ++ b) = markE mk wd k a ++ markE mk wd (k + (sumE wd a : Int)) b := by
  induction a generalizing k with
  | nil => simp [markE, sumE]
  | cons x r ih => simp [markE, sumE, ih, Int.add_assoc]
theorem markE_len {E : Type} (mk : Int → E → E) (wd : E → Nat) (k : Int) (a : List E) : (markE mk wd k a).length = a.length := by
  induction a generalizing k with
  | nil => rfl
  | cons x r ih => simp [markE, ih]
theorem markE_get {E : Type} (mk : Int → E → E) (wd : E → Nat) (k : Int) {els : List E} {i : Nat} {e : E} (h : els[i]? = some e) : (markE mk wd k els)[i]? = some (mk (k + (sumE wd (els.take i) : Int)) e) := by
  induction els generalizing k i with
  | nil => simp at h
  | cons x r ih =>
    cases i with
    | zero => simp at h; subst h; simp [markE, sumE]
    | succ i =>
      simp at h
      simp [markE, sumE, ih _ h, Int.add_assoc]
/-- the first i of a list are marked -/
def markd_ {E : Type} (mk : Int → E → E) (wd : E → Nat) (k : Int) (els : List E) (i : Nat) : List E := markE mk wd k (els.take i) ++ els.drop i
theorem markd_zero_ {E : Type} (mk : Int → E → E) (wd : E → Nat) (k : Int) (els : List E) : markd_ mk wd k els 0 = els := by simp [markd_, markE]
theorem markd_full_ {E : Type} (mk : Int → E → E) (wd : E → Nat) (k : Int) (els : List E) (n : Nat) (h : els.length = n) : markd_ mk wd k els n = markE mk wd k els := by
  subst h; simp [markd_]
theorem markd_get_ {E : Type} (mk : Int → E → E) (wd : E → Nat) (k : Int) {els : List E} {i : Nat} {e : E} (h : els[i]? = some e) : (markd_ mk wd k els i)[i]? = some e := by
  have hi := (List.getElem?_eq_some_iff.1 h).1
  have hl : (markE mk wd k (els.take i)).length = i := by rw [markE_len, List.length_take]; omega
  unfold markd_
  rw [List.getElem?_append_right (by omega), hl]
  simp [h]
theorem markd_set_ {E : Type} (mk : Int → E → E) (wd : E → Nat) (k : Int) {els : List E} {i : Nat} {e : E} (h : els[i]? = some e) :
    (markd_ mk wd k els i).set i (mk (k + (sumE wd (els.take i) : Int)) e) = markd_ mk wd k els (i + 1) := by
  have hi := (List.getElem?_eq_some_iff.1 h).1
  have hl : (markE mk wd k (els.take i)).length = i := by rw [markE_len, List.length_take]; omega
  unfold markd_
  rw [List.set_append_right _ _ (by omega), hl, List.take_add_one, h]
  simp [markE_append, markE]
  rw [List.drop_eq_getElem_cons hi]
  rfl

theorem sizeC (b : Nat) : ∀ (vs : List Value) (o : Nat) (w : World), (w.setCells b o vs).heap.size = w.heap.size
  | [], _, _ => rfl
  | v :: r, o, w => by rw [World.setCells, sizeC b r, World.size_setCell]
theorem heapC (b k : Nat) (hk : k ≠ b) : ∀ (vs : List Value) (o : Nat) (w : World), (w.setCells b o vs).heap[k]? = w.heap[k]?
  | [], _, _ => rfl
  | v :: r, o, w => by
    rw [World.setCells, heapC b k hk r]
    exact Below.heap_setCell w ⟨b, o, none⟩ v k hk

/-- a block of m cells, none frozen -/
def Spn (w : World) (g m : Nat) (t : TypeId) : Prop := ∃ cs : Array Value, w.heap[g]? = some (.cells cs t (0, 0)) ∧ cs.size = m
section
variable {w w' : World} {g m : Nat} {t : TypeId}
theorem Spn.lt (h : Spn w g m t) : g < w.heap.size := by
  obtain ⟨cs, h, _⟩ := h
  exact (Array.getElem?_eq_some_iff.1 h).1
theorem Spn.keep (h : Spn w g m t) (e : w'.heap[g]? = w.heap[g]?) : Spn w' g m t := by
  obtain ⟨cs, h, hm⟩ := h
  exact ⟨cs, e.trans h, hm⟩
theorem Spn.frozen (h : Spn w g m t) (i : Nat) : w.frozen? ⟨g, i, none⟩ = false := by
  obtain ⟨cs, h, _⟩ := h
  simp [World.frozen?, h]
theorem Spn.cell (h : Spn w g m t) {i : Nat} (hi : i < m) : ∃ x, w.cell? ⟨g, i, none⟩ = some x := by
  obtain ⟨cs, h, hm⟩ := h
  exact ⟨cs[i], by rw [cell_of_row w g i _ _ (0, 0) h]; exact Array.getElem?_eq_getElem _⟩
theorem Spn.there (h : Spn w g m t) {o n : Nat} (hi : o + n ≤ m) : w.there g o n := fun j hj => by
  obtain ⟨x, hx⟩ := h.cell (i := o + j) (by omega)
  exact ⟨by rw [hx]; rfl, h.frozen _⟩
theorem Spn.set_ (h : Spn w g m t) (i : Nat) (v : Value) : Spn (w.setCell ⟨g, i, none⟩ v) g m t := by
  obtain ⟨cs, h, hm⟩ := h
  refine ⟨cs.setIfInBounds i v, ?_, by simpa using hm⟩
  simp [World.setCell, Array.getElem?_modify, h]
theorem Spn.new (w : World) (cs : Array Value) (t : TypeId) (hm : cs.size = m) : Spn (w.alloc (.cells cs t)) w.heap.size m t := ⟨cs, heap_alloc_new w _, hm⟩
theorem Spn.below {B : Nat} (h : Spn w g m t) (hb : Below B w w') (hl : g < B) : Spn w' g m t := h.keep (hb.block g hl)
end

/-- one element more -/
theorem Lo.snoc {E : Type} {cels : E → List Cel} {sz : Nat} {w w' : World} {F F' : Nat → Prop} {g off k : Nat} {els : List E} (h : Lo cels sz w F (some ⟨g, off, none⟩) k els)
    (hg : F' g) (hlt : g < w'.heap.size) (hf : ∀ i, w'.frozen? ⟨g, i, none⟩ = false) (hs : w.heap.size ≤ w'.heap.size) (hF : ∀ b, F b → F' b)
    (hkeep : ∀ b, F b → b ≠ g → b < w.heap.size → w'.heap[b]? = w.heap[b]?) (hl : ∀ e ∈ els, (cels e).length = sz)
    (hold : ∀ m, m < k * sz → w'.cell? ⟨g, off + m, none⟩ = w.cell? ⟨g, off + m, none⟩)
    (e : E) (Gn : Nat → Nat → Prop) (hGn : ∀ j b, Gn j b → F' b ∧ b ≠ g ∧ ¬ F b) (hGd : ∀ j j' b, Gn j b → Gn j' b → j = j')
    (hnew : ∀ j d, (cels e)[j]? = some d → ∃ x, w'.cell? ⟨g, off + k * sz + j, none⟩ = some x ∧ d.ow w' (Gn j) x) :
    Lo cels sz w' F' (some ⟨g, off, none⟩) (k + 1) (els ++ [e]) := by
  have hlen := h.len
  refine ⟨by simp [hlen], fun _ => ?_⟩
  rcases Nat.eq_zero_or_pos k with rfl | hk
  · obtain rfl : els = [] := List.length_eq_zero_iff.1 hlen
    refine ⟨g, off, fun i j b => i = 0 ∧ Gn j b, rfl, hg, hlt, hf, fun i j b hb => ⟨(hGn j b hb.2).1, (hGn j b hb.2).2.1⟩, fun i j i' j' b hb hb' => ⟨by rw [hb.1, hb'.1], hGd j j' b hb.2 hb'.2⟩, fun i el hi j d hj => ?_⟩
    have hi0 : i = 0 := by
      have := (List.getElem?_eq_some_iff.1 hi).1
      simp at this
      exact this
    subst hi0
    simp at hi
    subst hi
    obtain ⟨x, hx, ho⟩ := hnew j d hj
    exact ⟨x, hx, ho.wider fun b hb => ⟨rfl, hb⟩⟩
  · obtain ⟨g0, off0, G, e0, hFg, _, _, hG, hD, hc⟩ := h.at_ hk
    injection e0 with e0
    injection e0 with e1 e2 _
    subst e1 e2
    refine ⟨g, off, fun i j b => (i < k ∧ G i j b) ∨ (i = k ∧ Gn j b), rfl, hg, hlt, hf, fun i j b hb => ?_, fun i j i' j' b hb hb' => ?_, fun i el hi j d hj => ?_⟩
    · rcases hb with ⟨_, hb⟩ | ⟨_, hb⟩
      · exact ⟨hF b (hG i j b hb).1, (hG i j b hb).2⟩
      · exact ⟨(hGn j b hb).1, (hGn j b hb).2.1⟩
    · rcases hb with ⟨_, hb⟩ | ⟨h1, hb⟩ <;> rcases hb' with ⟨_, hb'⟩ | ⟨h2, hb'⟩
      · exact hD i j i' j' b hb hb'
      · exact absurd (hG i j b hb).1 (hGn j' b hb').2.2
      · exact absurd (hG i' j' b hb').1 (hGn j b hb).2.2
      · exact ⟨by rw [h1, h2], hGd j j' b hb hb'⟩
    · by_cases hik : i < k
      · rw [List.getElem?_append_left (by omega)] at hi
        obtain ⟨x, hx, ho⟩ := hc i el hi j d hj
        have hj' : j < sz := by
          rw [← hl el (List.mem_of_getElem? hi)]
          exact (List.getElem?_eq_some_iff.1 hj).1
        have hm : i * sz + j < k * sz := by
          have : (i + 1) * sz ≤ k * sz := Nat.mul_le_mul_right sz hik
          rw [Nat.add_mul] at this
          omega
        refine ⟨x, ?_, (ho.keep hs fun b hb hlb => hkeep b (hG i j b hb).1 (hG i j b hb).2 hlb).wider fun b hb => .inl ⟨hik, hb⟩⟩
        rw [Nat.add_assoc] at hx ⊢
        rw [hold _ hm]
        exact hx
      · have hik' : i = k := by
          have := (List.getElem?_eq_some_iff.1 hi).1
          simp [hlen] at this
          omega
        subst hik'
        rw [List.getElem?_append_right (by omega)] at hi
        simp [hlen] at hi
        subst hi
        obtain ⟨x, hx, ho⟩ := hnew j d hj
        exact ⟨x, hx, ho.wider fun b hb => .inr ⟨rfl, hb⟩⟩

/-- one element more, its cells stored behind the others, its run in new memory -/
theorem Lo.push1 {E : Type} {cels : E → List Cel} {sz : Nat} {w w1 : World} {F : Nat → Prop} {g off k : Nat} {els : List E} (h : Lo cels sz w F (some ⟨g, off, none⟩) k els)
    (hb : Below w.heap.size w w1) (hg : F g) (hF : ∀ b, F b → b < w.heap.size) (hf : ∀ i, w1.frozen? ⟨g, i, none⟩ = false) (ht : w1.there g (off + k * sz) sz)
    (hl : ∀ e, (cels e).length = sz) (vs : List Value) (hvs : vs.length = sz) (e : E) (q : Nat) (B : Option Addr) (m : Nat) (l : List Int) (ho : Ow w1 w.heap.size B m l)
    (hd : ∀ j d, (cels e)[j]? = some d → ∃ x, vs[j]? = some x ∧ ((∃ y, d = .v y ∧ x = y) ∨ (j = q ∧ d = .b l ∧ ∃ c, x = .slice B m c ∧ (B = none → c = 0)))) :
    Lo cels sz (w1.setCells g (off + k * sz) vs) (fun b => F b ∨ (w.heap.size ≤ b ∧ b < w1.heap.size)) (some ⟨g, off, none⟩) (k + 1) (els ++ [e]) := by
  have hgl := hF g hg
  have hsz : (w1.setCells g (off + k * sz) vs).heap.size = w1.heap.size := sizeC ..
  have hblk : ∀ b, b ≠ g → b < w1.heap.size → (w1.setCells g (off + k * sz) vs).heap[b]? = w1.heap[b]? := fun b hne hlt => heapC _ _ hne _ _ _
  refine h.snoc (.inl hg) (by rw [hsz]; exact Nat.lt_of_lt_of_le hgl hb.size) (fun i => by rw [World.frozen?_setCells]; exact hf i) (by rw [hsz]; exact hb.size) (fun b hb => .inl hb) (fun b hFb hne hlt => ?_)
    (fun e _ => hl e) (fun i hi => ?_) e (fun j b => j = q ∧ 0 < m ∧ B = some ⟨b, 0, none⟩) (fun j b hjb => ?_) (fun j j' b h1 h2 => by rw [h1.1, h2.1]) (fun j d hj => ?_)
  · rw [hblk b hne (Nat.lt_of_lt_of_le hlt hb.size)]
    exact hb.block b hlt
  · rw [World.cell?_setCells_out _ _ _ _ _ (fun _ _ => .inl (by show off + i < off + k * sz; omega))]
    exact hb.cell (p := ⟨g, off + i, none⟩) hgl
  · obtain ⟨_, hm, rfl⟩ := hjb
    obtain ⟨b', e', h1, h2, _⟩ := ho.at_ hm
    injection e' with e'
    injection e' with e'
    subst e'
    exact ⟨.inr ⟨h1, h2⟩, by omega, fun hFb => by have := hF _ hFb; omega⟩
  · obtain ⟨x, hx, hr⟩ := hd j d hj
    have hjl : j < vs.length := (List.getElem?_eq_some_iff.1 hx).1
    refine ⟨x, ?_, ?_⟩
    · rw [World.cell?_setCells_in g vs (off + k * sz) w1 (fun i hi => (ht i (by omega)).1) j hjl, ← hx, List.getElem?_eq_getElem hjl]
    · rcases hr with ⟨y, rfl, rfl⟩ | ⟨rfl, rfl, c, rfl, hc⟩
      · rfl
      · refine ⟨B, m, c, rfl, Bo.keep (w := w1) ?_ (by rw [hsz]; exact Nat.le_refl _) (fun b hjb hlt => hblk b ?_ hlt), hc⟩
        · exact Bo.ofOw ho fun b hn hB h1 h2 => ⟨rfl, hn, hB⟩
        · obtain ⟨_, hm, rfl⟩ := hjb
          obtain ⟨b', e', h1, h2, _⟩ := ho.at_ hm
          injection e' with e'
          injection e' with e'
          subst e'
          omega


theorem made_size (v : Value) (n : Nat) : (madeCells v.cells n).size = n := by simp [madeCells]


/-- an element, opened; and the list behind it, once the element was turned -/
theorem Lo.upd {E : Type} {cels : E → List Cel} {sz : Nat} {w : World} {F : Nat → Prop} {A : Option Addr} {n : Nat} {els : List E} (h : Lo cels sz w F A n els) (hl : ∀ e, (cels e).length = sz) {k : Nat} {e : E} (hk : els[k]? = some e) :
    ∃ g off, ∃ G : Nat → Nat → Prop, A = some ⟨g, off, none⟩ ∧ F g ∧ g < w.heap.size ∧ (∀ i, w.frozen? ⟨g, i, none⟩ = false) ∧ (∀ j b, G j b → F b ∧ b ≠ g) ∧
      (∀ j d, (cels e)[j]? = some d → ∃ x, w.cell? ⟨g, off + k * sz + j, none⟩ = some x ∧ d.ow w (G j) x) ∧
      Shut (∀ (w' : World) (e' : E), w.heap.size ≤ w'.heap.size → (∀ i, w'.frozen? ⟨g, i, none⟩ = false) → (∀ b, F b → b ≠ g → (∀ j, ¬ G j b) → b < w.heap.size → w'.heap[b]? = w.heap[b]?) →
        (∀ m, m < off + k * sz ∨ off + k * sz + sz ≤ m → w'.cell? ⟨g, m, none⟩ = w.cell? ⟨g, m, none⟩) →
        (∀ j d, (cels e')[j]? = some d → ∃ x, w'.cell? ⟨g, off + k * sz + j, none⟩ = some x ∧ d.ow w' (G j) x) → Lo cels sz w' F A n (els.set k e')) := by
  have hkl := (List.getElem?_eq_some_iff.1 hk).1
  obtain ⟨g, off, G, rfl, hF, hlt, hf, hG, hD, hc⟩ := h.at_ (by have := h.len; omega)
  refine ⟨g, off, G k, rfl, hF, hlt, hf, fun j b hb => hG k j b hb, fun j d hj => hc k e hk j d hj, ⟨fun w' e' hs hf' hkeep hold hnew => ⟨by rw [List.length_set]; exact h.len, fun _ => ?_⟩⟩⟩
  refine ⟨g, off, G, rfl, hF, Nat.lt_of_lt_of_le hlt hs, hf', hG, hD, fun i el hi j d hj => ?_⟩
  by_cases hik : k = i
  · subst hik
    rw [List.getElem?_set_self hkl] at hi
    injection hi with hi
    subst hi
    exact hnew j d hj
  · rw [List.getElem?_set_ne hik] at hi
    obtain ⟨x, hx, ho⟩ := hc i el hi j d hj
    have hj' : j < sz := by
      rw [← hl el]
      exact (List.getElem?_eq_some_iff.1 hj).1
    refine ⟨x, ?_, ho.keep hs fun b hb hlb => hkeep b (hG i j b hb).1 (hG i j b hb).2 (fun j' hb' => hik (hD k j' i j b hb' hb).1) hlb⟩
    rw [hold _ ?_]
    · exact hx
    · rcases Nat.lt_or_gt_of_ne hik with h1 | h1
      · right
        have := Nat.mul_le_mul_right sz h1
        rw [Nat.succ_mul] at this
        omega
      · left
        have := Nat.mul_le_mul_right sz h1
        rw [Nat.succ_mul] at this
        omega

theorem cellOff {w : World} {g a b : Nat} (v : Value) (h : a ≠ b) : (w.setCell ⟨g, a, none⟩ v).cell? ⟨g, b, none⟩ = w.cell? ⟨g, b, none⟩ :=
  World.cell?_setCell_other _ _ _ _ (by intro e; injection e with _ e2; exact h e2)
theorem cellOn {w : World} {g a : Nat} {u : Value} (v : Value) (h : w.cell? ⟨g, a, none⟩ = some u) : (w.setCell ⟨g, a, none⟩ v).cell? ⟨g, a, none⟩ = some v :=
  World.cell?_setCell_same _ _ _ h
theorem heapOff {w : World} {g a b : Nat} (v : Value) (h : b ≠ g) : (w.setCell ⟨g, a, none⟩ v).heap[b]? = w.heap[b]? := Below.heap_setCell w ⟨g, a, none⟩ v b h
theorem Bo.remark {w w' : World} {F : Nat → Prop} {X : Nat} {A : Option Addr} {n : Nat} {l r : List Int} (h : Bo w F A n l) (k : Ow w' X A n r) : Bo w' F A n r :=
  Bo.ofOw k fun b hn e _ _ => by
    obtain ⟨b', e', hF, _⟩ := h.at_ hn
    rw [e] at e'
    injection e' with e'
    injection e' with e'
    exact e' ▸ hF
theorem Bo.apart {w : World} {F : Nat → Prop} {A : Option Addr} {n b : Nat} {l : List Int} (h : Bo w F A n l) (hb : ¬ F b) : 0 < n → ∀ a, A = some a → a.block ≠ b := fun hn a ha e => by
  obtain ⟨b', e', hF, _⟩ := h.at_ hn
  rw [ha] at e'
  injection e' with e'
  subst e'
  exact hb (e ▸ hF)
theorem Bo.inside {w : World} {F : Nat → Prop} {A : Option Addr} {n : Nat} {l : List Int} (h : Bo w F A n l) : 0 < n → ∀ a, A = some a → F a.block := fun hn a ha => by
  obtain ⟨b', e', hF, _⟩ := h.at_ hn
  rw [ha] at e'
  injection e' with e'
  subst e'
  exact hF
/-- what is left of a bound behind a list -/
def leftE {E : Type} (len : E → Nat) (x : Int) (n : Nat) (els : List E) : Int := leftC x (n + sumE len els)
end Go.Proofs.Ytgmbofoneeagiaa
