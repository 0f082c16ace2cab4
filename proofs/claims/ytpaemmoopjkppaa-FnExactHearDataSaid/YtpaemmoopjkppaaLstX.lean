import Derived.Test.YtpaemmoopjkppaaSymB
import Derived.Deep.MidRow
import Derived.Deep.RegionHeld3

/-! LstC -/
/- Lists of structs with runs of bytes in them: what they read as, and who owns them. -/
namespace Go.Proofs.Ytpaemmoopjkppaa
open Go.RowKit

/-- nothing but blocks of the set F is turned -/
structure Tu (F : Nat → Prop) (w w' : World) : Prop where
  os : w'.os = w.os
  tape : w'.tape = w.tape
  output : w'.output = w.output
  size : w.heap.size ≤ w'.heap.size
  block : ∀ k, k < w.heap.size → ¬ F k → w'.heap[k]? = w.heap[k]?
theorem Tu.refl (F : Nat → Prop) (w : World) : Tu F w w := ⟨rfl, rfl, rfl, Nat.le_refl _, fun _ _ _ => rfl⟩
theorem Tu.trans {F : Nat → Prop} {a b c : World} (h : Tu F a b) (k : Tu F b c) : Tu F a c :=
  ⟨k.os.trans h.os, k.tape.trans h.tape, k.output.trans h.output, Nat.le_trans h.size k.size, fun i hi hx => (k.block i (Nat.lt_of_lt_of_le hi h.size) hx).trans (h.block i hi hx)⟩
theorem Tu.ofBelow {F : Nat → Prop} {w w' : World} (h : Below w.heap.size w w') : Tu F w w' := ⟨h.os, h.tape, h.output, h.size, fun k hk _ => h.block k hk⟩
theorem Tu.wider {F G : Nat → Prop} {w w' : World} (h : Tu F w w') (hs : ∀ b, F b → G b) : Tu G w w' :=
  ⟨h.os, h.tape, h.output, h.size, fun k hk hx => h.block k hk (fun hf => hx (hs k hf))⟩
theorem Tu.below {F : Nat → Prop} {w w' : World} {C : Nat} (h : Tu F w w') (hC : C ≤ w.heap.size) (hb : ∀ b, F b → C ≤ b) : Below C w w' :=
  ⟨h.os, h.tape, h.output, h.size, fun k hk => h.block k (by omega) (fun hf => by have := hb k hf; omega)⟩
theorem Tu.drewN {F : Nat → Prop} {w w' : World} (h : Tu F w w') (q : Nat) : Tu F w (w'.drewN q) := ⟨h.os, h.tape, h.output, h.size, h.block⟩
theorem Tu.drew {F : Nat → Prop} {w w' : World} (h : Tu F w w') : Tu F w w'.drew := ⟨h.os, h.tape, h.output, h.size, h.block⟩
theorem Tu.set_ {F : Nat → Prop} {w w' : World} (h : Tu F w w') {p : Addr} (hp : F p.block) (v : Value) : Tu F w (w'.setCell p v) :=
  ⟨h.os, h.tape, h.output, by rw [World.size_setCell]; exact h.size, fun k hk hx => (Below.heap_setCell w' p v k (fun e => hx (e ▸ hp))).trans (h.block k hk hx)⟩
theorem Tu.ofOnly {F : Nat → Prop} {n : Nat} {A : Option Addr} {w w' : World} (h : Only n A w w') (hF : 0 < n → ∀ a, A = some a → F a.block) : Tu F w w' :=
  ⟨h.os, h.tape, h.output, by rw [h.size]; exact Nat.le_refl _, fun k _ hx => h.block k (fun hn a ha e => hx (e ▸ hF hn a ha))⟩
theorem Stc.tu {F : Nat → Prop} {w w' : World} {b : Nat} {l : List Value} {t : TypeId} (h : Stc w b l t) (k : Tu F w w') (hb : ¬ F b) : Stc w' b l t := (k.block b h.lt hb).trans h

/-- a run of bytes of the call's own, in a block of the set F -/
structure Bo (w : World) (F : Nat → Prop) (A : Option Addr) (n : Nat) (l : List Int) : Prop where
  len : l.length = n
  byte : By l
  at_ : 0 < n → ∃ b, A = some ⟨b, 0, none⟩ ∧ F b ∧ b < w.heap.size ∧ (∀ i, i < n → w.cell? ⟨b, i, none⟩ = some (.int .u8 (l.getD i 0))) ∧ ∀ i, w.frozen? ⟨b, i, none⟩ = false

section
variable {w w' : World} {F G : Nat → Prop} {A : Option Addr} {n : Nat} {l : List Int}
theorem Bo.ow {B : Nat} (h : Bo w F A n l) (hF : ∀ b, F b → B ≤ b) : Ow w B A n l :=
  ⟨h.len, h.byte, fun hn => by
    obtain ⟨b, e, hB, r⟩ := h.at_ hn
    exact ⟨b, e, hF b hB, r⟩⟩
theorem Bo.ow0 (h : Bo w F A n l) : Ow w 0 A n l := h.ow fun _ _ => Nat.zero_le _
theorem Bo.bs (h : Bo w F A n l) : Bs w A n l := h.ow0.bs
theorem Bo.ofOw {B : Nat} (h : Ow w B A n l) (hF : ∀ b, 0 < n → A = some ⟨b, 0, none⟩ → B ≤ b → b < w.heap.size → F b) : Bo w F A n l :=
  ⟨h.len, h.byte, fun hn => by
    obtain ⟨b, e, hB, hlt, r⟩ := h.at_ hn
    exact ⟨b, e, hF b hn e hB hlt, hlt, r⟩⟩
theorem Bo.keep (h : Bo w F A n l) (hs : w.heap.size ≤ w'.heap.size) (hk : ∀ b, F b → b < w.heap.size → w'.heap[b]? = w.heap[b]?) : Bo w' F A n l :=
  ⟨h.len, h.byte, fun hn => by
    obtain ⟨b, e, hF, hlt, hc, hf⟩ := h.at_ hn
    have hk := hk b hF hlt
    exact ⟨b, e, hF, Nat.lt_of_lt_of_le hlt hs, fun i hi => (World.cell?_of_block (a := ⟨b, i, none⟩) hk).trans (hc i hi), fun i => (World.frozen?_of_block (a := ⟨b, i, none⟩) hk).trans (hf i)⟩⟩
theorem Bo.wider (h : Bo w F A n l) (hs : ∀ b, F b → G b) : Bo w G A n l :=
  ⟨h.len, h.byte, fun hn => by
    obtain ⟨b, e, hF, r⟩ := h.at_ hn
    exact ⟨b, e, hs b hF, r⟩⟩
theorem Bo.tu {H : Nat → Prop} (h : Bo w F A n l) (t : Tu H w w') (hd : ∀ b, F b → ¬ H b) : Bo w' F A n l := h.keep t.size fun b hF hlt => t.block b hlt (hd b hF)
theorem Bo.below {C : Nat} (h : Bo w F A n l) (t : Below C w w') (hC : w.heap.size ≤ C) : Bo w' F A n l := h.keep t.size fun b _ hlt => t.block b (by omega)
theorem Bo.nil_ (w : World) (F : Nat → Prop) (A : Option Addr) : Bo w F A 0 [] := ⟨rfl, By.nil, fun h => absurd h (by omega)⟩
end

/-- what one cell of an element is: a plain value, or a run of bytes -/
inductive Cel where
  | v (x : Value)
  | b (l : List Int)

/-- the value x reads as that -/
def Cel.rd (w : World) (x : Value) : Cel → Prop
  | .v y => x = y
  | .b l => ∃ A n c, x = .slice A n c ∧ Bs w A n l ∧ (A = none → c = 0)
/-- .. and its bytes are of the call's own, in blocks of F -/
def Cel.ow (w : World) (F : Nat → Prop) (x : Value) : Cel → Prop
  | .v y => x = y
  | .b l => ∃ A n c, x = .slice A n c ∧ Bo w F A n l ∧ (A = none → c = 0)

theorem Cel.rd.keep {w w' : World} {x : Value} {d : Cel} (h : d.rd w x) (hk : ∀ p : Addr, p.block < w.heap.size → w'.cell? p = w.cell? p) (hs : w.heap.size ≤ w'.heap.size) : d.rd w' x := by
  cases d with
  | v y => exact h
  | b l =>
    obtain ⟨A, n, c, e, hb, hc⟩ := h
    exact ⟨A, n, c, e, hb.keep hk hs, hc⟩
theorem Cel.ow.rd {w : World} {F : Nat → Prop} {x : Value} {d : Cel} (h : d.ow w F x) : d.rd w x := by
  cases d with
  | v y => exact h
  | b l =>
    obtain ⟨A, n, c, e, hb, hc⟩ := h
    exact ⟨A, n, c, e, hb.bs, hc⟩
theorem Cel.ow.keep {w w' : World} {F : Nat → Prop} {x : Value} {d : Cel} (h : d.ow w F x) (hs : w.heap.size ≤ w'.heap.size) (hk : ∀ b, F b → b < w.heap.size → w'.heap[b]? = w.heap[b]?) : d.ow w' F x := by
  cases d with
  | v y => exact h
  | b l =>
    obtain ⟨A, n, c, e, hb, hc⟩ := h
    exact ⟨A, n, c, e, hb.keep hs hk, hc⟩
theorem Cel.ow.wider {w : World} {F G : Nat → Prop} {x : Value} {d : Cel} (h : d.ow w F x) (hs : ∀ b, F b → G b) : d.ow w G x := by
  cases d with
  | v y => exact h
  | b l =>
    obtain ⟨A, n, c, e, hb, hc⟩ := h
    exact ⟨A, n, c, e, hb.wider hs, hc⟩

/-- a slice of n elements of sz cells at A reads as els -/
structure Lst {E : Type} (cels : E → List Cel) (sz : Nat) (w : World) (A : Option Addr) (n : Nat) (els : List E) : Prop where
  len : els.length = n
  at_ : 0 < n → ∃ b off, A = some ⟨b, off, none⟩ ∧ b < w.heap.size ∧ ∀ i e, els[i]? = some e → ∀ j d, (cels e)[j]? = some d → ∃ x, w.cell? ⟨b, off + i * sz + j, none⟩ = some x ∧ d.rd w x

/-- a slice of n elements of sz cells at A, all of the call's own, in blocks of F -/
structure Lo {E : Type} (cels : E → List Cel) (sz : Nat) (w : World) (F : Nat → Prop) (A : Option Addr) (n : Nat) (els : List E) : Prop where
  len : els.length = n
  at_ : 0 < n → ∃ g off, ∃ G : Nat → Nat → Nat → Prop, A = some ⟨g, off, none⟩ ∧ F g ∧ g < w.heap.size ∧ (∀ i, w.frozen? ⟨g, i, none⟩ = false) ∧
    (∀ i j b, G i j b → F b ∧ b ≠ g) ∧ (∀ i j i' j' b, G i j b → G i' j' b → i = i' ∧ j = j') ∧
    ∀ i e, els[i]? = some e → ∀ j d, (cels e)[j]? = some d → ∃ x, w.cell? ⟨g, off + i * sz + j, none⟩ = some x ∧ d.ow w (G i j) x

section
variable {E : Type} {cels : E → List Cel} {sz : Nat} {w w' : World} {F H : Nat → Prop} {A : Option Addr} {n : Nat} {els : List E}
theorem Lst.keep (h : Lst cels sz w A n els) (hk : ∀ p : Addr, p.block < w.heap.size → w'.cell? p = w.cell? p) (hs : w.heap.size ≤ w'.heap.size) : Lst cels sz w' A n els :=
  ⟨h.len, fun hn => by
    obtain ⟨b, off, e, hlt, hc⟩ := h.at_ hn
    refine ⟨b, off, e, Nat.lt_of_lt_of_le hlt hs, fun i el hi j d hj => ?_⟩
    obtain ⟨x, hx, hr⟩ := hc i el hi j d hj
    exact ⟨x, (hk _ hlt).trans hx, hr.keep hk hs⟩⟩
theorem Lst.below (h : Lst cels sz w A n els) (hb : Below w.heap.size w w') : Lst cels sz w' A n els := h.keep (fun _ hp => hb.cell hp) hb.size
theorem Lst.drewN (h : Lst cels sz w A n els) (k : Nat) : Lst cels sz (w.drewN k) A n els := h.keep (fun _ _ => rfl) (Nat.le_refl _)
theorem Lst.alloc (h : Lst cels sz w A n els) (o : Obj) : Lst cels sz (w.alloc o) A n els := h.below ((Below.refl _ _).alloc (Nat.le_refl _) o)
theorem Lst.nil_ (w : World) (A : Option Addr) : Lst cels sz w A 0 [] := ⟨rfl, fun h => absurd h (by omega)⟩
theorem Lo.rows (h : Lo cels sz w F A n els) : Lst cels sz w A n els :=
  ⟨h.len, fun hn => by
    obtain ⟨g, off, G, e, _, hlt, _, _, _, hc⟩ := h.at_ hn
    refine ⟨g, off, e, hlt, fun i el hi j d hj => ?_⟩
    obtain ⟨x, hx, hr⟩ := hc i el hi j d hj
    exact ⟨x, hx, hr.rd⟩⟩
theorem Lo.keep (h : Lo cels sz w F A n els) (hs : w.heap.size ≤ w'.heap.size) (hk : ∀ b, F b → b < w.heap.size → w'.heap[b]? = w.heap[b]?) : Lo cels sz w' F A n els :=
  ⟨h.len, fun hn => by
    obtain ⟨g, off, G, e, hF, hlt, hf, hG, hD, hc⟩ := h.at_ hn
    have hg := hk g hF hlt
    refine ⟨g, off, G, e, hF, Nat.lt_of_lt_of_le hlt hs, fun i => (World.frozen?_of_block (a := ⟨g, i, none⟩) hg).trans (hf i), hG, hD, fun i el hi j d hj => ?_⟩
    obtain ⟨x, hx, hr⟩ := hc i el hi j d hj
    exact ⟨x, (World.cell?_of_block (a := ⟨g, _, none⟩) hg).trans hx, hr.keep hs fun b hb hl => hk b (hG i j b hb).1 hl⟩⟩
theorem Lo.tu (h : Lo cels sz w F A n els) (t : Tu H w w') (hd : ∀ b, F b → ¬ H b) : Lo cels sz w' F A n els := h.keep t.size fun b hF hlt => t.block b hlt (hd b hF)
theorem Lo.below {C : Nat} (h : Lo cels sz w F A n els) (t : Below C w w') (hC : w.heap.size ≤ C) : Lo cels sz w' F A n els := h.keep t.size fun b _ hlt => t.block b (by omega)
theorem Lo.wider (h : Lo cels sz w F A n els) (hs : ∀ b, F b → H b) : Lo cels sz w H A n els :=
  ⟨h.len, fun hn => by
    obtain ⟨g, off, G, e, hF, hlt, hf, hG, r⟩ := h.at_ hn
    exact ⟨g, off, G, e, hs g hF, hlt, hf, fun i j b hb => ⟨hs b (hG i j b hb).1, (hG i j b hb).2⟩, r⟩⟩
theorem Lo.nil_ (w : World) (F : Nat → Prop) (A : Option Addr) : Lo cels sz w F A 0 [] := ⟨rfl, fun h => absurd h (by omega)⟩
end

/-- a number of each element, all together -/
def sumE {E : Type} (f : E → Nat) : List E → Nat
  | [] => 0
  | e :: r => f e + sumE f r
theorem sumE_append {E : Type} (f : E → Nat) (a b : List E) : sumE f (a ++ b) = sumE f a + sumE f b := by
  induction a with
  | nil => simp [sumE]
  | cons x r ih => simp [sumE, ih]; omega
theorem sumE_mem {E : Type} (f : E → Nat) {els : List E} {e : E} (h : e ∈ els) : f e ≤ sumE f els := by
  induction els with
  | nil => cases h
  | cons x r ih =>
    rcases List.mem_cons.1 h with rfl | h
    · simp [sumE]
    · have := ih h; simp [sumE]; omega
theorem sumE_take_succ {E : Type} (f : E → Nat) {els : List E} {e : E} {k : Nat} (h : els[k]? = some e) : sumE f (els.take (k + 1)) = sumE f (els.take k) + f e := by
  rw [List.take_add_one, h]
  simp [sumE_append, sumE]
theorem sumE_take_le {E : Type} (f : E → Nat) (els : List E) (k : Nat) : sumE f (els.take k) ≤ sumE f els := by
  have := sumE_append f (els.take k) (els.drop k)
  rw [List.take_append_drop] at this
  omega
/-- a list marked from k on -/
def markE {E : Type} (mk : Int → E → E) (wd : E → Nat) (k : Int) : List E → List E
  | [] => []
  | e :: r => mk k e :: markE mk wd (k + (wd e : Int)) r
theorem markE_append {E : Type} (mk : Int → E → E) (wd : E → Nat) (k : Int) (a b : List E) : markE mk wd k (a ++ b) = markE mk wd k a ++ markE mk wd (k + (sumE wd a : Int)) b := by
  induction a generalizing k with
  | nil => simp [markE, sumE]
  | cons x r ih => simp [markE, sumE, ih, Int.add_assoc]
theorem markE_len {E : Type} (mk : Int → E → E) (wd : E → Nat) (k : Int) (a : List E) : (markE mk wd k a).length = a.length := by
  induction a generalizing k with
  | nil => rfl
  | cons x r ih => simp [markE, ih]
theorem markE_get {E : Type} (mk : Int → E → E) (wd : E → Nat) (k : Int) {els : List E} {i : Nat} {e : E} (h : els[i]? = some e) : (markE mk wd k els)[i]? = some (mk (k + (sumE wd (els.take i) : Int)) e) := by
  induction els generalizing k i with
  | nil => simp at h
  | cons x r ih =>
    cases i with
    | zero => simp at h; subst h; simp [markE, sumE]
    | succ i =>
      simp at h
      simp [markE, sumE, ih _ h, Int.add_assoc]
/-- the first i of a list are marked -/
def markd_ {E : Type} (mk : Int → E → E) (wd : E → Nat) (k : Int) (els : List E) (i : Nat) : List E := markE mk wd k (els.take i) ++ els.drop i
theorem markd_zero_ {E : Type} (mk : Int → E → E) (wd : E → Nat) (k : Int) (els : List E) : markd_ mk wd k els 0 = els := by simp [markd_, markE]
theorem markd_full_ {E : Type} (mk : Int → E → E) (wd : E → Nat) (k : Int) (els : List E) (n : Nat) (h : els.length = n) : markd_ mk wd k els n = markE mk wd k els := by
  subst h; simp [markd_]
theorem markd_get_ {E : Type} (mk : Int → E → E) (wd : E → Nat) (k : Int) {els : List E} {i : Nat} {e : E} (h : els[i]? = some e) : (markd_ mk wd k els i)[i]? = some e := by
  have hi := (List.getElem?_eq_some_iff.1 h).1
  have hl : (markE mk wd k (els.take i)).length = i := by rw [markE_len, List.length_take]; omega
  unfold markd_
  rw [List.getElem?_append_right (by omega), hl]
  simp [h]
theorem markd_set_ {E : Type} (mk : Int → E → E) (wd : E → Nat) (k : Int) {els : List E} {i : Nat} {e : E} (h : els[i]? = some e) :
    (markd_ mk wd k els i).set i (mk (k + (sumE wd (els.take i) : Int)) e) = markd_ mk wd k els (i + 1) := by
  have hi := (List.getElem?_eq_some_iff.1 h).1
  have hl : (markE mk wd k (els.take i)).length = i := by rw [markE_len, List.length_take]; omega
  unfold markd_
  rw [List.set_append_right _ _ (by omega), hl, List.take_add_one, h]
  simp [markE_append, markE]
  rw [List.drop_eq_getElem_cons hi]
  rfl

theorem sizeC (b : Nat) : ∀ (vs : List Value) (o : Nat) (w : World), (w.setCells b o vs).heap.size = w.heap.size
  | [], _, _ => rfl
  | v :: r, o, w => by rw [World.setCells, sizeC b r, World.size_setCell]
theorem heapC (b k : Nat) (hk : k ≠ b) : ∀ (vs : List Value) (o : Nat) (w : World), (w.setCells b o vs).heap[k]? = w.heap[k]?
  | [], _, _ => rfl
  | v :: r, o, w => by
    rw [World.setCells, heapC b k hk r]
    exact Below.heap_setCell w ⟨b, o, none⟩ v k hk

/-- a block of m cells, none frozen -/
def Spn (w : World) (g m : Nat) (t : TypeId) : Prop := ∃ cs : Array Value, w.heap[g]? = some (.cells cs t (0, 0)) ∧ cs.size = m
section
variable {w w' : World} {g m : Nat} {t : TypeId}
theorem Spn.lt (h : Spn w g m t) : g < w.heap.size := by
  obtain ⟨cs, h, _⟩ := h
  exact (Array.getElem?_eq_some_iff.1 h).1
theorem Spn.keep (h : Spn w g m t) (e : w'.heap[g]? = w.heap[g]?) : Spn w' g m t := by
  obtain ⟨cs, h, hm⟩ := h
  exact ⟨cs, e.trans h, hm⟩
theorem Spn.frozen (h : Spn w g m t) (i : Nat) : w.frozen? ⟨g, i, none⟩ = false := by
  obtain ⟨cs, h, _⟩ := h
  simp [World.frozen?, h]
theorem Spn.cell (h : Spn w g m t) {i : Nat} (hi : i < m) : ∃ x, w.cell? ⟨g, i, none⟩ = some x := by
  obtain ⟨cs, h, hm⟩ := h
  exact ⟨cs[i], by rw [cell_of_row w g i _ _ (0, 0) h]; exact Array.getElem?_eq_getElem _⟩
theorem Spn.there (h : Spn w g m t) {o n : Nat} (hi : o + n ≤ m) : w.there g o n := fun j hj => by
  obtain ⟨x, hx⟩ := h.cell (i := o + j) (by omega)
  exact ⟨by rw [hx]; rfl, h.frozen _⟩
theorem Spn.set_ (h : Spn w g m t) (i : Nat) (v : Value) : Spn (w.setCell ⟨g, i, none⟩ v) g m t := by
  obtain ⟨cs, h, hm⟩ := h
  refine ⟨cs.setIfInBounds i v, ?_, by simpa using hm⟩
  simp [World.setCell, Array.getElem?_modify, h]
theorem Spn.new (w : World) (cs : Array Value) (t : TypeId) (hm : cs.size = m) : Spn (w.alloc (.cells cs t)) w.heap.size m t := ⟨cs, heap_alloc_new w _, hm⟩
theorem Spn.below {B : Nat} (h : Spn w g m t) (hb : Below B w w') (hl : g < B) : Spn w' g m t := h.keep (hb.block g hl)
end

/-- one element more -/
theorem Lo.snoc {E : Type} {cels : E → List Cel} {sz : Nat} {w w' : World} {F F' : Nat → Prop} {g off k : Nat} {els : List E} (h : Lo cels sz w F (some ⟨g, off, none⟩) k els)
    (hg : F' g) (hlt : g < w'.heap.size) (hf : ∀ i, w'.frozen? ⟨g, i, none⟩ = false) (hs : w.heap.size ≤ w'.heap.size) (hF : ∀ b, F b → F' b)
    (hkeep : ∀ b, F b → b ≠ g → b < w.heap.size → w'.heap[b]? = w.heap[b]?) (hl : ∀ e ∈ els, (cels e).length = sz)
    (hold : ∀ m, m < k * sz → w'.cell? ⟨g, off + m, none⟩ = w.cell? ⟨g, off + m, none⟩)
    (e : E) (Gn : Nat → Nat → Prop) (hGn : ∀ j b, Gn j b → F' b ∧ b ≠ g ∧ ¬ F b) (hGd : ∀ j j' b, Gn j b → Gn j' b → j = j')
    (hnew : ∀ j d, (cels e)[j]? = some d → ∃ x, w'.cell? ⟨g, off + k * sz + j, none⟩ = some x ∧ d.ow w' (Gn j) x) :
    Lo cels sz w' F' (some ⟨g, off, none⟩) (k + 1) (els ++ [e]) := by
  have hlen := h.len
  refine ⟨by simp [hlen], fun _ => ?_⟩
  rcases Nat.eq_zero_or_pos k with rfl | hk
  · obtain rfl : els = [] := List.length_eq_zero_iff.1 hlen
    refine ⟨g, off, fun i j b => i = 0 ∧ Gn j b, rfl, hg, hlt, hf, fun i j b hb => ⟨(hGn j b hb.2).1, (hGn j b hb.2).2.1⟩, fun i j i' j' b hb hb' => ⟨by rw [hb.1, hb'.1], hGd j j' b hb.2 hb'.2⟩, fun i el hi j d hj => ?_⟩
    have hi0 : i = 0 := by
      have := (List.getElem?_eq_some_iff.1 hi).1
      simp at this
      exact this
    subst hi0
    simp at hi
    subst hi
    obtain ⟨x, hx, ho⟩ := hnew j d hj
    exact ⟨x, hx, ho.wider fun b hb => ⟨rfl, hb⟩⟩
  · obtain ⟨g0, off0, G, e0, hFg, _, _, hG, hD, hc⟩ := h.at_ hk
    injection e0 with e0
    injection e0 with e1 e2 _
    subst e1 e2
    refine ⟨g, off, fun i j b => (i < k ∧ G i j b) ∨ (i = k ∧ Gn j b), rfl, hg, hlt, hf, fun i j b hb => ?_, fun i j i' j' b hb hb' => ?_, fun i el hi j d hj => ?_⟩
    · rcases hb with ⟨_, hb⟩ | ⟨_, hb⟩
      · exact ⟨hF b (hG i j b hb).1, (hG i j b hb).2⟩
      · exact ⟨(hGn j b hb).1, (hGn j b hb).2.1⟩
    · rcases hb with ⟨_, hb⟩ | ⟨h1, hb⟩ <;> rcases hb' with ⟨_, hb'⟩ | ⟨h2, hb'⟩
      · exact hD i j i' j' b hb hb'
      · exact absurd (hG i j b hb).1 (hGn j' b hb').2.2
      · exact absurd (hG i' j' b hb').1 (hGn j b hb).2.2
      · exact ⟨by rw [h1, h2], hGd j j' b hb hb'⟩
    · by_cases hik : i < k
      · rw [List.getElem?_append_left (by omega)] at hi
        obtain ⟨x, hx, ho⟩ := hc i el hi j d hj
        have hj' : j < sz := by
          rw [← hl el (List.mem_of_getElem? hi)]
          exact (List.getElem?_eq_some_iff.1 hj).1
        have hm : i * sz + j < k * sz := by
          have : (i + 1) * sz ≤ k * sz := Nat.mul_le_mul_right sz hik
          rw [Nat.add_mul] at this
          omega
        refine ⟨x, ?_, (ho.keep hs fun b hb hlb => hkeep b (hG i j b hb).1 (hG i j b hb).2 hlb).wider fun b hb => .inl ⟨hik, hb⟩⟩
        rw [Nat.add_assoc] at hx ⊢
        rw [hold _ hm]
        exact hx
      · have hik' : i = k := by
          have := (List.getElem?_eq_some_iff.1 hi).1
          simp [hlen] at this
          omega
        subst hik'
        rw [List.getElem?_append_right (by omega)] at hi
        simp [hlen] at hi
        subst hi
        obtain ⟨x, hx, ho⟩ := hnew j d hj
        exact ⟨x, hx, ho.wider fun b hb => .inr ⟨rfl, hb⟩⟩

/-- one element more, its cells stored behind the others, its run in new memory -/
theorem Lo.push1 {E : Type} {cels : E → List Cel} {sz : Nat} {w w1 : World} {F : Nat → Prop} {g off k : Nat} {els : List E} (h : Lo cels sz w F (some ⟨g, off, none⟩) k els)
    (hb : Below w.heap.size w w1) (hg : F g) (hF : ∀ b, F b → b < w.heap.size) (hf : ∀ i, w1.frozen? ⟨g, i, none⟩ = false) (ht : w1.there g (off + k * sz) sz)
    (hl : ∀ e, (cels e).length = sz) (vs : List Value) (hvs : vs.length = sz) (e : E) (q : Nat) (B : Option Addr) (m : Nat) (l : List Int) (ho : Ow w1 w.heap.size B m l)
    (hd : ∀ j d, (cels e)[j]? = some d → ∃ x, vs[j]? = some x ∧ ((∃ y, d = .v y ∧ x = y) ∨ (j = q ∧ d = .b l ∧ ∃ c, x = .slice B m c ∧ (B = none → c = 0)))) :
    Lo cels sz (w1.setCells g (off + k * sz) vs) (fun b => F b ∨ (w.heap.size ≤ b ∧ b < w1.heap.size)) (some ⟨g, off, none⟩) (k + 1) (els ++ [e]) := by
  have hgl := hF g hg
  have hsz : (w1.setCells g (off + k * sz) vs).heap.size = w1.heap.size := sizeC ..
  have hblk : ∀ b, b ≠ g → b < w1.heap.size → (w1.setCells g (off + k * sz) vs).heap[b]? = w1.heap[b]? := fun b hne hlt => heapC _ _ hne _ _ _
  refine h.snoc (.inl hg) (by rw [hsz]; exact Nat.lt_of_lt_of_le hgl hb.size) (fun i => by rw [World.frozen?_setCells]; exact hf i) (by rw [hsz]; exact hb.size) (fun b hb => .inl hb) (fun b hFb hne hlt => ?_)
    (fun e _ => hl e) (fun i hi => ?_) e (fun j b => j = q ∧ 0 < m ∧ B = some ⟨b, 0, none⟩) (fun j b hjb => ?_) (fun j j' b h1 h2 => by rw [h1.1, h2.1]) (fun j d hj => ?_)
  · rw [hblk b hne (Nat.lt_of_lt_of_le hlt hb.size)]
    exact hb.block b hlt
  · rw [World.cell?_setCells_out _ _ _ _ _ (fun _ _ => .inl (by show off + i < off + k * sz; omega))]
    exact hb.cell (p := ⟨g, off + i, none⟩) hgl
  · obtain ⟨_, hm, rfl⟩ := hjb
    obtain ⟨b', e', h1, h2, _⟩ := ho.at_ hm
    injection e' with e'
    injection e' with e'
    subst e'
    exact ⟨.inr ⟨h1, h2⟩, by omega, fun hFb => by have := hF _ hFb; omega⟩
  · obtain ⟨x, hx, hr⟩ := hd j d hj
    have hjl : j < vs.length := (List.getElem?_eq_some_iff.1 hx).1
    refine ⟨x, ?_, ?_⟩
    · rw [World.cell?_setCells_in g vs (off + k * sz) w1 (fun i hi => (ht i (by omega)).1) j hjl, ← hx, List.getElem?_eq_getElem hjl]
    · rcases hr with ⟨y, rfl, rfl⟩ | ⟨rfl, rfl, c, rfl, hc⟩
      · rfl
      · refine ⟨B, m, c, rfl, Bo.keep (w := w1) ?_ (by rw [hsz]; exact Nat.le_refl _) (fun b hjb hlt => hblk b ?_ hlt), hc⟩
        · exact Bo.ofOw ho fun b hn hB h1 h2 => ⟨rfl, hn, hB⟩
        · obtain ⟨_, hm, rfl⟩ := hjb
          obtain ⟨b', e', h1, h2, _⟩ := ho.at_ hm
          injection e' with e'
          injection e' with e'
          subst e'
          omega


theorem made_size (v : Value) (n : Nat) : (madeCells v.cells n).size = n := by simp [madeCells]


/-- an element, opened; and the list behind it, once the element was turned -/
theorem Lo.upd {E : Type} {cels : E → List Cel} {sz : Nat} {w : World} {F : Nat → Prop} {A : Option Addr} {n : Nat} {els : List E} (h : Lo cels sz w F A n els) (hl : ∀ e, (cels e).length = sz) {k : Nat} {e : E} (hk : els[k]? = some e) :
    ∃ g off, ∃ G : Nat → Nat → Prop, A = some ⟨g, off, none⟩ ∧ F g ∧ g < w.heap.size ∧ (∀ i, w.frozen? ⟨g, i, none⟩ = false) ∧ (∀ j b, G j b → F b ∧ b ≠ g) ∧
      (∀ j d, (cels e)[j]? = some d → ∃ x, w.cell? ⟨g, off + k * sz + j, none⟩ = some x ∧ d.ow w (G j) x) ∧
      Shut (∀ (w' : World) (e' : E), w.heap.size ≤ w'.heap.size → (∀ i, w'.frozen? ⟨g, i, none⟩ = false) → (∀ b, F b → b ≠ g → (∀ j, ¬ G j b) → b < w.heap.size → w'.heap[b]? = w.heap[b]?) →
        (∀ m, m < off + k * sz ∨ off + k * sz + sz ≤ m → w'.cell? ⟨g, m, none⟩ = w.cell? ⟨g, m, none⟩) →
        (∀ j d, (cels e')[j]? = some d → ∃ x, w'.cell? ⟨g, off + k * sz + j, none⟩ = some x ∧ d.ow w' (G j) x) → Lo cels sz w' F A n (els.set k e')) := by
  have hkl := (List.getElem?_eq_some_iff.1 hk).1
  obtain ⟨g, off, G, rfl, hF, hlt, hf, hG, hD, hc⟩ := h.at_ (by have := h.len; omega)
  refine ⟨g, off, G k, rfl, hF, hlt, hf, fun j b hb => hG k j b hb, fun j d hj => hc k e hk j d hj, ⟨fun w' e' hs hf' hkeep hold hnew => ⟨by rw [List.length_set]; exact h.len, fun _ => ?_⟩⟩⟩
  refine ⟨g, off, G, rfl, hF, Nat.lt_of_lt_of_le hlt hs, hf', hG, hD, fun i el hi j d hj => ?_⟩
  by_cases hik : k = i
  · subst hik
    rw [List.getElem?_set_self hkl] at hi
    injection hi with hi
    subst hi
    exact hnew j d hj
  · rw [List.getElem?_set_ne hik] at hi
    obtain ⟨x, hx, ho⟩ := hc i el hi j d hj
    have hj' : j < sz := by
      rw [← hl el]
      exact (List.getElem?_eq_some_iff.1 hj).1
    refine ⟨x, ?_, ho.keep hs fun b hb hlb => hkeep b (hG i j b hb).1 (hG i j b hb).2 (fun j' hb' => hik (hD k j' i j b hb' hb).1) hlb⟩
    rw [hold _ ?_]
    · exact hx
    · rcases Nat.lt_or_gt_of_ne hik with h1 | h1
      · right
        have := Nat.mul_le_mul_right sz h1
        rw [Nat.succ_mul] at this
        omega
      · left
        have := Nat.mul_le_mul_right sz h1
        rw [Nat.succ_mul] at this
        omega

theorem cellOff {w : World} {g a b : Nat} (v : Value) (h : a ≠ b) : (w.setCell ⟨g, a, none⟩ v).cell? ⟨g, b, none⟩ = w.cell? ⟨g, b, none⟩ :=
  World.cell?_setCell_other _ _ _ _ (by intro e; injection e with _ e2; exact h e2)
theorem cellOn {w : World} {g a : Nat} {u : Value} (v : Value) (h : w.cell? ⟨g, a, none⟩ = some u) : (w.setCell ⟨g, a, none⟩ v).cell? ⟨g, a, none⟩ = some v :=
  World.cell?_setCell_same _ _ _ h
theorem heapOff {w : World} {g a b : Nat} (v : Value) (h : b ≠ g) : (w.setCell ⟨g, a, none⟩ v).heap[b]? = w.heap[b]? := Below.heap_setCell w ⟨g, a, none⟩ v b h
theorem Bo.remark {w w' : World} {F : Nat → Prop} {X : Nat} {A : Option Addr} {n : Nat} {l r : List Int} (h : Bo w F A n l) (k : Ow w' X A n r) : Bo w' F A n r :=
  Bo.ofOw k fun b hn e _ _ => by
    obtain ⟨b', e', hF, _⟩ := h.at_ hn
    rw [e] at e'
    injection e' with e'
    injection e' with e'
    exact e' ▸ hF
theorem Bo.apart {w : World} {F : Nat → Prop} {A : Option Addr} {n b : Nat} {l : List Int} (h : Bo w F A n l) (hb : ¬ F b) : 0 < n → ∀ a, A = some a → a.block ≠ b := fun hn a ha e => by
  obtain ⟨b', e', hF, _⟩ := h.at_ hn
  rw [ha] at e'
  injection e' with e'
  subst e'
  exact hb (e ▸ hF)
theorem Bo.inside {w : World} {F : Nat → Prop} {A : Option Addr} {n : Nat} {l : List Int} (h : Bo w F A n l) : 0 < n → ∀ a, A = some a → F a.block := fun hn a ha => by
  obtain ⟨b', e', hF, _⟩ := h.at_ hn
  rw [ha] at e'
  injection e' with e'
  subst e'
  exact hF
/-- what is left of a bound behind a list -/
def leftE {E : Type} (len : E → Nat) (x : Int) (n : Nat) (els : List E) : Int := leftC x (n + sumE len els)
end Go.Proofs.Ytpaemmoopjkppaa

/-! PartC -/
/- The laws' helpers for Part and lists of it. -/
namespace Go.Proofs.Ytpaemmoopjkppaa
open Go.RowKit

/-- what an element is -/
structure PartD where
  f0 : List Int
  f1 : Bool
  f2 : Int
  f3 : Bool
def PartD.cels (d : PartD) : List Cel := [.b d.f0, .v (.bool d.f1), .v (.int .i64 d.f2), .v (.bool d.f3)]

set_option maxHeartbeats 1000000 in
theorem toPart_any (x1 : Bool) (x2 : Int) (x3 : Bool) (A : Option Addr) (n e : Nat) (l : List Int) (w : World) (h : Bs w A n l) (hn : n ≤ 140737488351232) :
    Calls Try.prog 123 #[.agg #[.slice A n e, .bool x1, .int .i64 x2, .bool x3]] w fun e w' => (∃ g, e = .returned (.agg #[.slice (some ⟨g, 0, none⟩) n n, .bool x1, .int .i64 x2, .bool x3]) ∧ Ow w' w.heap.size (some ⟨g, 0, none⟩) n l) ∧ Below w.heap.size w w' := by
  have S1 := ((Stc.new (w.alloc (.cells #[.slice A n e, .bool x1, .int .i64 x2, .bool x3] 168)) 156 [.slice none 0 0, .bool false, .int .i64 0, .bool false] _ rfl).alloc (.cells #[.slice none 0 0, .bool false, .int .i64 0, .bool false] 156))
  have S2 := (Stc.new ((w.alloc (.cells #[.slice A n e, .bool x1, .int .i64 x2, .bool x3] 168)).alloc (.cells #[.slice none 0 0, .bool false, .int .i64 0, .bool false] 156)) 156 [.slice none 0 0, .bool false, .int .i64 0, .bool false] _ rfl)
  have B0 := ab (ab (ab (Below.refl _ w) (.cells #[.slice A n e, .bool x1, .int .i64 x2, .bool x3] 168)) (.cells #[.slice none 0 0, .bool false, .int .i64 0, .bool false] 156)) (.cells #[.slice none 0 0, .bool false, .int .i64 0, .bool false] 156)
  have S0 := ((Stc.new w 168 [.slice A n e, .bool x1, .int .i64 x2, .bool x3] _ rfl).alloc (.cells #[.slice none 0 0, .bool false, .int .i64 0, .bool false] 156)).alloc (.cells #[.slice none 0 0, .bool false, .int .i64 0, .bool false] 156)
  simp only [World.size_alloc] at S1 S2
  go_enter Try.func123, Try.ntmps123
  go_wp2_with fail
  refine (toByteS_any _ _ _ _ _ (h.below B0) hn).mono ?_
  rintro e w1 ⟨rfl, k1, b1⟩
  have z1 := b1.size
  simp only [World.size_alloc] at k1 z1 ⊢
  have u1 := k1.lt
  have B1 := ac B0 b1
  replace S0 := S0.below b1 (by simp; omega)
  replace S1 := S1.below b1 (by simp)
  replace S2 := S2.below b1 (by simp)
  clear b1 B0
  have x0_ := S1.cell (i := 0) rfl
  have x1_ := S1.cell (i := 1) rfl
  have x2_ := S1.cell (i := 2) rfl
  have x3_ := S1.cell (i := 3) rfl
  have y0_ := S2.cell (i := 0) rfl
  have y1_ := S2.cell (i := 1) rfl
  have y2_ := S2.cell (i := 2) rfl
  have y3_ := S2.cell (i := 3) rfl
  have v0_ := S0.cell (i := 0) rfl
  have v1_ := S0.cell (i := 1) rfl
  have v2_ := S0.cell (i := 2) rfl
  have v3_ := S0.cell (i := 3) rfl
  have y6 := S2.frozen
  have y7 := S1.frozen
  go_wp2
  refine bodyPost_ret (v := .agg #[.slice (some ⟨w.heap.size + 1 + 1 + 1, 0, none⟩) n n, .bool x1, .int .i64 x2, .bool x3]) (by simp [results, Try.results123, go_sem, x0_, x1_, x2_, x3_]) rfl ?_
  have q1 : Ow w1 (w.heap.size + 1 + 1 + 1) (some ⟨w.heap.size + 1 + 1 + 1, 0, none⟩) n l := k1.own h.byte h.len
  refine ⟨⟨_, rfl, ((((((((q1.far ?_ _).far ?_ _).far ?_ _).far ?_ _).far ?_ _).far ?_ _).far ?_ _).far ?_ _).mono (by omega)⟩, ?_⟩
  · simp
  · simp
  · simp
  · simp
  · simp
  · simp
  · simp
  · simp
  · exact ((((((((B1.setCell (by first | (simp; done) | (simp; omega)) _).setCell (by first | (simp; done) | (simp; omega)) _).setCell (by first | (simp; done) | (simp; omega)) _).setCell (by first | (simp; done) | (simp; omega)) _).setCell (by first | (simp; done) | (simp; omega)) _).setCell (by first | (simp; done) | (simp; omega)) _).setCell (by first | (simp; done) | (simp; omega)) _).setCell (by first | (simp; done) | (simp; omega)) _)

theorem szPart_any (x1 : Bool) (x2 : Int) (x3 : Bool) (A : Option Addr) (n e : Nat) (x : Int) (w : World) (h0 : 0 ≤ x) (h1 : x ≤ 1048576) (hn : n ≤ 9223372036854775807) :
    Calls Try.prog 122 #[.agg #[.slice A n e, .bool x1, .int .i64 x2, .bool x3], .int .i64 x] w fun e w' => e = .returned (.int .i64 (leftC x n)) ∧ Below w.heap.size w w' := by
  have e1 := fun w => szByteS_any A n e x w h0 h1 hn
  have hb : leftC x n ≤ 1048576 ∧ -1 ≤ leftC x n := by unfold leftC; split <;> omega
  by_cases hy : leftC x n < 0
  · have e2 : leftC x n = -1 := by unfold leftC at hy ⊢; split at hy <;> omega
    unfold leftC at e2
    rw [e2] at e1
    unfold leftC
    rw [e2]
    clear e2 hy hb h0 h1
    go_enter Try.func122, Try.ntmps122
    go_wp2_with fail
    refine (e1 _).mono ?_
    rintro e w' ⟨rfl, rfl⟩
    go_wp2
    go_ret
    exact ⟨rfl, ab (Below.refl _ _) _⟩
  · unfold leftC at hy ⊢
    generalize (if x - (n : Int) < 0 then -1 else x - (n : Int)) = y at *
    go_enter Try.func122, Try.ntmps122
    go_wp2_with fail
    refine (e1 _).mono ?_
    rintro e w' ⟨rfl, rfl⟩
    go_wp2
    go_ret
    exact ⟨rfl, ab (Below.refl _ _) _⟩

theorem eqPart_any (x1 : Bool) (x2 : Int) (x3 : Bool) (A A' : Option Addr) (n f f' : Nat) (l : List Int) (w : World) (h : Bs w A n l) (h' : Bs w A' n l) (hn : n ≤ 140737488351232) :
    Calls Try.prog 124 #[.agg #[.slice A n f, .bool x1, .int .i64 x2, .bool x3], .agg #[.slice A' n f', .bool x1, .int .i64 x2, .bool x3]] w fun e w' => e = .returned (.bool true) ∧ Below w.heap.size w w' := by
  have e1 := fun W a b => eqByteS_any A A' n f n f' l l W a b hn hn
  simp only [decide_true] at e1
  go_enter Try.func124, Try.ntmps124
  go_wp2_with fail
  refine (e1 _ ((h.alloc _).alloc _) ((h'.alloc _).alloc _)).mono ?_
  rintro e w' ⟨rfl, q1, rfl⟩
  go_wp2
  go_returns
  exact ⟨rfl, ad (ab (ab (Below.refl _ _) _) _) _⟩


theorem Lst.getPart {w : World} {A : Option Addr} {n : Nat} {els : List PartD} (h : Lst PartD.cels 4 w A n els) {k : Nat} (hk : k < n) :
    ∃ b off e B m c, A = some ⟨b, off, none⟩ ∧ b < w.heap.size ∧ Shut (els[k]? = some e) ∧ w.cell? ⟨b, off + k * 4, none⟩ = some (.slice B m c) ∧ w.cell? ⟨b, off + k * 4 + 1, none⟩ = some (.bool e.f1) ∧ w.cell? ⟨b, off + k * 4 + 2, none⟩ = some (.int .i64 e.f2) ∧ w.cell? ⟨b, off + k * 4 + 3, none⟩ = some (.bool e.f3) ∧ Bs w B m e.f0 ∧ Shut (B = none → c = 0) := by
  obtain ⟨b, off, rfl, hbs, hc⟩ := h.at_ (by omega)
  have he : els[k]? = some (els[k]'(by rw [h.len]; exact hk)) := List.getElem?_eq_getElem _
  obtain ⟨x0, h0, B, m, c, rfl, hb, hz⟩ := hc k _ he 0 _ rfl
  obtain ⟨x1, h1, rfl⟩ := hc k _ he 1 _ rfl
  obtain ⟨x2, h2, rfl⟩ := hc k _ he 2 _ rfl
  obtain ⟨x3, h3, rfl⟩ := hc k _ he 3 _ rfl
  exact ⟨b, off, _, B, m, c, rfl, hbs, ⟨he⟩, h0, h1, h2, h3, hb, ⟨hz⟩⟩

theorem info_Part : (Try.prog.info? 156).map (fun i => (i.zero, i.size, i.bytes)) = some (some (.agg #[.slice none 0 0, .bool false, .int .i64 0, .bool false]), 4, 48) := by kernel_rfl

theorem run_make_Part (n : Nat) (hn : n ≤ 1048576) (w : World) : ∃ cs : Array Value, cs.size = n * 4 ∧
    (Instr.makeSlice 111 (.int .i64 (n : Int)) (.int .i64 (n : Int))).run Try.prog w = .ok (.slice (some ⟨w.heap.size, 0, none⟩) n n) (w.alloc (.cells cs 156)) := by
  obtain ⟨i, hi, hz0, hz1, hz2⟩ := info_parts info_Part
  have hr := run_make (P := Try.prog) w 111 156 i _ Try.underlying111 hi hz0 .i64 .i64 n n (by omega) (by omega) (by rw [hz2]; omega) (by omega)
  simp only [Int.toNat_natCast] at hr
  exact ⟨_, by rw [made_size, hz1], hr⟩

set_option maxHeartbeats 1000000 in
theorem toPartS_any (A : Option Addr) (n c : Nat) (els : List PartD) (w : World) (h : Lst PartD.cels 4 w A n els) (hn : n ≤ 1048576) (hb : ∀ e ∈ els, e.f0.length ≤ 1048576) :
    Calls Try.prog 119 #[.slice A n c] w fun e w' => (e = .returned (.slice (some ⟨w.heap.size, 0, none⟩) n n) ∧ Lo PartD.cels 4 w' (fun b => w.heap.size ≤ b ∧ b < w'.heap.size) (some ⟨w.heap.size, 0, none⟩) n els) ∧ Below w.heap.size w w' := by
  obtain ⟨cs, hcs, hmk⟩ := run_make_Part n hn w
  go_enter Try.func119, Try.ntmps119
  go_wp2
  clear hmk
  go_loopw [4] (fun i wr => ∃ k : Nat, k ≤ n ∧ i = .int .i64 k ∧ Spn wr w.heap.size (n * 4) 156 ∧ Lo PartD.cels 4 wr (fun b => w.heap.size ≤ b ∧ b < wr.heap.size) (some ⟨w.heap.size, 0, none⟩) k (els.take k) ∧ Below w.heap.size w wr) (fun i _ => n - (intOf i).toNat)
  case atStart =>
    exact ⟨0, Nat.zero_le _, rfl, Spn.new w cs _ hcs, Lo.nil_ _ _ _, ab (Below.refl _ _) _⟩
  case round =>
    obtain ⟨k, hk, rfl, hspn, hro, hbel⟩ := hrel
    by_cases hlt : k < n
    · obtain ⟨b, off, e, B, m, c', rfl, hbs, he, h0, h1, h2, h3, hB, hz⟩ := h.getPart hlt
      have hb' := bcell hbel
      have hem : e ∈ els := List.mem_of_getElem? he.out
      have hm : m ≤ 1048576 := by have := hB.len; have := hb e hem; omega
      have htp := fun W hh => toPart_any e.f1 e.f2 e.f3 B m c' e.f0 W hh (by omega)
      clear h
      go_wp2_with fail
      refine (htp _ (hB.below hbel)).mono ?_
      rintro e1 w1 ⟨⟨g, rfl, ho⟩, b1⟩
      have hs1 := hspn.lt
      have hspn1 := hspn.below b1 hs1
      have z1 := b1.size
      obtain ⟨y0, c0⟩ := hspn1.cell (i := k * 4) (by omega)
      obtain ⟨y1, c1⟩ := hspn1.cell (i := k * 4 + 1) (by omega)
      obtain ⟨y2, c2⟩ := hspn1.cell (i := k * 4 + 2) (by omega)
      obtain ⟨y3, c3⟩ := hspn1.cell (i := k * 4 + 3) (by omega)
      have fz := hspn1.frozen
      clear h0 h1 h2 h3 hb' htp
      go_wp2
      go_roundw
      case rel =>
        have hp := (hro.push1 (e := e) b1 ⟨Nat.le_refl _, hs1⟩ (fun b hb => hb.2) fz (hspn1.there (by omega)) (fun _ => rfl) [.slice (some ⟨g, 0, none⟩) m m, .bool e.f1, .int .i64 e.f2, .bool e.f3] rfl 0 _ m _ ho (fun j d hj => by
          rcases j with _ | _ | _ | _ | j <;> simp [PartD.cels] at hj <;> subst hj
          · exact ⟨_, rfl, .inr ⟨rfl, rfl, m, rfl, fun h => by cases h⟩⟩
          · exact ⟨_, rfl, .inl ⟨_, rfl, rfl⟩⟩
          · exact ⟨_, rfl, .inl ⟨_, rfl, rfl⟩⟩
          · exact ⟨_, rfl, .inl ⟨_, rfl, rfl⟩⟩)).wider (H := fun b => w.heap.size ≤ b ∧ b < w1.heap.size) (fun b hb => by rcases hb with hb | hb <;> omega)
        refine ⟨k + 1, by omega, by go_num, ((((hspn1.set_ _ _).set_ _ _).set_ _ _).set_ _ _), ?_, (((((hbel.trans (b1.mono (by omega))).setCell (Nat.le_refl _) _).setCell (Nat.le_refl _) _).setCell (Nat.le_refl _) _).setCell (Nat.le_refl _) _)⟩
        rw [List.take_add_one, he.out]
        simp only [World.setCells, Nat.zero_add] at hp
        simp only [World.size_setCell]
        exact hp
      case measure => simp [intOf]; omega
    · obtain rfl : k = n := by omega
      go_wp2
      go_ret
      rw [List.take_of_length_le (by rw [h.len]; exact Nat.le_refl _)] at hro
      exact ⟨⟨rfl, hro⟩, hbel⟩

def PartD.len (d : PartD) : Nat := d.f0.length
def PartD.wd (d : PartD) : Nat := d.f0.length + 3
theorem sumPartD_wd (els : List PartD) : sumE PartD.wd els = sumE PartD.len els + 3 * els.length := by
  induction els with
  | nil => rfl
  | cons x r ih => simp only [sumE, List.length_cons, ih, PartD.wd, PartD.len]; omega
def PartD.mk_ (k : Int) (d : PartD) : PartD := ⟨marks k d.f0.length, (k + (d.f0.length : Int)) % 3 == 0, k + (d.f0.length : Int) + 1, (k + (d.f0.length : Int) + 1 + 1) % 3 == 0⟩

set_option linter.unusedVariables false in
set_option maxHeartbeats 1000000 in
theorem szPartS_any (A : Option Addr) (n c : Nat) (els : List PartD) (x : Int) (w : World) (h : Lst PartD.cels 4 w A n els) (h0 : 0 ≤ x) (h1 : x ≤ 1048576) (hn : n ≤ 9223372036854775807) (hb : ∀ e ∈ els, e.f0.length ≤ 9223372036854775807) :
    Calls Try.prog 118 #[.slice A n c, .int .i64 x] w fun e w' => e = .returned (.int .i64 (leftE PartD.len x n els)) ∧ Below w.heap.size w w' := by
  unfold leftE
  by_cases hx : x - (n : Int) < 0
  · have e0 : leftC x (n + sumE PartD.len els) = -1 := by unfold leftC; rw [if_pos (by omega)]
    rw [e0]
    clear e0
    go_enter Try.func118, Try.ntmps118
    go_wp2
    go_ret
    exact ⟨rfl, Below.refl _ _⟩
  · go_enter Try.func118, Try.ntmps118
    go_wp2
    go_loopw [1, 5] (fun r i wr => ∃ k : Nat, k ≤ n ∧ i = .int .i64 k ∧ Below w.heap.size w wr ∧ ∃ y : Int, r = .int .i64 y ∧ 0 ≤ y ∧ y ≤ 1048576 ∧ y = x - (n : Int) - (sumE PartD.len (els.take k) : Int)) (fun r i _ => n - (intOf i).toNat)
    case atStart =>
      exact ⟨0, Nat.zero_le _, rfl, Below.refl _ _, _, rfl, by omega, by omega, by simp [sumE]⟩
    case round =>
      obtain ⟨k, hk, rfl, hbel, y, rfl, hy0, hy1, hy⟩ := hrel
      by_cases hlt : k < n
      · obtain ⟨b, off, e, B, m, c', rfl, hbs, he, h0, h1, h2, h3, hB, hz⟩ := h.getPart hlt
        have hb' := bcell hbel
        have hem : e ∈ els := List.mem_of_getElem? he.out
        have hml := hB.len
        have hm : m ≤ 9223372036854775807 := by have := hb e hem; omega
        have hs := sumE_take_succ PartD.len he.out
        have hs2 := sumE_take_le PartD.len els (k + 1)
        have htp := fun W => szPart_any e.f1 e.f2 e.f3 B m c' y W hy0 hy1 hm
        have hs' : sumE PartD.len (els.take (k + 1)) = sumE PartD.len (els.take k) + m := by rw [hs]; unfold PartD.len; rw [hml]
        clear hs hml
        by_cases hq : y - (m : Int) < 0
        · have e1 : leftC y m = -1 := by unfold leftC; rw [if_pos hq]
          rw [e1] at htp
          have e0 : Shut (leftC x (n + sumE PartD.len els) = -1) := ⟨by unfold leftC; rw [if_pos (by omega)]⟩
          clear e1 hs' hs2 h hy hq
          go_wp2_with fail
          refine (htp _).mono ?_
          rintro e1 w1 ⟨rfl, b1⟩
          go_wp2
          go_ret
          exact ⟨by rw [e0.out]; rfl, ac hbel b1⟩
        · have e1 : leftC y m = y - (m : Int) := by unfold leftC; rw [if_neg hq]
          rw [e1] at htp
          have e0 : Shut (y - (m : Int) = x - (n : Int) - (sumE PartD.len (els.take (k + 1)) : Int)) := ⟨by omega⟩
          clear e1 hs' hs2 h hy
          go_wp2_with fail
          refine (htp _).mono ?_
          rintro e1 w1 ⟨rfl, b1⟩
          go_wp2
          go_roundw
          case rel =>
            exact ⟨k + 1, by omega, by go_num, ac hbel b1, _, rfl, by omega, by omega, e0.out⟩
          case measure => simp [intOf]; omega
      · obtain rfl : k = n := by omega
        have e0 : Shut (leftC x (k + sumE PartD.len els) = y) := ⟨by
          rw [List.take_of_length_le (by rw [h.len]; exact Nat.le_refl _)] at hy
          unfold leftC
          rw [if_neg (by omega), hy]
          omega⟩
        clear hy
        go_wp2
        go_ret
        exact ⟨by rw [e0.out]; rfl, hbel⟩

set_option maxHeartbeats 1000000 in
theorem eqPartS_any (A A' : Option Addr) (n c c' : Nat) (els : List PartD) (w : World) (h : Lst PartD.cels 4 w A n els) (h' : Lst PartD.cels 4 w A' n els) (hn : n ≤ 140737488351232) (hb : ∀ e ∈ els, e.f0.length ≤ 140737488351232) :
    Calls Try.prog 120 #[.slice A n c, .slice A' n c'] w fun e w' => e = .returned (.bool true) ∧ Below w.heap.size w w' := by
  go_enter Try.func120, Try.ntmps120
  go_wp2
  go_loopw [5] (fun i wr => ∃ k : Nat, k ≤ n ∧ i = .int .i64 k ∧ Below w.heap.size w wr) (fun i _ => n - (intOf i).toNat)
  case atStart =>
    exact ⟨0, Nat.zero_le _, rfl, Below.refl _ _⟩
  case round =>
    obtain ⟨k, hk, rfl, hbel⟩ := hrel
    by_cases hlt : k < n
    · obtain ⟨b, off, e, B, m, d, rfl, hbs, he, h0, h1, h2, h3, hB, hz⟩ := h.getPart hlt
      obtain ⟨b', off', e', B', m', d', rfl, hbs', he', h0', h1', h2', h3', hB', hz'⟩ := h'.getPart hlt
      have hee : e' = e := by have h1 := he.out; have h2 := he'.out; rw [h1] at h2; injection h2 with h2; exact h2.symm
      subst hee
      have hml := hB.len
      have hml' := hB'.len
      obtain rfl : m' = m := by omega
      have hm : m' ≤ 140737488351232 := by have := hb e' (List.mem_of_getElem? he.out); omega
      have hb' := bcell hbel
      have htp : Shut (∀ W, W.cell? ⟨b, off + k * 4, none⟩ = some (.slice B m' d) ∧ W.cell? ⟨b, off + k * 4 + 1, none⟩ = some (.bool e'.f1) ∧ W.cell? ⟨b, off + k * 4 + 2, none⟩ = some (.int .i64 e'.f2) ∧ W.cell? ⟨b, off + k * 4 + 3, none⟩ = some (.bool e'.f3) ∧ W.cell? ⟨b', off' + k * 4, none⟩ = some (.slice B' m' d') ∧ W.cell? ⟨b', off' + k * 4 + 1, none⟩ = some (.bool e'.f1) ∧ W.cell? ⟨b', off' + k * 4 + 2, none⟩ = some (.int .i64 e'.f2) ∧ W.cell? ⟨b', off' + k * 4 + 3, none⟩ = some (.bool e'.f3) ∧ Below w.heap.size w W → Calls Try.prog 124 #[.agg #[.slice B m' d, .bool e'.f1, .int .i64 e'.f2, .bool e'.f3], .agg #[.slice B' m' d', .bool e'.f1, .int .i64 e'.f2, .bool e'.f3]] W fun e w' => e = .returned (.bool true) ∧ w'.cell? ⟨b, off + k * 4, none⟩ = some (.slice B m' d) ∧ w'.cell? ⟨b, off + k * 4 + 1, none⟩ = some (.bool e'.f1) ∧ w'.cell? ⟨b, off + k * 4 + 2, none⟩ = some (.int .i64 e'.f2) ∧ w'.cell? ⟨b, off + k * 4 + 3, none⟩ = some (.bool e'.f3) ∧ w'.cell? ⟨b', off' + k * 4, none⟩ = some (.slice B' m' d') ∧ w'.cell? ⟨b', off' + k * 4 + 1, none⟩ = some (.bool e'.f1) ∧ w'.cell? ⟨b', off' + k * 4 + 2, none⟩ = some (.int .i64 e'.f2) ∧ w'.cell? ⟨b', off' + k * 4 + 3, none⟩ = some (.bool e'.f3) ∧ Below w.heap.size w w') :=
        ⟨fun W ⟨y0, y1, y2, y3, y4, y5, y6, y7, y8⟩ => (eqPart_any e'.f1 e'.f2 e'.f3 B B' m' d d' e'.f0 W (hB.below y8) (hB'.below y8) hm).mono fun _ w' ⟨h1, hb⟩ => ⟨h1, ((bcell hb).1 b _ (Nat.lt_of_lt_of_le hbs y8.size)).trans y0, ((bcell hb).1 b _ (Nat.lt_of_lt_of_le hbs y8.size)).trans y1, ((bcell hb).1 b _ (Nat.lt_of_lt_of_le hbs y8.size)).trans y2, ((bcell hb).1 b _ (Nat.lt_of_lt_of_le hbs y8.size)).trans y3, ((bcell hb).1 b' _ (Nat.lt_of_lt_of_le hbs' y8.size)).trans y4, ((bcell hb).1 b' _ (Nat.lt_of_lt_of_le hbs' y8.size)).trans y5, ((bcell hb).1 b' _ (Nat.lt_of_lt_of_le hbs' y8.size)).trans y6, ((bcell hb).1 b' _ (Nat.lt_of_lt_of_le hbs' y8.size)).trans y7, ac y8 hb⟩⟩
      have q0 := (hb'.1 b _ hbs).trans h0
      have q1 := (hb'.1 b _ hbs).trans h1
      have q2 := (hb'.1 b _ hbs).trans h2
      have q3 := (hb'.1 b _ hbs).trans h3
      have q4 := (hb'.1 b' _ hbs').trans h0'
      have q5 := (hb'.1 b' _ hbs').trans h1'
      have q6 := (hb'.1 b' _ hbs').trans h2'
      have q7 := (hb'.1 b' _ hbs').trans h3'
      have hD := ad hbel 1
      clear h h' hml hml' h0 h1 h2 h3 h0' h1' h2' h3' hB hB' hz hz' he he' hm hb'
      go_wp2_with fail
      go_region_held3 (fun W => W.cell? ⟨b, off + k * 4, none⟩ = some (.slice B m' d) ∧ W.cell? ⟨b, off + k * 4 + 1, none⟩ = some (.bool e'.f1) ∧ W.cell? ⟨b, off + k * 4 + 2, none⟩ = some (.int .i64 e'.f2) ∧ W.cell? ⟨b, off + k * 4 + 3, none⟩ = some (.bool e'.f3) ∧ W.cell? ⟨b', off' + k * 4, none⟩ = some (.slice B' m' d') ∧ W.cell? ⟨b', off' + k * 4 + 1, none⟩ = some (.bool e'.f1) ∧ W.cell? ⟨b', off' + k * 4 + 2, none⟩ = some (.int .i64 e'.f2) ∧ W.cell? ⟨b', off' + k * 4 + 3, none⟩ = some (.bool e'.f3) ∧ Below w.heap.size w W)
        (first | (exact ⟨by assumption, by assumption, by assumption, by assumption, by assumption, by assumption, by assumption, by assumption, by assumption⟩) | (exact ⟨q0, q1, q2, q3, q4, q5, q6, q7, hD⟩) | go_keep)
        (first | (go_at_call 124; refine (htp.out _ ?_).mono ?_; (first | assumption | (simp [*]; done)); rintro e1 w1 ⟨rfl, y0, y1, y2, y3, y4, y5, y6, y7, y8⟩))
      go_wp2
      go_roundw
      case rel =>
        exact ⟨k + 1, by omega, by go_num, y8⟩
      case measure => simp [intOf]; omega
    · obtain rfl : k = n := by omega
      go_wp2
      go_ret
      exact ⟨rfl, hbel⟩

end Go.Proofs.Ytpaemmoopjkppaa

/-! HeldC -/
/- The laws' helpers for Held and lists of it. -/
namespace Go.Proofs.Ytpaemmoopjkppaa
open Go.RowKit

/-- what an element is -/
structure HeldD where
  f0 : Int
  f1 : List Int
  f2 : Bool
def HeldD.cels (d : HeldD) : List Cel := [.v (.int .i64 d.f0), .b d.f1, .v (.bool d.f2)]

set_option maxHeartbeats 1000000 in
theorem toHeld_any (x0 : Int) (x2 : Bool) (A : Option Addr) (n e : Nat) (l : List Int) (w : World) (h : Bs w A n l) (hn : n ≤ 140737488351232) :
    Calls Try.prog 84 #[.agg #[.int .i64 x0, .slice A n e, .bool x2]] w fun e w' => (∃ g, e = .returned (.agg #[.int .i64 x0, .slice (some ⟨g, 0, none⟩) n n, .bool x2]) ∧ Ow w' w.heap.size (some ⟨g, 0, none⟩) n l) ∧ Below w.heap.size w w' := by
  have S1 := ((Stc.new (w.alloc (.cells #[.int .i64 x0, .slice A n e, .bool x2] 124)) 84 [.int .i64 0, .slice none 0 0, .bool false] _ rfl).alloc (.cells #[.int .i64 x0, .slice none 0 0, .bool false] 84))
  have S2 := (Stc.new ((w.alloc (.cells #[.int .i64 x0, .slice A n e, .bool x2] 124)).alloc (.cells #[.int .i64 0, .slice none 0 0, .bool false] 84)) 84 [.int .i64 x0, .slice none 0 0, .bool false] _ rfl)
  have B0 := ab (ab (ab (Below.refl _ w) (.cells #[.int .i64 x0, .slice A n e, .bool x2] 124)) (.cells #[.int .i64 0, .slice none 0 0, .bool false] 84)) (.cells #[.int .i64 x0, .slice none 0 0, .bool false] 84)
  have S0 := ((Stc.new w 124 [.int .i64 x0, .slice A n e, .bool x2] _ rfl).alloc (.cells #[.int .i64 0, .slice none 0 0, .bool false] 84)).alloc (.cells #[.int .i64 x0, .slice none 0 0, .bool false] 84)
  simp only [World.size_alloc] at S1 S2
  go_enter Try.func84, Try.ntmps84
  go_wp2_with fail
  refine (toByteS_any _ _ _ _ _ (h.below B0) hn).mono ?_
  rintro e w1 ⟨rfl, k1, b1⟩
  have z1 := b1.size
  simp only [World.size_alloc] at k1 z1 ⊢
  have u1 := k1.lt
  have B1 := ac B0 b1
  replace S0 := S0.below b1 (by simp; omega)
  replace S1 := S1.below b1 (by simp)
  replace S2 := S2.below b1 (by simp)
  clear b1 B0
  have x0_ := S1.cell (i := 0) rfl
  have x1_ := S1.cell (i := 1) rfl
  have x2_ := S1.cell (i := 2) rfl
  have y0_ := S2.cell (i := 0) rfl
  have y1_ := S2.cell (i := 1) rfl
  have y2_ := S2.cell (i := 2) rfl
  have v0_ := S0.cell (i := 0) rfl
  have v1_ := S0.cell (i := 1) rfl
  have v2_ := S0.cell (i := 2) rfl
  have y6 := S2.frozen
  have y7 := S1.frozen
  go_wp2
  refine bodyPost_ret (v := .agg #[.int .i64 x0, .slice (some ⟨w.heap.size + 1 + 1 + 1, 0, none⟩) n n, .bool x2]) (by simp [results, Try.results84, go_sem, x0_, x1_, x2_]) rfl ?_
  have q1 : Ow w1 (w.heap.size + 1 + 1 + 1) (some ⟨w.heap.size + 1 + 1 + 1, 0, none⟩) n l := k1.own h.byte h.len
  refine ⟨⟨_, rfl, (((((q1.far ?_ _).far ?_ _).far ?_ _).far ?_ _).far ?_ _).mono (by omega)⟩, ?_⟩
  · simp
  · simp
  · simp
  · simp
  · simp
  · exact (((((B1.setCell (by first | (simp; done) | (simp; omega)) _).setCell (by first | (simp; done) | (simp; omega)) _).setCell (by first | (simp; done) | (simp; omega)) _).setCell (by first | (simp; done) | (simp; omega)) _).setCell (by first | (simp; done) | (simp; omega)) _)

theorem szHeld_any (x0 : Int) (x2 : Bool) (A : Option Addr) (n e : Nat) (x : Int) (w : World) (h0 : 0 ≤ x) (h1 : x ≤ 1048576) (hn : n ≤ 9223372036854775807) :
    Calls Try.prog 80 #[.agg #[.int .i64 x0, .slice A n e, .bool x2], .int .i64 x] w fun e w' => e = .returned (.int .i64 (leftC x n)) ∧ Below w.heap.size w w' := by
  have e1 := fun w => szByteS_any A n e x w h0 h1 hn
  have hb : leftC x n ≤ 1048576 ∧ -1 ≤ leftC x n := by unfold leftC; split <;> omega
  by_cases hy : leftC x n < 0
  · have e2 : leftC x n = -1 := by unfold leftC at hy ⊢; split at hy <;> omega
    unfold leftC at e2
    rw [e2] at e1
    unfold leftC
    rw [e2]
    clear e2 hy hb h0 h1
    go_enter Try.func80, Try.ntmps80
    go_wp2_with fail
    refine (e1 _).mono ?_
    rintro e w' ⟨rfl, rfl⟩
    go_wp2
    go_ret
    exact ⟨rfl, ab (Below.refl _ _) _⟩
  · unfold leftC at hy ⊢
    generalize (if x - (n : Int) < 0 then -1 else x - (n : Int)) = y at *
    go_enter Try.func80, Try.ntmps80
    go_wp2_with fail
    refine (e1 _).mono ?_
    rintro e w' ⟨rfl, rfl⟩
    go_wp2
    go_ret
    exact ⟨rfl, ab (Below.refl _ _) _⟩

theorem eqHeld_any (x0 : Int) (x2 : Bool) (A A' : Option Addr) (n f f' : Nat) (l : List Int) (w : World) (h : Bs w A n l) (h' : Bs w A' n l) (hn : n ≤ 140737488351232) :
    Calls Try.prog 91 #[.agg #[.int .i64 x0, .slice A n f, .bool x2], .agg #[.int .i64 x0, .slice A' n f', .bool x2]] w fun e w' => e = .returned (.bool true) ∧ Below w.heap.size w w' := by
  have e1 := fun W a b => eqByteS_any A A' n f n f' l l W a b hn hn
  simp only [decide_true] at e1
  go_enter Try.func91, Try.ntmps91
  go_wp2_with fail
  refine (e1 _ ((h.alloc _).alloc _) ((h'.alloc _).alloc _)).mono ?_
  rintro e w' ⟨rfl, q1, rfl⟩
  go_wp2
  go_returns
  exact ⟨rfl, ad (ab (ab (Below.refl _ _) _) _) _⟩


theorem Lst.getHeld {w : World} {A : Option Addr} {n : Nat} {els : List HeldD} (h : Lst HeldD.cels 3 w A n els) {k : Nat} (hk : k < n) :
    ∃ b off e B m c, A = some ⟨b, off, none⟩ ∧ b < w.heap.size ∧ Shut (els[k]? = some e) ∧ w.cell? ⟨b, off + k * 3, none⟩ = some (.int .i64 e.f0) ∧ w.cell? ⟨b, off + k * 3 + 1, none⟩ = some (.slice B m c) ∧ w.cell? ⟨b, off + k * 3 + 2, none⟩ = some (.bool e.f2) ∧ Bs w B m e.f1 ∧ Shut (B = none → c = 0) := by
  obtain ⟨b, off, rfl, hbs, hc⟩ := h.at_ (by omega)
  have he : els[k]? = some (els[k]'(by rw [h.len]; exact hk)) := List.getElem?_eq_getElem _
  obtain ⟨x0, h0, rfl⟩ := hc k _ he 0 _ rfl
  obtain ⟨x1, h1, B, m, c, rfl, hb, hz⟩ := hc k _ he 1 _ rfl
  obtain ⟨x2, h2, rfl⟩ := hc k _ he 2 _ rfl
  exact ⟨b, off, _, B, m, c, rfl, hbs, ⟨he⟩, h0, h1, h2, hb, ⟨hz⟩⟩

theorem info_Held : (Try.prog.info? 84).map (fun i => (i.zero, i.size, i.bytes)) = some (some (.agg #[.int .i64 0, .slice none 0 0, .bool false]), 3, 40) := by kernel_rfl

theorem run_make_Held (n : Nat) (hn : n ≤ 1048576) (w : World) : ∃ cs : Array Value, cs.size = n * 3 ∧
    (Instr.makeSlice 30 (.int .i64 (n : Int)) (.int .i64 (n : Int))).run Try.prog w = .ok (.slice (some ⟨w.heap.size, 0, none⟩) n n) (w.alloc (.cells cs 84)) := by
  obtain ⟨i, hi, hz0, hz1, hz2⟩ := info_parts info_Held
  have hr := run_make (P := Try.prog) w 30 84 i _ Try.underlying30 hi hz0 .i64 .i64 n n (by omega) (by omega) (by rw [hz2]; omega) (by omega)
  simp only [Int.toNat_natCast] at hr
  exact ⟨_, by rw [made_size, hz1], hr⟩

set_option maxHeartbeats 1000000 in
theorem toHeldS_any (A : Option Addr) (n c : Nat) (els : List HeldD) (w : World) (h : Lst HeldD.cels 3 w A n els) (hn : n ≤ 1048576) (hb : ∀ e ∈ els, e.f1.length ≤ 1048576) :
    Calls Try.prog 39 #[.slice A n c] w fun e w' => (e = .returned (.slice (some ⟨w.heap.size, 0, none⟩) n n) ∧ Lo HeldD.cels 3 w' (fun b => w.heap.size ≤ b ∧ b < w'.heap.size) (some ⟨w.heap.size, 0, none⟩) n els) ∧ Below w.heap.size w w' := by
  obtain ⟨cs, hcs, hmk⟩ := run_make_Held n hn w
  go_enter Try.func39, Try.ntmps39
  go_wp2
  clear hmk
  go_loopw [4] (fun i wr => ∃ k : Nat, k ≤ n ∧ i = .int .i64 k ∧ Spn wr w.heap.size (n * 3) 84 ∧ Lo HeldD.cels 3 wr (fun b => w.heap.size ≤ b ∧ b < wr.heap.size) (some ⟨w.heap.size, 0, none⟩) k (els.take k) ∧ Below w.heap.size w wr) (fun i _ => n - (intOf i).toNat)
  case atStart =>
    exact ⟨0, Nat.zero_le _, rfl, Spn.new w cs _ hcs, Lo.nil_ _ _ _, ab (Below.refl _ _) _⟩
  case round =>
    obtain ⟨k, hk, rfl, hspn, hro, hbel⟩ := hrel
    by_cases hlt : k < n
    · obtain ⟨b, off, e, B, m, c', rfl, hbs, he, h0, h1, h2, hB, hz⟩ := h.getHeld hlt
      have hb' := bcell hbel
      have hem : e ∈ els := List.mem_of_getElem? he.out
      have hm : m ≤ 1048576 := by have := hB.len; have := hb e hem; omega
      have htp := fun W hh => toHeld_any e.f0 e.f2 B m c' e.f1 W hh (by omega)
      clear h
      go_wp2_with fail
      refine (htp _ (hB.below hbel)).mono ?_
      rintro e1 w1 ⟨⟨g, rfl, ho⟩, b1⟩
      have hs1 := hspn.lt
      have hspn1 := hspn.below b1 hs1
      have z1 := b1.size
      obtain ⟨y0, c0⟩ := hspn1.cell (i := k * 3) (by omega)
      obtain ⟨y1, c1⟩ := hspn1.cell (i := k * 3 + 1) (by omega)
      obtain ⟨y2, c2⟩ := hspn1.cell (i := k * 3 + 2) (by omega)
      have fz := hspn1.frozen
      clear h0 h1 h2 hb' htp
      go_wp2
      go_roundw
      case rel =>
        have hp := (hro.push1 (e := e) b1 ⟨Nat.le_refl _, hs1⟩ (fun b hb => hb.2) fz (hspn1.there (by omega)) (fun _ => rfl) [.int .i64 e.f0, .slice (some ⟨g, 0, none⟩) m m, .bool e.f2] rfl 1 _ m _ ho (fun j d hj => by
          rcases j with _ | _ | _ | j <;> simp [HeldD.cels] at hj <;> subst hj
          · exact ⟨_, rfl, .inl ⟨_, rfl, rfl⟩⟩
          · exact ⟨_, rfl, .inr ⟨rfl, rfl, m, rfl, fun h => by cases h⟩⟩
          · exact ⟨_, rfl, .inl ⟨_, rfl, rfl⟩⟩)).wider (H := fun b => w.heap.size ≤ b ∧ b < w1.heap.size) (fun b hb => by rcases hb with hb | hb <;> omega)
        refine ⟨k + 1, by omega, by go_num, (((hspn1.set_ _ _).set_ _ _).set_ _ _), ?_, ((((hbel.trans (b1.mono (by omega))).setCell (Nat.le_refl _) _).setCell (Nat.le_refl _) _).setCell (Nat.le_refl _) _)⟩
        rw [List.take_add_one, he.out]
        simp only [World.setCells, Nat.zero_add] at hp
        simp only [World.size_setCell]
        exact hp
      case measure => simp [intOf]; omega
    · obtain rfl : k = n := by omega
      go_wp2
      go_ret
      rw [List.take_of_length_le (by rw [h.len]; exact Nat.le_refl _)] at hro
      exact ⟨⟨rfl, hro⟩, hbel⟩

def HeldD.len (d : HeldD) : Nat := d.f1.length
def HeldD.wd (d : HeldD) : Nat := d.f1.length + 2
theorem sumHeldD_wd (els : List HeldD) : sumE HeldD.wd els = sumE HeldD.len els + 2 * els.length := by
  induction els with
  | nil => rfl
  | cons x r ih => simp only [sumE, List.length_cons, ih, HeldD.wd, HeldD.len]; omega
def HeldD.mk_ (k : Int) (d : HeldD) : HeldD := ⟨k, marks (k + 1) d.f1.length, (k + 1 + (d.f1.length : Int)) % 3 == 0⟩

set_option linter.unusedVariables false in
set_option maxHeartbeats 1000000 in
theorem szHeldS_any (A : Option Addr) (n c : Nat) (els : List HeldD) (x : Int) (w : World) (h : Lst HeldD.cels 3 w A n els) (h0 : 0 ≤ x) (h1 : x ≤ 1048576) (hn : n ≤ 9223372036854775807) (hb : ∀ e ∈ els, e.f1.length ≤ 9223372036854775807) :
    Calls Try.prog 33 #[.slice A n c, .int .i64 x] w fun e w' => e = .returned (.int .i64 (leftE HeldD.len x n els)) ∧ Below w.heap.size w w' := by
  unfold leftE
  by_cases hx : x - (n : Int) < 0
  · have e0 : leftC x (n + sumE HeldD.len els) = -1 := by unfold leftC; rw [if_pos (by omega)]
    rw [e0]
    clear e0
    go_enter Try.func33, Try.ntmps33
    go_wp2
    go_ret
    exact ⟨rfl, Below.refl _ _⟩
  · go_enter Try.func33, Try.ntmps33
    go_wp2
    go_loopw [1, 5] (fun r i wr => ∃ k : Nat, k ≤ n ∧ i = .int .i64 k ∧ Below w.heap.size w wr ∧ ∃ y : Int, r = .int .i64 y ∧ 0 ≤ y ∧ y ≤ 1048576 ∧ y = x - (n : Int) - (sumE HeldD.len (els.take k) : Int)) (fun r i _ => n - (intOf i).toNat)
    case atStart =>
      exact ⟨0, Nat.zero_le _, rfl, Below.refl _ _, _, rfl, by omega, by omega, by simp [sumE]⟩
    case round =>
      obtain ⟨k, hk, rfl, hbel, y, rfl, hy0, hy1, hy⟩ := hrel
      by_cases hlt : k < n
      · obtain ⟨b, off, e, B, m, c', rfl, hbs, he, h0, h1, h2, hB, hz⟩ := h.getHeld hlt
        have hb' := bcell hbel
        have hem : e ∈ els := List.mem_of_getElem? he.out
        have hml := hB.len
        have hm : m ≤ 9223372036854775807 := by have := hb e hem; omega
        have hs := sumE_take_succ HeldD.len he.out
        have hs2 := sumE_take_le HeldD.len els (k + 1)
        have htp := fun W => szHeld_any e.f0 e.f2 B m c' y W hy0 hy1 hm
        have hs' : sumE HeldD.len (els.take (k + 1)) = sumE HeldD.len (els.take k) + m := by rw [hs]; unfold HeldD.len; rw [hml]
        clear hs hml
        by_cases hq : y - (m : Int) < 0
        · have e1 : leftC y m = -1 := by unfold leftC; rw [if_pos hq]
          rw [e1] at htp
          have e0 : Shut (leftC x (n + sumE HeldD.len els) = -1) := ⟨by unfold leftC; rw [if_pos (by omega)]⟩
          clear e1 hs' hs2 h hy hq
          go_wp2_with fail
          refine (htp _).mono ?_
          rintro e1 w1 ⟨rfl, b1⟩
          go_wp2
          go_ret
          exact ⟨by rw [e0.out]; rfl, ac hbel b1⟩
        · have e1 : leftC y m = y - (m : Int) := by unfold leftC; rw [if_neg hq]
          rw [e1] at htp
          have e0 : Shut (y - (m : Int) = x - (n : Int) - (sumE HeldD.len (els.take (k + 1)) : Int)) := ⟨by omega⟩
          clear e1 hs' hs2 h hy
          go_wp2_with fail
          refine (htp _).mono ?_
          rintro e1 w1 ⟨rfl, b1⟩
          go_wp2
          go_roundw
          case rel =>
            exact ⟨k + 1, by omega, by go_num, ac hbel b1, _, rfl, by omega, by omega, e0.out⟩
          case measure => simp [intOf]; omega
      · obtain rfl : k = n := by omega
        have e0 : Shut (leftC x (k + sumE HeldD.len els) = y) := ⟨by
          rw [List.take_of_length_le (by rw [h.len]; exact Nat.le_refl _)] at hy
          unfold leftC
          rw [if_neg (by omega), hy]
          omega⟩
        clear hy
        go_wp2
        go_ret
        exact ⟨by rw [e0.out]; rfl, hbel⟩

set_option maxHeartbeats 1000000 in
theorem eqHeldS_any (A A' : Option Addr) (n c c' : Nat) (els : List HeldD) (w : World) (h : Lst HeldD.cels 3 w A n els) (h' : Lst HeldD.cels 3 w A' n els) (hn : n ≤ 140737488351232) (hb : ∀ e ∈ els, e.f1.length ≤ 140737488351232) :
    Calls Try.prog 51 #[.slice A n c, .slice A' n c'] w fun e w' => e = .returned (.bool true) ∧ Below w.heap.size w w' := by
  go_enter Try.func51, Try.ntmps51
  go_wp2
  go_loopw [5] (fun i wr => ∃ k : Nat, k ≤ n ∧ i = .int .i64 k ∧ Below w.heap.size w wr) (fun i _ => n - (intOf i).toNat)
  case atStart =>
    exact ⟨0, Nat.zero_le _, rfl, Below.refl _ _⟩
  case round =>
    obtain ⟨k, hk, rfl, hbel⟩ := hrel
    by_cases hlt : k < n
    · obtain ⟨b, off, e, B, m, d, rfl, hbs, he, h0, h1, h2, hB, hz⟩ := h.getHeld hlt
      obtain ⟨b', off', e', B', m', d', rfl, hbs', he', h0', h1', h2', hB', hz'⟩ := h'.getHeld hlt
      have hee : e' = e := by have h1 := he.out; have h2 := he'.out; rw [h1] at h2; injection h2 with h2; exact h2.symm
      subst hee
      have hml := hB.len
      have hml' := hB'.len
      obtain rfl : m' = m := by omega
      have hm : m' ≤ 140737488351232 := by have := hb e' (List.mem_of_getElem? he.out); omega
      have hb' := bcell hbel
      have htp : Shut (∀ W, W.cell? ⟨b, off + k * 3, none⟩ = some (.int .i64 e'.f0) ∧ W.cell? ⟨b, off + k * 3 + 1, none⟩ = some (.slice B m' d) ∧ W.cell? ⟨b, off + k * 3 + 2, none⟩ = some (.bool e'.f2) ∧ W.cell? ⟨b', off' + k * 3, none⟩ = some (.int .i64 e'.f0) ∧ W.cell? ⟨b', off' + k * 3 + 1, none⟩ = some (.slice B' m' d') ∧ W.cell? ⟨b', off' + k * 3 + 2, none⟩ = some (.bool e'.f2) ∧ Below w.heap.size w W → Calls Try.prog 91 #[.agg #[.int .i64 e'.f0, .slice B m' d, .bool e'.f2], .agg #[.int .i64 e'.f0, .slice B' m' d', .bool e'.f2]] W fun e w' => e = .returned (.bool true) ∧ w'.cell? ⟨b, off + k * 3, none⟩ = some (.int .i64 e'.f0) ∧ w'.cell? ⟨b, off + k * 3 + 1, none⟩ = some (.slice B m' d) ∧ w'.cell? ⟨b, off + k * 3 + 2, none⟩ = some (.bool e'.f2) ∧ w'.cell? ⟨b', off' + k * 3, none⟩ = some (.int .i64 e'.f0) ∧ w'.cell? ⟨b', off' + k * 3 + 1, none⟩ = some (.slice B' m' d') ∧ w'.cell? ⟨b', off' + k * 3 + 2, none⟩ = some (.bool e'.f2) ∧ Below w.heap.size w w') :=
        ⟨fun W ⟨y0, y1, y2, y3, y4, y5, y6⟩ => (eqHeld_any e'.f0 e'.f2 B B' m' d d' e'.f1 W (hB.below y6) (hB'.below y6) hm).mono fun _ w' ⟨h1, hb⟩ => ⟨h1, ((bcell hb).1 b _ (Nat.lt_of_lt_of_le hbs y6.size)).trans y0, ((bcell hb).1 b _ (Nat.lt_of_lt_of_le hbs y6.size)).trans y1, ((bcell hb).1 b _ (Nat.lt_of_lt_of_le hbs y6.size)).trans y2, ((bcell hb).1 b' _ (Nat.lt_of_lt_of_le hbs' y6.size)).trans y3, ((bcell hb).1 b' _ (Nat.lt_of_lt_of_le hbs' y6.size)).trans y4, ((bcell hb).1 b' _ (Nat.lt_of_lt_of_le hbs' y6.size)).trans y5, ac y6 hb⟩⟩
      have q0 := (hb'.1 b _ hbs).trans h0
      have q1 := (hb'.1 b _ hbs).trans h1
      have q2 := (hb'.1 b _ hbs).trans h2
      have q3 := (hb'.1 b' _ hbs').trans h0'
      have q4 := (hb'.1 b' _ hbs').trans h1'
      have q5 := (hb'.1 b' _ hbs').trans h2'
      have hD := ad hbel 1
      clear h h' hml hml' h0 h1 h2 h0' h1' h2' hB hB' hz hz' he he' hm hb'
      go_wp2_with fail
      go_region_held3 (fun W => W.cell? ⟨b, off + k * 3, none⟩ = some (.int .i64 e'.f0) ∧ W.cell? ⟨b, off + k * 3 + 1, none⟩ = some (.slice B m' d) ∧ W.cell? ⟨b, off + k * 3 + 2, none⟩ = some (.bool e'.f2) ∧ W.cell? ⟨b', off' + k * 3, none⟩ = some (.int .i64 e'.f0) ∧ W.cell? ⟨b', off' + k * 3 + 1, none⟩ = some (.slice B' m' d') ∧ W.cell? ⟨b', off' + k * 3 + 2, none⟩ = some (.bool e'.f2) ∧ Below w.heap.size w W)
        (first | (exact ⟨by assumption, by assumption, by assumption, by assumption, by assumption, by assumption, by assumption⟩) | (exact ⟨q0, q1, q2, q3, q4, q5, hD⟩) | go_keep)
        (first | (go_at_call 91; refine (htp.out _ ?_).mono ?_; (first | assumption | (simp [*]; done)); rintro e1 w1 ⟨rfl, y0, y1, y2, y3, y4, y5, y6⟩))
      go_wp2
      go_roundw
      case rel =>
        exact ⟨k + 1, by omega, by go_num, y6⟩
      case measure => simp [intOf]; omega
    · obtain rfl : k = n := by omega
      go_wp2
      go_ret
      exact ⟨rfl, hbel⟩

set_option maxHeartbeats 2000000 in
theorem markHeldS_any (A : Option Addr) (n c : Nat) (els : List HeldD) (F : Nat → Prop) (k : Int) (w : World) (h : Lo HeldD.cels 3 w F A n els) (hk0 : 0 ≤ k) (hk1 : k ≤ 100000000) (hs : sumE HeldD.wd els ≤ 100000000) (hn : n ≤ 100000000) :
    Calls Try.prog 53 #[.slice A n c, .int .i64 k] w fun e w' => e = .returned (.int .i64 (k + (sumE HeldD.wd els : Int))) ∧ Lo HeldD.cels 3 w' F A n (markE HeldD.mk_ HeldD.wd k els) ∧ Tu F w w' := by
  go_enter Try.func53, Try.ntmps53
  go_wp2
  go_loopw [1, 5] (fun r i wr => ∃ j : Nat, j ≤ n ∧ i = .int .i64 j ∧ r = .int .i64 (k + (sumE HeldD.wd (els.take j) : Int)) ∧ Lo HeldD.cels 3 wr F A n (markd_ HeldD.mk_ HeldD.wd k els j) ∧ Tu F w wr) (fun r i _ => n - (intOf i).toNat)
  case atStart =>
    exact ⟨0, Nat.zero_le _, rfl, by simp [sumE], by rw [markd_zero_]; exact h, Tu.refl _ _⟩
  case round =>
    obtain ⟨j, hj, rfl, rfl, hro, htu⟩ := hrel
    by_cases hlt : j < n
    · have he : els[j]? = some (els[j]'(by rw [h.len]; exact hlt)) := List.getElem?_eq_getElem _
      generalize els[j]'(by rw [h.len]; exact hlt) = e at he
      obtain ⟨g, off, G, rfl, hF, hg, hfz, hG, hc, hup⟩ := hro.upd (fun _ => rfl) (markd_get_ HeldD.mk_ HeldD.wd k he)
      obtain ⟨x0, c0, rfl⟩ := hc 0 _ rfl
      obtain ⟨x1, c1, B, m, d, rfl, ho, hz⟩ := hc 1 _ rfl
      obtain ⟨x2, c2, rfl⟩ := hc 2 _ rfl
      have hst := markd_set_ HeldD.mk_ HeldD.wd k he
      have hs1 := sumE_take_succ HeldD.wd he
      have hs2 := sumE_take_le HeldD.wd els (j + 1)
      have hml := ho.len
      obtain ⟨y, hy⟩ : ∃ y, y = k + (sumE HeldD.wd (els.take j) : Int) := ⟨_, rfl⟩
      rw [← hy] at hst ⊢
      have hwd : e.wd = m + 2 := by unfold HeldD.wd; rw [hml]
      have hy0 : 0 ≤ y := by omega
      have hy1 : y + (m : Int) + 2 ≤ 200000000 := by omega
      have hm : m ≤ 100000000 := by omega
      have e1 : Shut (y + 1 + (m : Int) + 1 = k + (sumE HeldD.wd (els.take (j + 1)) : Int)) := ⟨by omega⟩
      have Hml := Shut.mk hml
      have hne := ho.apart (b := g) (fun hb => (hG 1 g hb).2 rfl)
      have HU := hup
      have Hst := Shut.mk hst
      clear hs1 hs2 hml hy hwd hs hup hc hst
      simp only [Nat.add_zero] at c0
      have ho1 : Bo (wr.setCell ⟨g, off + j * 3, none⟩ (.int .i64 (y))) (G 1) B m e.f1 := ho.keep (by simp only [World.size_setCell]; omega) fun b hb hlb => by rw [heapOff _ (hG 1 b hb).2]
      have hmk := markByteS_any B m d 0 e.f1 (y + 1) _ ho1.ow0 (by omega) (by omega) (by omega)
      go_wp2_with fail
      refine hmk.mono ?_
      rintro e2 w1 ⟨rfl, how, hon⟩
      have hbg := hon.block g hne
      have p1 := (World.cell?_of_block (a := ⟨g, off + j * 3 + 1, none⟩) hbg).trans ((cellOff _ (by omega)).trans (c1))
      have p2 := (World.cell?_of_block (a := ⟨g, off + j * 3 + 2, none⟩) hbg).trans ((cellOff _ (by omega)).trans (c2))
      have p0 := (World.cell?_of_block (a := ⟨g, off + j * 3, none⟩) hbg).trans (cellOn _ (c0))
      have p_ : ∀ i, w1.frozen? ⟨g, i, none⟩ = false := fun i => (World.frozen?_of_block (a := ⟨g, i, none⟩) hbg).trans (by simp only [World.frozen?_setCell]; exact hfz i)
      have hsz := hon.size
      simp only [World.size_setCell] at hsz
      clear hmk
      go_wp2
      go_roundw
      case rel =>
        refine ⟨j + 1, by omega, by go_num, by rw [e1.out], ?_, (((htu.set_ hF _).trans (Tu.ofOnly hon fun h0 a ha => (hG 1 _ (ho.inside h0 a ha)).1)).set_ hF _)⟩
        rw [← Hst.out]
        refine HU.out _ _ (by simp only [World.size_setCell]; omega) (fun i => by simp only [World.frozen?_setCell]; exact p_ i) (fun b hFb hbg' hGb hlb => ?_) (fun i hi => ?_) (fun i d0 hd => ?_)
        · rw [heapOff _ hbg']
          have hz9 := hon.block b (ho.apart (hGb 1))
          rw [heapOff _ hbg'] at hz9
          exact hz9
        · rw [cellOff _ (by omega)]
          have hz9 := World.cell?_of_block (a := ⟨g, i, none⟩) hbg
          rw [cellOff _ (by omega)] at hz9
          exact hz9
        · rcases i with _ | _ | _ | i <;> simp [HeldD.cels, HeldD.mk_] at hd <;> subst hd
          · refine ⟨_, ?_, rfl⟩
            exact (cellOff _ (by omega)).trans (p0)
          · refine ⟨_, ?_, B, m, d, rfl, ?_, hz⟩
            · rw [cellOff _ (by omega)]
              exact p1
            · rw [Hml.out]
              refine (ho1.remark how).keep (by simp only [World.size_setCell]; omega) fun b hb hlb => ?_
              rw [heapOff _ (hG 1 b hb).2]
          · refine ⟨_, ?_, rfl⟩
            rw [cellOn _ p2, Hml.out]
      case measure => simp [intOf]; omega
    · obtain rfl : j = n := by omega
      go_wp2
      go_ret
      rw [List.take_of_length_le (by rw [h.len]; exact Nat.le_refl _)]
      rw [markd_full_ _ _ _ _ _ h.len] at hro
      exact ⟨rfl, hro, htu⟩

set_option maxHeartbeats 2000000 in
theorem heldHeldS_any (A : Option Addr) (n c : Nat) (els : List HeldD) (k : Int) (w : World) (h : Lst HeldD.cels 3 w A n (markE HeldD.mk_ HeldD.wd k els)) (hk0 : 0 ≤ k) (hk1 : k ≤ 100000000) (hs : sumE HeldD.wd els ≤ 100000000) (hn : n ≤ 100000000) :
    Calls Try.prog 92 #[.slice A n c, .int .i64 k] w fun e w' => e = .returned (.int .i64 (k + (sumE HeldD.wd els : Int))) ∧ Below w.heap.size w w' := by
  have hel : els.length = n := by rw [← markE_len HeldD.mk_ HeldD.wd k els]; exact h.len
  go_enter Try.func92, Try.ntmps92
  go_wp2
  go_loopw [1, 5] (fun r i wr => ∃ j : Nat, j ≤ n ∧ i = .int .i64 j ∧ r = .int .i64 (k + (sumE HeldD.wd (els.take j) : Int)) ∧ Below w.heap.size w wr) (fun r i _ => n - (intOf i).toNat)
  case atStart =>
    exact ⟨0, Nat.zero_le _, rfl, by simp [sumE], Below.refl _ _⟩
  case round =>
    obtain ⟨j, hj, rfl, rfl, hbel⟩ := hrel
    by_cases hlt : j < n
    · have he : els[j]? = some (els[j]'(by omega)) := List.getElem?_eq_getElem _
      generalize els[j]'(by omega) = e at he
      obtain ⟨b, off, e', B, m, d, rfl, hbs, he', h0, h1, h2, hB, hz⟩ := h.getHeld hlt
      have hee := he'.out
      rw [markE_get HeldD.mk_ HeldD.wd k he] at hee
      injection hee with hee
      have hs1 := sumE_take_succ HeldD.wd he
      have hs2 := sumE_take_le HeldD.wd els (j + 1)
      obtain ⟨y, hy⟩ : ∃ y, y = k + (sumE HeldD.wd (els.take j) : Int) := ⟨_, rfl⟩
      rw [← hy] at hee ⊢
      subst hee
      have hml : e.f1.length = m := by have := hB.len; rw [← this]; exact (marks_len _ _).symm
      have hwd : e.wd = m + 2 := by unfold HeldD.wd; rw [hml]
      have hy0 : 0 ≤ y := by omega
      have hy1 : y + (m : Int) + 2 ≤ 200000000 := by omega
      have hm : m ≤ 100000000 := by omega
      have e1 : Shut (y + 1 + (m : Int) + 1 = k + (sumE HeldD.wd (els.take (j + 1)) : Int)) := ⟨by omega⟩
      simp only [HeldD.mk_, hml] at h0 h2 hB
      have hmk := heldByteS_any B m d (y + 1) wr (hB.below hbel) (by omega) (by omega) (by omega)
      have hb' := bcell hbel
      clear hs1 hs2 hml hy hwd hs he he' h hel
      have t1 : decide (y + 1 + (m : Int) < 0) = false := by simp; omega
      go_wp2_with fail
      refine hmk.mono ?_
      rintro e2 w1 ⟨rfl, rfl⟩
      clear hmk
      go_wp2
      go_roundw
      case rel => exact ⟨j + 1, by omega, by go_num, by rw [e1.out], hbel⟩
      case measure => simp [intOf]; omega
    · obtain rfl : j = n := by omega
      have Hel := Shut.mk hel
      clear hel
      go_wp2
      go_ret
      rw [List.take_of_length_le (by rw [Hel.out]; exact Nat.le_refl _)]
      exact ⟨rfl, hbel⟩

end Go.Proofs.Ytpaemmoopjkppaa

/-! ThgC -/
/- Things of the call's own, each in blocks of a set: kept, widened, put side by side. -/
namespace Go.Proofs.Ytpaemmoopjkppaa
open Go.RowKit

abbrev Thing := World → (Nat → Prop) → Prop
structure Thing.Ok (T : Thing) : Prop where
  keep : ∀ {w w' : World} {F : Nat → Prop}, T w F → w.heap.size ≤ w'.heap.size → (∀ b, F b → b < w.heap.size → w'.heap[b]? = w.heap[b]?) → T w' F
  wider : ∀ {w : World} {F G : Nat → Prop}, T w F → (∀ b, F b → G b) → T w G
/-- the blocks from lo on, up to hi -/
def rng (lo hi : Nat) (b : Nat) : Prop := lo ≤ b ∧ b < hi

section
variable {T : Thing} {w w' : World} {F G : Nat → Prop}
theorem Thing.Ok.below (o : T.Ok) (h : T w F) (hb : Below w.heap.size w w') : T w' F := o.keep h hb.size fun b _ hl => hb.block b hl
theorem Thing.Ok.alloc (o : T.Ok) (h : T w F) (x : Obj) : T (w.alloc x) F := o.below h ((Below.refl _ w).alloc (Nat.le_refl _) x)
theorem Thing.Ok.drewN (o : T.Ok) (h : T w F) (q : Nat) : T (w.drewN q) F := o.keep h (Nat.le_refl _) fun _ _ _ => rfl
theorem Thing.Ok.tu (o : T.Ok) (h : T w F) (t : Tu G w w') (hd : ∀ b, F b → ¬ G b) : T w' F := o.keep h t.size fun b hF hl => t.block b hl (hd b hF)
theorem Thing.Ok.tur {lo hi lo' hi' : Nat} (o : T.Ok) (h : T w (rng lo hi)) (t : Tu (rng lo' hi') w w') (hd : hi ≤ lo' ∨ hi' ≤ lo) : T w' (rng lo hi) := o.tu h t fun b hF hG => by unfold rng at hF hG; omega
theorem Thing.Ok.widen {lo hi lo' hi' : Nat} (o : T.Ok) (h : T w (rng lo hi)) (h1 : lo' ≤ lo) (h2 : hi ≤ hi') : T w (rng lo' hi') := o.wider h fun b hb => by unfold rng at *; omega
end

/-- two things, side by side -/
def Thing.sep (S T : Thing) : Thing := fun w F => ∃ G H : Nat → Prop, (∀ b, G b → F b) ∧ (∀ b, H b → F b) ∧ (∀ b, G b → ¬ H b) ∧ S w G ∧ T w H
theorem Thing.Ok.sep {S T : Thing} (o : S.Ok) (p : T.Ok) : (Thing.sep S T).Ok where
  keep := fun h hs hk => by
    obtain ⟨G, H, h1, h2, h3, h4, h5⟩ := h
    exact ⟨G, H, h1, h2, h3, o.keep h4 hs fun b hb => hk b (h1 b hb), p.keep h5 hs fun b hb => hk b (h2 b hb)⟩
  wider := fun h hF => by
    obtain ⟨G, H, h1, h2, h3, h4⟩ := h
    exact ⟨G, H, fun b hb => hF b (h1 b hb), fun b hb => hF b (h2 b hb), h3, h4⟩
theorem Thing.sep.mk {S T : Thing} {w : World} {lo mid hi : Nat} (h : S w (rng lo mid)) (k : T w (rng mid hi)) (h1 : lo ≤ mid) (h2 : mid ≤ hi) : Thing.sep S T w (rng lo hi) :=
  ⟨rng lo mid, rng mid hi, fun b hb => by unfold rng at *; omega, fun b hb => by unfold rng at *; omega, fun b hb => by unfold rng at *; omega, h, k⟩
theorem Thing.sep.mkr {S T : Thing} {w : World} {lo mid hi : Nat} (h : S w (rng mid hi)) (k : T w (rng lo mid)) (h1 : lo ≤ mid) (h2 : mid ≤ hi) : Thing.sep S T w (rng lo hi) :=
  ⟨rng mid hi, rng lo mid, fun b hb => by unfold rng at *; omega, fun b hb => by unfold rng at *; omega, fun b hb => by unfold rng at *; omega, h, k⟩

/-- a run of bytes; a list of elements -/
def tR (A : Option Addr) (n : Nat) (l : List Int) : Thing := fun w F => Bo w F A n l
def tL {E : Type} (cels : E → List Cel) (sz : Nat) (A : Option Addr) (n : Nat) (els : List E) : Thing := fun w F => Lo cels sz w F A n els
def tP := tL PartD.cels 4
def tH := tL HeldD.cels 3
theorem okR (A : Option Addr) (n : Nat) (l : List Int) : (tR A n l).Ok := ⟨fun h hs hk => Bo.keep h hs hk, fun h hF => Bo.wider h hF⟩
theorem okL {E : Type} (cels : E → List Cel) (sz : Nat) (A : Option Addr) (n : Nat) (els : List E) : (tL cels sz A n els).Ok := ⟨fun h hs hk => Lo.keep h hs hk, fun h hF => Lo.wider h hF⟩
theorem okP (A : Option Addr) (n : Nat) (els : List PartD) : (tP A n els).Ok := okL _ _ A n els
theorem okH (A : Option Addr) (n : Nat) (els : List HeldD) : (tH A n els).Ok := okL _ _ A n els
end Go.Proofs.Ytpaemmoopjkppaa
