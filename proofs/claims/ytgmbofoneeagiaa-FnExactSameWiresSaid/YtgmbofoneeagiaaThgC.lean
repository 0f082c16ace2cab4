import Derived.Test.YtgmbofoneeagiaaPartC
import Derived.Test.YtgmbofoneeagiaaHeldC
/- Things of the call's own, each in blocks of a set: kept, widened, put side by side. -/
namespace Go.Proofs.Ytgmbofoneeagiaa
open Go.RowKit

abbrev Thing := World → (Nat → Prop) → Prop
structure Thing.Ok (T : Thing) : Prop where
  keep : ∀ {w w' : World} {F : Nat → Prop}, T w F → w.heap.size ≤ w'.heap.size → (∀ b, F b → b < w.heap.size → w'.heap[b]? = w.heap[b]?) → T w' F
  wider : ∀ {w : World} {F G : Nat → Prop}, T w F → (∀ b, F b → G b) → T w G
/-- the blocks from lo on, up to hi -/
def rng (lo hi : Nat) (b : Nat) : Prop := lo ≤ b ∧ b < hi

section
variable {T : Thing} {w w' : World} {F G : Nat → Prop}
theorem Thing.Ok.below (o : T.Ok) (h : T w F) (hb : Below w.heap.size w w') : T w' F := o.keep h hb.size fun b _ hl => hb.block b hl
theorem Thing.Ok.alloc (o : T.Ok) (h : T w F) (x : Obj) : T (w.alloc x) F := o.below h ((Below.refl _ w).alloc (Nat.le_refl _) x)
theorem Thing.Ok.drewN (o : T.Ok) (h : T w F) (q : Nat) : T (w.drewN q) F := o.keep h (Nat.le_refl _) fun _ _ _ => rfl
theorem Thing.Ok.tu (o : T.Ok) (h : T w F) (t : Tu G w w') (hd : ∀ b, F b → ¬ G b) : T w' F := o.keep h t.size fun b hF hl => t.block b hl (hd b hF)
theorem Thing.Ok.tur {lo hi lo' hi' : Nat} (o : T.Ok) (h : T w (rng lo hi)) (t : Tu (rng lo' hi') w w') (hd : hi ≤ lo' ∨ hi' ≤ lo) : T w' (rng lo hi) := o.tu h t fun b hF hG => by unfold rng at hF hG; omega
theorem Thing.Ok.widen {lo hi lo' hi' : Nat} (o : T.Ok) (h : T w (rng lo hi)) (h1 : lo' ≤ lo) (h2 : hi ≤ hi') : T w (rng lo' hi') := o.wider h fun b hb => by unfold rng at *; omega
end

/-- two things, side by side -/
def Thing.sep (S T : Thing) : Thing := fun w F => ∃ G H : Nat → Prop, (∀ b, G b → F b) ∧ (∀ b, H b → F b) ∧ (∀ b, G b → ¬ H b) ∧ S w G ∧ T w H
theorem Thing.Ok.sep {S T : Thing} (o : S.Ok) (p : T.Ok) : (Thing.sep S T).Ok where
  keep := fun h hs hk => by
    obtain ⟨G, H, h1, h2, h3, h4, h5⟩ := h
    exact ⟨G, H, h1, h2, h3, o.keep h4 hs fun b hb => hk b (h1 b hb), p.keep h5 hs fun b hb => hk b (h2 b hb)⟩
  wider := fun h hF => by
    obtain ⟨G, H, h1, h2, h3, h4⟩ := h
    exact ⟨G, H, fun b hb => hF b (h1 b hb), fun b hb => hF b (h2 b hb), h3, h4⟩
theorem Thing.sep.mk {S T : Thing} {w : World} {lo mid hi : Nat} (h : S w (rng lo mid)) (k : T w (rng mid hi)) (h1 : lo ≤ mid) (h2 : mid ≤ hi) : Thing.sep S T w (rng lo hi) :=
  ⟨rng lo mid, rng mid hi, fun b hb => by unfold rng at *; omega, fun b hb => by unfold rng at *; omega, fun b hb => by unfold rng at *; omega, h, k⟩
theorem Thing.sep.mkr {S T : Thing} {w : World} {lo mid hi : Nat} (h : S w (rng mid hi)) (k : T w (rng lo mid)) (h1 : lo ≤ mid) (h2 : mid ≤ hi) : Thing.sep S T w (rng lo hi) :=
  ⟨rng mid hi, rng lo mid, fun b hb => by unfold rng at *; omega, fun b hb => by unfold rng at *; omega, fun b hb => by unfold rng at *; omega, h, k⟩

/-- a run of bytes; a list of elements -/
def tR (A : Option Addr) (n : Nat) (l : List Int) : Thing := fun w F => Bo w F A n l
def tL {E : Type} (cels : E → List Cel) (sz : Nat) (A : Option Addr) (n : Nat) (els : List E) : Thing := fun w F => Lo cels sz w F A n els
def tP := tL PartD.cels 4
def tH := tL HeldD.cels 3
theorem okR (A : Option Addr) (n : Nat) (l : List Int) : (tR A n l).Ok := ⟨fun h hs hk => Bo.keep h hs hk, fun h hF => Bo.wider h hF⟩
theorem okL {E : Type} (cels : E → List Cel) (sz : Nat) (A : Option Addr) (n : Nat) (els : List E) : (tL cels sz A n els).Ok := ⟨fun h hs hk => Lo.keep h hs hk, fun h hF => Lo.wider h hF⟩
theorem okP (A : Option Addr) (n : Nat) (els : List PartD) : (tP A n els).Ok := okL _ _ A n els
theorem okH (A : Option Addr) (n : Nat) (els : List HeldD) : (tH A n els).Ok := okL _ _ A n els
end Go.Proofs.Ytgmbofoneeagiaa
