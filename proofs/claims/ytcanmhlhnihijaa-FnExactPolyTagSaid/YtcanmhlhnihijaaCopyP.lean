/- The builtin copy, of bytes and of words, into an array's box. -/
import Derived.Test.YtcanmhlhnihijaaCopyC
namespace Go.Proofs.Ytcanmhlhnihijaa
open Go.RowKit

theorem splice_overk (k : IntKind) (L r : List Int) (off : Nat) : splice (L.map (Value.int k)) off (r.map (Value.int k)) = (laidOver L off r).map (Value.int k) := by
  simp [splice, laidOver, List.map_take, List.map_drop]

theorem wpList_copyt {ops : Array Oper} {rest : List Oper} {o : Oper} {a : Act} {Q : Exit → Act → World → Prop} (hgd : o.guard = none) (d s : Operand)
    (ho : o.op = .call { callee := .builtin .copy, args := #[d, s], argTypes := #[22, 22] })
    (w : World) (t : TypeId) (g off dLen dCap : Nat) (A : Option Addr) (n c : Nat) (L r : List Int) (hd : a.eval d = .slice (some ⟨g, off, none⟩) dLen dCap) (hs : a.eval s = .slice A n c)
    (hL : KB .u8 t w g L) (hr : Bs w A n r) (hnd : n ≤ dLen) (hfit : off + n ≤ L.length) (B : Nat) (w0 : World) (hb : Below B w0 w) (hBg : B ≤ g)
    (h : ∀ w', KB .u8 t w' g (laidOver L off r) → Below B w0 w' → wpList Try.prog ops Q rest (a.put o.dst (goInt n)) w') : wpList Try.prog ops Q (o :: rest) a w := by
  have hl := hr.len
  refine wpList_copy_splice hgd d s _ _ ho 5 Try.underlying22 size_u8 _ A dLen dCap n c hd hs g off (L.map (Value.int .u8)) t hL (r.map (Value.int .u8))
    (by rw [List.length_map, hl]; exact (Nat.min_eq_left hnd).symm) (fun hp => ⟨rfl, ?_⟩) (by simpa [hl] using hfit) (fun u hu => by obtain ⟨y, _, rfl⟩ := List.mem_map.1 hu; rfl) B w0 hb hBg ?_
  · obtain ⟨b, of, e, _⟩ := hr.at_ (by simpa [hl] using hp)
    exact ⟨_, e, bs_src hr _ e⟩
  · intro w' hh hb'
    rw [List.length_map, hl]
    exact h w' (by have := hh.out; rw [splice_overk] at this; exact this) hb'

theorem size_u32 : (Try.prog.info? 53).map (·.size) = some 1 := by kernel_rfl

end Go.Proofs.Ytcanmhlhnihijaa
