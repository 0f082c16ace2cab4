/- The builtin copy, of bytes and of words, into an array's box. -/
import Derived.Test.YtpoiecdifhkegaaDoorBase
namespace Go.Proofs.YtpoiecdifhkegaaDoor
open Go.RowKit

theorem splice_overk (k : IntKind) (L r : List Int) (off : Nat) : splice (L.map (Value.int k)) off (r.map (Value.int k)) = (laidOver L off r).map (Value.int k) := by
  simp [splice, laidOver, List.map_take, List.map_drop]

theorem wpList_copyt {ops : Array Oper} {rest : List Oper} {o : Oper} {a : Act} {Q : Exit → Act → World → Prop} (hgd : o.guard = none) (d s : Operand)
    (ho : o.op = .call { callee := .builtin .copy, args := #[d, s], argTypes := #[22, 22] })
    (w : World) (t : TypeId) (g off dLen dCap : Nat) (A : Option Addr) (n c : Nat) (L r : List Int) (hd : a.eval d = .slice (some ⟨g, off, none⟩) dLen dCap) (hs : a.eval s = .slice A n c)
    (hL : KB .u8 t w g L) (hr : Bs w A n r) (hnd : n ≤ dLen) (hfit : off + n ≤ L.length) (B : Nat) (w0 : World) (hb : Below B w0 w) (hBg : B ≤ g)
    (h : ∀ w', KB .u8 t w' g (laidOver L off r) → Below B w0 w' → wpList Tryd.prog ops Q rest (a.put o.dst (goInt n)) w') : wpList Tryd.prog ops Q (o :: rest) a w := by
  have hl := hr.len
  refine wpList_copy_splice hgd d s _ _ ho 5 Tryd.underlying22 size_u8 _ A dLen dCap n c hd hs g off (L.map (Value.int .u8)) t hL (r.map (Value.int .u8))
    (by rw [List.length_map, hl]; exact (Nat.min_eq_left hnd).symm) (fun hp => ⟨rfl, ?_⟩) (by simpa [hl] using hfit) (fun u hu => by obtain ⟨y, _, rfl⟩ := List.mem_map.1 hu; rfl) B w0 hb hBg ?_
  · obtain ⟨b, of, e, _⟩ := hr.at_ (by simpa [hl] using hp)
    exact ⟨_, e, bs_src hr _ e⟩
  · intro w' hh hb'
    rw [List.length_map, hl]
    exact h w' (by have := hh.out; rw [splice_overk] at this; exact this) hb'

theorem size_u32 : (Tryd.prog.info? 62).map (·.size) = some 1 := by kernel_rfl

theorem step_copyw {ops : Array Oper} {o : Oper} {a : Act} {K : Act → World → Prop} {Q : Exit → Act → World → Prop} {E : Prop} (hgd : o.guard = none) (d s : Operand)
    (ho : o.op = .call { callee := .builtin .copy, args := #[d, s], argTypes := #[90, 90] })
    (w : World) (t : TypeId) (g off dLen dCap b n c : Nat) (L r : List Int) (hd : a.eval d = .slice (some ⟨g, off, none⟩) dLen dCap) (hs : a.eval s = .slice (some ⟨b, 0, none⟩) n c)
    (hL : KB .u32 t w g L) (hr : KOw .u32 w b r) (hl : r.length = n) (hnd : n ≤ dLen) (hfit : off + n ≤ L.length) (B : Nat) (w0 : World) (hb : Below B w0 w) (hBg : B ≤ g)
    (h : ∀ w', KB .u32 t w' g (laidOver L off r) → Below B w0 w' → K (a.put o.dst (goInt n)) w') : if Region.wanted o (yielded ops a.tmps) = true then Oper.wp Tryd.prog o a w K Q else E := by
  have hadd : ∀ (b j : Nat), (⟨b, 0, none⟩ : Addr).add j = ⟨b, j, none⟩ := fun b j => by unfold Addr.add; split <;> simp_all
  refine step_copy_splice hgd d s _ _ ho 62 Tryd.underlying90 size_u32 _ _ dLen dCap n c hd hs g off (L.map (Value.int .u32)) t hL (r.map (Value.int .u32))
    (by rw [List.length_map, hl]; exact (Nat.min_eq_left hnd).symm) (fun hp => ⟨rfl, ⟨b, 0, none⟩, rfl, fun j u hu => ?_⟩) (by simpa [hl] using hfit) (fun u hu => by obtain ⟨y, _, rfl⟩ := List.mem_map.1 hu; rfl) B w0 hb hBg ?_
  · have hj : j < r.length := by
      rcases Nat.lt_or_ge j r.length with h1 | h1
      · exact h1
      · rw [List.getElem?_eq_none (by simpa using h1)] at hu; cases hu
    rw [hadd, hr.cell j hj]
    rw [List.getElem?_map, List.getElem?_eq_getElem hj] at hu
    simpa [List.getD, List.getElem?_eq_getElem hj] using hu
  · intro w' hh hb'
    rw [List.length_map, hl]
    exact h w' (by have := hh.out; rw [splice_overk] at this; exact this) hb'
end Go.Proofs.YtpoiecdifhkegaaDoor
