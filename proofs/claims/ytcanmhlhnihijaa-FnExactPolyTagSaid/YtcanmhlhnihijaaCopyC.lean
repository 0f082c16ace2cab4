/- The builtin copy, of bytes, into a block of the call's own. -/
import Derived.Test.YtcanmhlhnihijaaKMem
import Derived.Laws.CopyOwn
import Derived.Deep.RegionLaw
namespace Go.Proofs.Ytcanmhlhnihijaa
open Go.RowKit

/-- a fact that the walk does not look into -/
structure Shut (p : Prop) : Prop where
  out : p

/-- cells of n zero bytes -/
def zeroB (n : Nat) : Array Value := ((List.replicate n (0 : Int)).map (Value.int .u8)).toArray
theorem Blk.zeroB (w : World) (n : Nat) : Blk (w.alloc (.cells (zeroB n) 5)) w.heap.size (List.replicate n 0) := Blk.made w _

/-- r put over a list, from place off on -/
def laidOver (L : List Int) (off : Nat) (r : List Int) : List Int := L.take off ++ (r ++ L.drop (off + r.length))
theorem laidOver_len (L r : List Int) (off : Nat) (h : off + r.length ≤ L.length) : (laidOver L off r).length = L.length := by
  simp [laidOver]; omega

theorem size_u8 : (Try.prog.info? 5).map (·.size) = some 1 := by kernel_rfl

theorem splice_over (L r : List Int) (off : Nat) : splice (L.map (Value.int .u8)) off (r.map (Value.int .u8)) = (laidOver L off r).map (Value.int .u8) := by
  simp [splice, laidOver, List.map_take, List.map_drop]

theorem bs_src {w : World} {A : Option Addr} {n : Nat} {r : List Int} (h : Bs w A n r) : ∀ ad, A = some ad → ∀ j v, (r.map (Value.int .u8))[j]? = some v → w.cell? (ad.add j) = some v := by
  intro ad hA j u hu
  have hj : j < r.length := by
    rcases Nat.lt_or_ge j r.length with h1 | h1
    · exact h1
    · rw [List.getElem?_eq_none (by simpa using h1)] at hu; cases hu
  obtain ⟨b, off, e, _, hc⟩ := h.at_ (by have := h.len; omega)
  rw [hA] at e
  injection e with e
  subst e
  have hadd : (⟨b, off, none⟩ : Addr).add j = ⟨b, off + j, none⟩ := by unfold Addr.add; split <;> simp_all
  rw [hadd, hc j (by have := h.len; omega)]
  rw [List.getElem?_map, List.getElem?_eq_getElem hj] at hu
  simpa [List.getD, List.getElem?_eq_getElem hj] using hu

theorem wpList_copyb {ops : Array Oper} {rest : List Oper} {o : Oper} {a : Act} {Q : Exit → Act → World → Prop} (hgd : o.guard = none) (d s : Operand)
    (ho : o.op = .call { callee := .builtin .copy, args := #[d, s], argTypes := #[22, 22] })
    (w : World) (g off dLen dCap : Nat) (A : Option Addr) (n c : Nat) (L r : List Int) (hd : a.eval d = .slice (some ⟨g, off, none⟩) dLen dCap) (hs : a.eval s = .slice A n c)
    (hL : Blk w g L) (hr : Bs w A n r) (hnd : n ≤ dLen) (hfit : off + n ≤ L.length) (B : Nat) (w0 : World) (hb : Below B w0 w) (hBg : B ≤ g)
    (h : ∀ w', Blk w' g (laidOver L off r) → Below B w0 w' → wpList Try.prog ops Q rest (a.put o.dst (goInt n)) w') : wpList Try.prog ops Q (o :: rest) a w := by
  have hl := hr.len
  refine wpList_copy_splice hgd d s _ _ ho 5 Try.underlying22 size_u8 _ A dLen dCap n c hd hs g off (L.map (Value.int .u8)) 5 hL (r.map (Value.int .u8))
    (by rw [List.length_map, hl]; exact (Nat.min_eq_left hnd).symm) (fun hp => ⟨rfl, ?_⟩) (by simpa [hl] using hfit) (fun u hu => by obtain ⟨y, _, rfl⟩ := List.mem_map.1 hu; rfl) B w0 hb hBg ?_
  · obtain ⟨b, of, e, _⟩ := hr.at_ (by simpa [hl] using hp)
    exact ⟨_, e, bs_src hr _ e⟩
  · intro w' hh hb'
    rw [List.length_map, hl]
    exact h w' (by have := hh.out; rw [splice_over] at this; exact this) hb'

theorem step_copyb {ops : Array Oper} {o : Oper} {a : Act} {K : Act → World → Prop} {Q : Exit → Act → World → Prop} {E : Prop} (hgd : o.guard = none) (d s : Operand)
    (ho : o.op = .call { callee := .builtin .copy, args := #[d, s], argTypes := #[22, 22] })
    (w : World) (g off dLen dCap : Nat) (A : Option Addr) (n c : Nat) (L r : List Int) (hd : a.eval d = .slice (some ⟨g, off, none⟩) dLen dCap) (hs : a.eval s = .slice A n c)
    (hL : Blk w g L) (hr : Bs w A n r) (hnd : n ≤ dLen) (hfit : off + n ≤ L.length) (B : Nat) (w0 : World) (hb : Below B w0 w) (hBg : B ≤ g)
    (h : ∀ w', Blk w' g (laidOver L off r) → Below B w0 w' → K (a.put o.dst (goInt n)) w') : if Region.wanted o (yielded ops a.tmps) = true then Oper.wp Try.prog o a w K Q else E := by
  have hl := hr.len
  refine step_copy_splice hgd d s _ _ ho 5 Try.underlying22 size_u8 _ A dLen dCap n c hd hs g off (L.map (Value.int .u8)) 5 hL (r.map (Value.int .u8))
    (by rw [List.length_map, hl]; exact (Nat.min_eq_left hnd).symm) (fun hp => ⟨rfl, ?_⟩) (by simpa [hl] using hfit) (fun u hu => by obtain ⟨y, _, rfl⟩ := List.mem_map.1 hu; rfl) B w0 hb hBg ?_
  · obtain ⟨b, of, e, _⟩ := hr.at_ (by simpa [hl] using hp)
    exact ⟨_, e, bs_src hr _ e⟩
  · intro w' hh hb'
    rw [List.length_map, hl]
    exact h w' (by have := hh.out; rw [splice_over] at this; exact this) hb'
end Go.Proofs.Ytcanmhlhnihijaa
