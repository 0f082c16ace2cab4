/- The next chain, of the model and of the program. -/
import Derived.Test.YtabhcolfkkfonaaDoorKeyC
import Derived.Test.YtabhcolfkkfonaaDoorHashFns2
namespace Go.Proofs.YtabhcolfkkfonaaDoor
open Go.RowKit

def ncC (n : Nat) : Int := if n = 32 then 0 else 3
def ncN (n : Nat) : Nat := if n = 32 then 32 else 0
def ncL (n : Nat) (l : List Int) : List Int := if n = 32 then l else []

theorem ncN_le (n : Nat) : ncN n ≤ 2000000 := by unfold ncN; split <;> omega

/-- two runs of the call's own -/
theorem Rs.two {w : World} {B n m : Nat} {A C : Option Addr} {l r : List Int} (h : Ow w B A n l) (k : Ow w B C m r) (ha : Sunder n m A C) : Rs w B [(A, n, l), (C, m, r)] :=
  Rs.cons h (fun y hy => by simp only [List.mem_cons, List.not_mem_nil, or_false] at hy; subst hy; exact ha) (Rs.one k)

theorem specNextChain_any (A : Option Addr) (n c : Nat) (l : List Int) (w : World) (h : Bs w A n l) :
    Calls Tryd.prog 16 #[.slice A n c] w (KeyRs (ncC n) (ncN n) (ncN n) (ncL n (firstW l [])) (ncL n (otherW l [])) w) := by
  by_cases hn : n = 32
  · have Hf : Hid (ncC n = 0 ∧ ncN n = 32 ∧ ncL n (firstW l []) = firstW l [] ∧ ncL n (otherW l []) = otherW l []) := by simp [Hid, ncC, ncN, ncL, hn]
    subst hn
    go_enter Tryd.func16, Tryd.ntmps16
    go_wp2_with fail
    refine (l2Keys_any _ _ _ _ _ _ _ _ _ (h.alloc _) (Bs.none_ _) (fun _ => rfl) (by omega)).mono ?_
    rintro e w1 ⟨⟨A1, c1, A2, c2, rfl, o1, o2, hap⟩, hb⟩
    have t1 := (Three.new w 27 (.int .i64 0) (.slice none 0 0) (.slice none 0 0)).below hb (by simp)
    have hs := hb.size
    simp only [World.size_alloc] at hs o1 o2
    obtain ⟨x0, x1, x2, x3, x4, x5⟩ := t1.cells
    go_wp2
    refine bodyPost_ret (v := .agg #[.int .i64 0, .slice A1 32 c1, .slice A2 32 c2]) (by simp [results, Tryd.results16, go_sem, x0, x1, x2]) rfl ?_
    rw [Hf.out.1, Hf.out.2.1, Hf.out.2.2.1, Hf.out.2.2.2]
    refine ⟨⟨A1, c1, A2, c2, rfl, Rs.two ?_ ?_ hap⟩, ?_⟩
    · exact (((o1.far (p := ⟨w.heap.size, 0, none⟩) (by simp) _).far (p := ⟨w.heap.size, 1, none⟩) (by simp) _).far (p := ⟨w.heap.size, 2, none⟩) (by simp) _).mono (by omega)
    · exact (((o2.far (p := ⟨w.heap.size, 0, none⟩) (by simp) _).far (p := ⟨w.heap.size, 1, none⟩) (by simp) _).far (p := ⟨w.heap.size, 2, none⟩) (by simp) _).mono (by omega)
    · exact (((ac (ab (Below.refl _ w) _) hb).setCell (by simp) _).setCell (by simp) _).setCell (by simp) _
  · have Hf : Hid (ncC n = 3 ∧ ncN n = 0 ∧ ncL n (firstW l []) = [] ∧ ncL n (otherW l []) = []) := by simp [Hid, ncC, ncN, ncL, hn]
    have hb : ((n : Int) != 32) = true := by rw [bne_iff_ne]; omega
    clear hn
    go_enter Tryd.func16, Tryd.ntmps16
    go_wp2
    go_returns
    rw [Hf.out.1, Hf.out.2.1, Hf.out.2.2.1, Hf.out.2.2.2]
    exact ⟨⟨none, 0, none, 0, rfl, Rs.two (Ow.nil_ _ _) (Ow.nil_ _ _) (fun h0 => absurd h0 (by omega))⟩, by go_grown⟩

/-- what comes of a chain of the right size -/
theorem nextKey_any (A : Option Addr) (c : Nat) (l : List Int) (w : World) (hT : Tabs w) (h : Bs w A 32 l) :
    Calls Tryd.prog 27 #[.slice A 32 c] w (KeyRs 0 32 32 (firstW l []) (otherW l []) w) := by
  have Hf : Hid (kcode 32 0 = 0 ∧ klen 32 0 = 32 ∧ kbytes 32 0 (firstW l []) = firstW l [] ∧ kbytes 32 0 (otherW l []) = otherW l []) := by simp [Hid, kcode, klen, kbytes]
  have ck := fun (W : World) (hW : Below w.heap.size w W) => implKeysOf_any A none 32 c 0 0 l [] W (hT.keep hW) (h.below hW) (Bs.none_ _) (fun _ => rfl) (by omega) (by omega)
  rw [Hf.out.1, Hf.out.2.1, Hf.out.2.2.1, Hf.out.2.2.2] at ck
  have B0 := ab (Below.refl _ w) (.cells #[.int .i64 0, .slice none 0 0, .slice none 0 0] 27)
  have S0 := Stc.new w 27 [.int .i64 0, .slice none 0 0, .slice none 0 0] _ rfl
  have CK := Shut.mk ck
  clear Hf ck
  generalize firstW l [] = F at *
  generalize otherW l [] = G at *
  go_enter Tryd.func27, Tryd.ntmps27
  go_wp2_with fail
  refine (CK.out _ B0).mono ?_
  rintro e w1 ⟨⟨A1, c1, A2, c2, rfl, o1, o2, hap⟩, b1⟩
  have B1 := ac B0 b1
  replace S0 := S0.below b1 S0.lt
  have z1 := b1.size
  simp only [World.size_alloc] at z1 o1 o2
  have P1 := Stc.new w1 58 [.int .i64 0, .slice A1 32 c1, .slice A2 32 c2] _ rfl
  replace S0 := S0.alloc (.cells #[.int .i64 0, .slice A1 32 c1, .slice A2 32 c2] 58)
  have x0 := S0.cell (i := 0) rfl
  have x1 := S0.cell (i := 1) rfl
  have x2 := S0.cell (i := 2) rfl
  have xf := S0.frozen
  have y1 := P1.cell (i := 1) rfl
  have y2 := P1.cell (i := 2) rfl
  have hne : ¬ w1.heap.size = w.heap.size := by omega
  clear CK B0 b1
  go_wp2
  refine bodyPost_ret (v := .agg #[.int .i64 0, .slice A1 32 c1, .slice A2 32 c2]) (by simp [results, Tryd.results27, go_sem, x0, x1, x2]) rfl ?_
  refine ⟨⟨A1, c1, A2, c2, rfl, ?_⟩, ?_⟩
  · have R := (Rs.two o1 o2 hap).alloc (.cells #[.int .i64 0, .slice A1 32 c1, .slice A2 32 c2] 58)
    have zz : w.heap.size < w.heap.size + 1 := by omega
    exact (((R.far (p := ⟨w.heap.size, 0, none⟩) zz _).far (p := ⟨w.heap.size, 1, none⟩) zz _).far (p := ⟨w.heap.size, 2, none⟩) zz _).mono (by omega)
  · exact (((ab B1 _).setCell (p := ⟨w.heap.size, 0, none⟩) (Nat.le_refl _) _).setCell (p := ⟨w.heap.size, 1, none⟩) (Nat.le_refl _) _).setCell (p := ⟨w.heap.size, 2, none⟩) (Nat.le_refl _) _

theorem implNextChain_any (A : Option Addr) (n c : Nat) (l : List Int) (w : World) (hT : Tabs w) (h : Bs w A n l) :
    Calls Tryd.prog 11 #[.slice A n c] w (KeyRs (ncC n) (ncN n) (ncN n) (ncL n (firstW l [])) (ncL n (otherW l [])) w) := by
  by_cases hn : n = 32
  · have Hf : Hid (ncC n = 0 ∧ ncN n = 32 ∧ ncL n (firstW l []) = firstW l [] ∧ ncL n (otherW l []) = otherW l []) := by simp [Hid, ncC, ncN, ncL, hn]
    subst hn
    have B0 := ab (Below.refl _ w) (.cells #[.int .i64 0, .slice none 0 0, .slice none 0 0] 27)
    have S0 := Stc.new w 27 [.int .i64 0, .slice none 0 0, .slice none 0 0] _ rfl
    have ck := Shut.mk (nextKey_any A c l _ (hT.keep B0) (h.below B0))
    generalize firstW l [] = F at *
    generalize otherW l [] = G at *
    go_enter Tryd.func11, Tryd.ntmps11
    go_wp2_with fail
    refine ck.out.mono ?_
    rintro e w1 ⟨⟨A1, c1, A2, c2, rfl, R⟩, b1⟩
    replace S0 := S0.below b1 S0.lt
    simp only [World.size_alloc] at R
    have x0 := S0.cell (i := 0) rfl
    have x1 := S0.cell (i := 1) rfl
    have x2 := S0.cell (i := 2) rfl
    have xf := S0.frozen
    have B1 := ac B0 b1
    clear ck B0 b1
    go_wp2
    refine bodyPost_ret (v := .agg #[.int .i64 0, .slice A1 32 c1, .slice A2 32 c2]) (by simp [results, Tryd.results11, go_sem, x0, x1, x2]) rfl ?_
    rw [Hf.out.1, Hf.out.2.1, Hf.out.2.2.1, Hf.out.2.2.2]
    have zz : w.heap.size < w.heap.size + 1 := by omega
    exact ⟨⟨A1, c1, A2, c2, rfl, (((R.far zz _).far zz _).far zz _).mono (by omega)⟩, ((B1.setCell (Nat.le_refl _) _).setCell (Nat.le_refl _) _).setCell (Nat.le_refl _) _⟩
  · have Hf : Hid (ncC n = 3 ∧ ncN n = 0 ∧ ncL n (firstW l []) = [] ∧ ncL n (otherW l []) = []) := by simp [Hid, ncC, ncN, ncL, hn]
    have hb : ((n : Int) != 32) = true := by rw [bne_iff_ne]; omega
    clear hn
    go_enter Tryd.func11, Tryd.ntmps11
    go_wp2
    go_returns
    rw [Hf.out.1, Hf.out.2.1, Hf.out.2.2.1, Hf.out.2.2.2]
    exact ⟨⟨none, 0, none, 0, rfl, Rs.two (Ow.nil_ _ _) (Ow.nil_ _ _) (fun h0 => absurd h0 (by omega))⟩, by go_grown⟩
end Go.Proofs.YtabhcolfkkfonaaDoor
