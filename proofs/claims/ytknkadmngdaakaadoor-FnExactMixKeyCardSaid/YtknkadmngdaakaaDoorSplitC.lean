/- SplitSym, of the model and of the program. -/
import Derived.Test.YtknkadmngdaakaaDoorFaultC
import Derived.Test.YtknkadmngdaakaaDoorHashFns2
import Derived.Test.YtknkadmngdaakaaDoorPairR
namespace Go.Proofs.YtknkadmngdaakaaDoor
open Go.RowKit

def codN (c : Int) (n : Nat) : Nat := if c = 0 then n else 0
def codL (c : Int) (l : List Int) : List Int := if c = 0 then l else []
theorem codN_le (c : Int) (n : Nat) : codN c n ≤ n := by unfold codN; split <;> omega
theorem symC_zero {h d k : Nat} {n : Int} (e : symC h d k n = 0) : h = 32 ∧ d = 32 ∧ ((k = 0 ∧ n = 0) ∨ (k = 32 ∧ 0 ≤ n ∧ n ≤ 1000)) := by
  unfold symC at e
  split at e
  · rename_i hh
    obtain ⟨h1, h2, h3, h4, h5⟩ := hh
    split at e
    · omega
    · rename_i hk
      refine ⟨h1, h2, ?_⟩
      rcases h3 with rfl | rfl
      · left; exact ⟨rfl, by omega⟩
      · right; exact ⟨rfl, h4, h5⟩
  · omega
theorem symC_small (h d k : Nat) (n : Int) : 0 ≤ symC h d k n ∧ symC h d k n ≤ 8 := by
  unfold symC; repeat' split <;> omega

theorem Rs.nil2 (w : World) (B : Nat) : Rs w B [(none, 0, []), (none, 0, [])] := by
  refine Rs.cons (Ow.nil_ _ _) ?_ (Rs.cons (Ow.nil_ _ _) ?_ (Rs.nil _ _))
  · intro y hy hn; exact absurd hn (by omega)
  · intro y hy; cases hy

set_option maxHeartbeats 1000000 in
theorem specSplitSym_any (A B C : Option Addr) (h c d e f k : Nat) (n : Int) (l : List Int) (w : World) (hb : Bs w B d l) :
    Calls Tryd.prog 21 #[.agg #[.slice A h c, .slice B d e, .slice C k f, .int .i64 n]] w (PairRs (symC h d k n) (codN (symC h d k n) 32) (codN (symC h d k n) 32) (codL (symC h d k n) (firstW l [])) (codL (symC h d k n) (otherW l [])) w) := by
  have cs := fun W => spec_SymFault_any A B C h c d e f k n W
  by_cases hz : symC h d k n = 0
  · have hk := fun W (hW : Bs W B d l) => l2Keys_any B none d e 0 0 l [] W hW (Bs.none_ W) (fun _ => rfl) (by omega)
    rw [hz] at cs ⊢
    have e1 : codN 0 32 = 32 := rfl
    have e2 : codL 0 (firstW l []) = firstW l [] := rfl
    have e3 : codL 0 (otherW l []) = otherW l [] := rfl
    rw [e1, e2, e3]
    clear e1 e2 e3 hz
    generalize firstW l [] = F at *
    generalize otherW l [] = O at *
    have S0 := (Stc.new w 26 [.slice A h c, .slice B d e, .slice C k f, .int .i64 n] _ rfl).alloc (.cells #[.int .i64 0, .slice none 0 0, .slice none 0 0] 40)
    have S1 := Stc.new (w.alloc (.cells #[.slice A h c, .slice B d e, .slice C k f, .int .i64 n] 26)) 40 [.int .i64 0, .slice none 0 0, .slice none 0 0] _ rfl
    have B0 := ab (ab (Below.refl _ w) (.cells #[.slice A h c, .slice B d e, .slice C k f, .int .i64 n] 26)) (.cells #[.int .i64 0, .slice none 0 0, .slice none 0 0] 40)
    simp only [World.size_alloc] at S1
    go_enter Tryd.func21, Tryd.ntmps21
    go_wp2_with fail
    refine (cs _).mono ?_
    rintro e w1 ⟨rfl, b1⟩
    replace S0 := S0.below b1 S0.lt
    replace S1 := S1.below b1 S1.lt
    have B1 := ac B0 b1
    have x0 := S0.cell (i := 1) rfl
    go_wp2_with fail
    refine (hk _ (hb.below B1)).mono ?_
    rintro e w2 ⟨⟨A1, c1, A2, c2, rfl, o1, o2, ha⟩, b2⟩
    replace S1 := S1.below b2 S1.lt
    have B2 := ac B1 b2
    have z1 := B1.size
    have z2 := S1.lt
    have y0 := S1.cell (i := 0) rfl
    have y1 := S1.cell (i := 1) rfl
    have y2 := S1.cell (i := 2) rfl
    have y3 := S1.frozen
    have zz : w.heap.size + 1 < w1.heap.size := by have := b1.size; simp only [World.size_alloc] at this; omega
    go_wp2
    refine bodyPost_ret (v := .agg #[.int .i64 0, .slice A1 32 c1, .slice A2 32 c2]) (by simp [results, Tryd.results21, go_sem, y0, y1, y2]) rfl ?_
    refine ⟨⟨A1, c1, A2, c2, rfl, Rs.cons ?_ ?_ (Rs.cons ?_ ?_ (Rs.nil _ _))⟩, ?_⟩
    · exact (((o1.far (p := ⟨w.heap.size + 1, 0, none⟩) zz _).far (p := ⟨w.heap.size + 1, 1, none⟩) zz _).far (p := ⟨w.heap.size + 1, 2, none⟩) zz _).mono (by omega)
    · intro y hy
      simp only [List.mem_cons, List.not_mem_nil, or_false] at hy
      subst hy
      exact ha
    · exact (((o2.far (p := ⟨w.heap.size + 1, 0, none⟩) zz _).far (p := ⟨w.heap.size + 1, 1, none⟩) zz _).far (p := ⟨w.heap.size + 1, 2, none⟩) zz _).mono (by omega)
    · intro y hy; cases hy
    · exact ((B2.setCell (by simp) _).setCell (by simp) _).setCell (by simp) _
  · have hp : (symC h d k n != 0) = true := by rw [bne_iff_ne]; exact hz
    have e1 : codN (symC h d k n) 32 = 0 := by simp [codN, hz]
    have e2 : codL (symC h d k n) (firstW l []) = [] := by simp [codL, hz]
    have e3 : codL (symC h d k n) (otherW l []) = [] := by simp [codL, hz]
    rw [e1, e2, e3]
    clear e1 e2 e3
    generalize symC h d k n = Z at *
    have S1 := Stc.new (w.alloc (.cells #[.slice A h c, .slice B d e, .slice C k f, .int .i64 n] 26)) 40 [.int .i64 0, .slice none 0 0, .slice none 0 0] _ rfl
    have B0 := ab (ab (Below.refl _ w) (.cells #[.slice A h c, .slice B d e, .slice C k f, .int .i64 n] 26)) (.cells #[.int .i64 0, .slice none 0 0, .slice none 0 0] 40)
    simp only [World.size_alloc] at S1
    go_enter Tryd.func21, Tryd.ntmps21
    go_wp2_with fail
    refine (cs _).mono ?_
    rintro e w1 ⟨rfl, b1⟩
    replace S1 := S1.below b1 S1.lt
    have B1 := ac B0 b1
    have y0 := S1.cell (i := 0) rfl
    have y1 := S1.cell (i := 1) rfl
    have y2 := S1.cell (i := 2) rfl
    have y3 := S1.frozen
    go_wp2
    refine bodyPost_ret (v := .agg #[.int .i64 Z, .slice none 0 0, .slice none 0 0]) (by simp [results, Tryd.results21, go_sem, y0, y1, y2]) rfl ?_
    exact ⟨⟨none, 0, none, 0, rfl, Rs.nil2 _ _⟩, ((B1.setCell (by simp) _).setCell (by simp) _).setCell (by simp) _⟩

set_option maxHeartbeats 1000000 in
theorem split_any (b o : Nat) (B : Option Addr) (e : Nat) (l : List Int) (w : World) (hT : Tabs w) (hc : w.cell? ⟨b, o + 1, none⟩ = some (.slice B 32 e)) (hb : Bs w B 32 l) :
    Calls Tryd.prog 44 #[.pointer (some ⟨b, o, none⟩)] w (PairRs 0 32 32 (firstW l []) (otherW l []) w) := by
  have hk := fun W (hW : Below w.heap.size w W) => implKeysOf_any B none 32 e 0 0 l [] W (hT.keep hW) (hb.below hW) (Bs.none_ W) (fun _ => rfl) (by omega) (by omega)
  have e0 : kcode 32 0 = 0 := rfl
  have e1 : klen 32 0 = 32 := rfl
  have e2 : kbytes 32 0 (firstW l []) = firstW l [] := rfl
  have e3 : kbytes 32 0 (otherW l []) = otherW l [] := rfl
  simp only [e0, e1, e2, e3] at hk
  clear e0 e1 e2 e3
  generalize firstW l [] = F at *
  generalize otherW l [] = O at *
  have S1 := Stc.new w 40 [.int .i64 0, .slice none 0 0, .slice none 0 0] _ rfl
  have B0 := ab (Below.refl _ w) (.cells #[.int .i64 0, .slice none 0 0, .slice none 0 0] 40)
  have x0 := cell_past (.cells #[.int .i64 0, .slice none 0 0, .slice none 0 0] 40) hc
  go_enter Tryd.func44, Tryd.ntmps44
  go_wp2_with fail
  refine (hk _ B0).mono ?_
  rintro e w1 ⟨⟨A1, c1, A2, c2, rfl, o1, o2, ha⟩, b1⟩
  have B1 := ac B0 b1
  replace S1 := S1.below b1 S1.lt
  simp only [World.size_alloc] at o1 o2
  have zz : w.heap.size < w.heap.size + 1 := Nat.lt_succ_self _
  have y0 := S1.cell (i := 0) rfl
  have y1 := S1.cell (i := 1) rfl
  have y2 := S1.cell (i := 2) rfl
  have y3 := S1.frozen
  go_wp2
  refine bodyPost_ret (v := .agg #[.int .i64 0, .slice A1 32 c1, .slice A2 32 c2]) (by simp [results, Tryd.results44, go_sem, y0, y1, y2]) rfl ?_
  refine ⟨⟨A1, c1, A2, c2, rfl, Rs.cons ?_ ?_ (Rs.cons ?_ ?_ (Rs.nil _ _))⟩, ?_⟩
  · exact (((o1.far (p := ⟨w.heap.size, 0, none⟩) zz _).far (p := ⟨w.heap.size, 1, none⟩) zz _).far (p := ⟨w.heap.size, 2, none⟩) zz _).mono (by omega)
  · intro y hy
    simp only [List.mem_cons, List.not_mem_nil, or_false] at hy
    subst hy
    exact ha
  · exact (((o2.far (p := ⟨w.heap.size, 0, none⟩) zz _).far (p := ⟨w.heap.size, 1, none⟩) zz _).far (p := ⟨w.heap.size, 2, none⟩) zz _).mono (by omega)
  · intro y hy; cases hy
  · exact ((B1.setCell (by simp) _).setCell (by simp) _).setCell (by simp) _

set_option maxHeartbeats 1000000 in
theorem implSplitSym_any (A B C : Option Addr) (h c d e f k : Nat) (n : Int) (l : List Int) (w : World) (hT : Tabs w) (hb : Bs w B d l) :
    Calls Tryd.prog 22 #[.agg #[.slice A h c, .slice B d e, .slice C k f, .int .i64 n]] w (PairRs (symC h d k n) (codN (symC h d k n) 32) (codN (symC h d k n) 32) (codL (symC h d k n) (firstW l [])) (codL (symC h d k n) (otherW l [])) w) := by
  have cs := fun W => impl_SymFault_any A B C h c d e f k n W
  by_cases hz : symC h d k n = 0
  · obtain ⟨-, hd, -⟩ := symC_zero hz
    rw [hz] at cs ⊢
    have hk := fun W b (hW : Below w.heap.size w W) (hc : W.cell? ⟨b, 1, none⟩ = some (.slice B d e)) => split_any b 0 B e l W (hT.keep hW) (by rw [← hd]; exact hc) (by rw [← hd]; exact hb.below hW)
    have e1 : codN 0 32 = 32 := rfl
    have e2 : codL 0 (firstW l []) = firstW l [] := rfl
    have e3 : codL 0 (otherW l []) = otherW l [] := rfl
    rw [e1, e2, e3]
    clear e1 e2 e3 hz hd
    generalize firstW l [] = F at *
    generalize otherW l [] = O at *
    have S0 := (Stc.new w 26 [.slice A h c, .slice B d e, .slice C k f, .int .i64 n] _ rfl).alloc (.cells #[.int .i64 0, .slice none 0 0, .slice none 0 0] 40)
    have S1 := Stc.new (w.alloc (.cells #[.slice A h c, .slice B d e, .slice C k f, .int .i64 n] 26)) 40 [.int .i64 0, .slice none 0 0, .slice none 0 0] _ rfl
    have B0 := ab (ab (Below.refl _ w) (.cells #[.slice A h c, .slice B d e, .slice C k f, .int .i64 n] 26)) (.cells #[.int .i64 0, .slice none 0 0, .slice none 0 0] 40)
    simp only [World.size_alloc] at S1
    go_enter Tryd.func22, Tryd.ntmps22
    go_wp2_with fail
    refine (cs _).mono ?_
    rintro e w1 ⟨rfl, b1⟩
    replace S0 := S0.below b1 S0.lt
    replace S1 := S1.below b1 S1.lt
    have B1 := ac B0 b1
    have zz : w.heap.size + 1 < w1.heap.size := by have := b1.size; simp only [World.size_alloc] at this; omega
    go_wp2_with fail
    have y1 := S0.cell (i := 1) rfl
    have hk1 := hk w1 w.heap.size B1 y1
    clear hk y1
    refine hk1.mono ?_
    clear hk1
    rintro e w2 ⟨⟨A1, c1, A2, c2, rfl, R⟩, b2⟩
    replace S1 := S1.below b2 S1.lt
    have B2 := ac B1 b2
    have z1 := B1.size
    have y0 := S1.cell (i := 0) rfl
    have y1 := S1.cell (i := 1) rfl
    have y2 := S1.cell (i := 2) rfl
    have y3 := S1.frozen
    go_wp2
    refine bodyPost_ret (v := .agg #[.int .i64 0, .slice A1 32 c1, .slice A2 32 c2]) (by simp [results, Tryd.results22, go_sem, y0, y1, y2]) rfl ?_
    exact ⟨⟨A1, c1, A2, c2, rfl, (((R.far (p := ⟨w.heap.size + 1, 0, none⟩) zz _).far (p := ⟨w.heap.size + 1, 1, none⟩) zz _).far (p := ⟨w.heap.size + 1, 2, none⟩) zz _).mono (by omega)⟩, ((B2.setCell (by simp) _).setCell (by simp) _).setCell (by simp) _⟩
  · have hp : (symC h d k n != 0) = true := by rw [bne_iff_ne]; exact hz
    have e1 : codN (symC h d k n) 32 = 0 := by simp [codN, hz]
    have e2 : codL (symC h d k n) (firstW l []) = [] := by simp [codL, hz]
    have e3 : codL (symC h d k n) (otherW l []) = [] := by simp [codL, hz]
    rw [e1, e2, e3]
    clear e1 e2 e3
    generalize symC h d k n = Z at *
    have S1 := Stc.new (w.alloc (.cells #[.slice A h c, .slice B d e, .slice C k f, .int .i64 n] 26)) 40 [.int .i64 0, .slice none 0 0, .slice none 0 0] _ rfl
    have B0 := ab (ab (Below.refl _ w) (.cells #[.slice A h c, .slice B d e, .slice C k f, .int .i64 n] 26)) (.cells #[.int .i64 0, .slice none 0 0, .slice none 0 0] 40)
    simp only [World.size_alloc] at S1
    go_enter Tryd.func22, Tryd.ntmps22
    go_wp2_with fail
    refine (cs _).mono ?_
    rintro e w1 ⟨rfl, b1⟩
    replace S1 := S1.below b1 S1.lt
    have B1 := ac B0 b1
    have y0 := S1.cell (i := 0) rfl
    have y1 := S1.cell (i := 1) rfl
    have y2 := S1.cell (i := 2) rfl
    have y3 := S1.frozen
    go_wp2
    refine bodyPost_ret (v := .agg #[.int .i64 Z, .slice none 0 0, .slice none 0 0]) (by simp [results, Tryd.results22, go_sem, y0, y1, y2]) rfl ?_
    exact ⟨⟨none, 0, none, 0, rfl, Rs.nil2 _ _⟩, ((B1.setCell (by simp) _).setCell (by simp) _).setCell (by simp) _⟩
end Go.Proofs.YtknkadmngdaakaaDoor
