/- The answers of the model's PolyTag and OpenBox. -/
import Derived.Test.YtcanmhlhnihijaaDoorCipFnC
namespace Go.Proofs.YtcanmhlhnihijaaDoor
open Go.RowKit

def polyCode (n m : Nat) : Int := if n = 32 then (if m ≤ 1000 then 0 else 2) else 3

set_option maxHeartbeats 1000000 in
theorem specPolyTag_any (A : Option Addr) (n1 c1 : Nat) (key : List Int) (A3 : Option Addr) (m c3 : Nat) (data : List Int) (w : World) (h1 : Bs w A n1 key) (hc1 : n1 ≤ c1) (h3 : Bs w A3 m data) (hc3 : m ≤ c3) :
    Calls Tryd.prog 26 #[.slice A n1 c1, .slice A3 m c3] w (BytesAns (polyCode n1 m) (okN (polyCode n1 m) 16) (okL (polyCode n1 m) (polyTag key data)) w) := by
  by_cases hn : n1 = 32
  · subst hn
    by_cases hm : m ≤ 1000
    · have Hf : Shut (okN (polyCode 32 m) 16 = 16 ∧ okL (polyCode 32 m) (polyTag key data) = polyTag key data ∧ polyCode 32 m = 0) := ⟨by simp [okN, okL, polyCode, hm]⟩
      rw [Hf.out.1, Hf.out.2.1, Hf.out.2.2]
      have hcall := fun (w' : World) (h : Below w.heap.size w w') => l3Poly_any A c1 key A3 m c3 data w' (h1.below h) hc1 (h3.below h) (by omega) hc3
      have Lk := Shut.mk (polyTag_len key data)
      generalize polyTag key data = K at *
      go_enter Tryd.func26, Tryd.ntmps26
      go_wp2_with fail
      refine (hcall _ (ab (Below.refl _ _) _)).mono ?_
      clear hcall
      rintro e w1 ⟨⟨A1, q1, rfl, hrow⟩, hb⟩
      have how := hrow.ow' Lk.out
      have t1 := (Two.new w 27 (.int .i64 0) (.slice none 0 0)).below hb (by simp)
      have hs := hb.size
      simp only [World.size_alloc] at hs how
      obtain ⟨x0, x1, x2, x3⟩ := t1.cells
      go_wp2
      refine bodyPost_ret (v := .agg #[.int .i64 0, .slice A1 16 q1]) (by simp [results, Tryd.results26, go_sem, x0, x1]) rfl ?_
      refine ⟨⟨A1, q1, rfl, ((how.far (p := ⟨w.heap.size, 0, none⟩) (by simp) _).far (p := ⟨w.heap.size, 1, none⟩) (by simp) _).mono (by omega)⟩, ?_⟩
      exact ((ac (ab (Below.refl _ w) _) hb).setCell (by simp) _).setCell (by simp) _
    · have Hf : Shut (okN (polyCode 32 m) 16 = 0 ∧ okL (polyCode 32 m) (polyTag key data) = [] ∧ polyCode 32 m = 2) := ⟨by simp [okN, okL, polyCode, hm]⟩
      rw [Hf.out.1, Hf.out.2.1, Hf.out.2.2]
      have h1000 : 1000 < m := by omega
      clear hm
      go_enter Tryd.func26, Tryd.ntmps26
      go_wp2
      go_returns
      exact ⟨⟨none, 0, rfl, Ow.nil_ _ _⟩, by go_grown⟩
  · have Hf : Shut (okN (polyCode n1 m) 16 = 0 ∧ okL (polyCode n1 m) (polyTag key data) = [] ∧ polyCode n1 m = 3) := ⟨by simp [okN, okL, polyCode, hn]⟩
    rw [Hf.out.1, Hf.out.2.1, Hf.out.2.2]
    have hb : ((n1 : Int) != 32) = true := by rw [bne_iff_ne]; omega
    clear hn
    go_enter Tryd.func26, Tryd.ntmps26
    go_wp2
    go_returns
    exact ⟨⟨none, 0, rfl, Ow.nil_ _ _⟩, by go_grown⟩

/-- what a box's opening tells: a: what is asked of the arguments; m: how many bytes the box has -/
def openCode (a : Int) (key nonce more box : List Int) : Int :=
  if a = 0 then (if box.length < 16 then 2 else if boxTag key nonce more (box.take (box.length - 16)) = box.drop (box.length - 16) then 0 else 6) else a
def openL (key nonce box : List Int) : List Int := streamL key 1 nonce (box.take (box.length - 16))

set_option maxHeartbeats 2000000 in
theorem specOpenBox_any (A : Option Addr) (n1 c1 : Nat) (key : List Int) (A2 : Option Addr) (n2 c2 : Nat) (nonce : List Int) (A3 : Option Addr) (p c3 : Nat) (more : List Int) (A4 : Option Addr) (m c4 : Nat) (box : List Int) (w : World)
    (h1 : Bs w A n1 key) (hc1 : n1 ≤ c1) (h2 : Bs w A2 n2 nonce) (hc2 : n2 ≤ c2) (h3 : Bs w A3 p more) (hc3 : A3 = none → c3 = 0) (h4 : Bs w A4 m box) (hc4 : m ≤ c4) :
    Calls Tryd.prog 25 #[.slice A n1 c1, .slice A2 n2 c2, .slice A3 p c3, .slice A4 m c4] w
      (BytesAns (openCode (askCode n1 0 n2 (maxN p m : Int)) key nonce more box) (okN (openCode (askCode n1 0 n2 (maxN p m : Int)) key nonce more box) (m - 16)) (okL (openCode (askCode n1 0 n2 (maxN p m : Int)) key nonce more box) (openL key nonce box)) w) := by
  have hask := fun w => l3Asked_any A n1 c1 0 A2 n2 c2 (maxN p m : Int) w
  have Hm := Shut.mk h4.len
  by_cases hok : askCode n1 0 n2 (maxN p m : Int) = 0
  · obtain ⟨rfl, rfl, hk0, hs0⟩ := ask_zero hok
    simp only [hok] at hask ⊢
    clear hok
    by_cases hlen : m < 16
    · have Hf : Shut (openCode 0 key nonce more box = 2) := ⟨by unfold openCode; rw [if_pos rfl, Hm.out, if_pos hlen]⟩
      rw [Hf.out]
      simp only [show okN 2 (m - 16) = 0 from rfl, show okL 2 (openL key nonce box) = [] from rfl]
      go_enter Tryd.func25, Tryd.ntmps25
      go_wp2_with fail
      refine (max_len p m _).mono ?_
      rintro e w' ⟨rfl, rfl⟩
      go_wp2_with fail
      refine (hask _).mono ?_
      rintro e w' ⟨rfl, rfl⟩
      clear hask
      go_wp2
      go_returns
      exact ⟨⟨none, 0, rfl, Ow.nil_ _ _⟩, by go_grown⟩
    · obtain ⟨q, rfl⟩ : ∃ q, m = q + 16 := ⟨m - 16, by omega⟩
      have hpm : p ≤ 1000 ∧ q + 16 ≤ 1000 := by unfold maxN at hs0; split at hs0 <;> omega
      have hcall := fun (w' : World) (h : Below w.heap.size w w') => l3Open_any A c1 key A2 c2 nonce A3 p c3 more A4 q c4 box w' (h1.below h) hc1 (h2.below h) hc2 (h3.below h) (by omega) hc3 (h4.below h) (by omega) hc4
      have HO : Shut (openL key nonce box = streamL key 1 nonce (box.take q)) := ⟨by unfold openL; rw [Hm.out, Nat.add_sub_cancel]⟩
      have Lk : Shut ((streamL key 1 nonce (box.take q)).length = q) := ⟨by rw [streamL_len, List.length_take, Hm.out]; omega⟩
      rw [HO.out]
      by_cases hT : boxTag key nonce more (box.take q) = box.drop q
      · have Hf : Shut (openCode 0 key nonce more box = 0) := ⟨by unfold openCode; rw [if_pos rfl, Hm.out, if_neg (by omega), Nat.add_sub_cancel, if_pos hT]⟩
        rw [Hf.out]
        simp only [if_pos hT] at hcall
        simp only [show okN 0 (q + 16 - 16) = q from by simp [okN], show okL 0 (streamL key 1 nonce (box.take q)) = streamL key 1 nonce (box.take q) from rfl]
        clear hT HO
        generalize streamL key 1 nonce (box.take q) = K at *
        go_enter Tryd.func25, Tryd.ntmps25
        go_wp2_with fail
        refine (max_len p (q + 16) _).mono ?_
        rintro e w' ⟨rfl, rfl⟩
        go_wp2_with fail
        refine (hask _).mono ?_
        rintro e w' ⟨rfl, rfl⟩
        clear hask
        go_wp2_with fail
        refine (hcall _ (ab (Below.refl _ _) _)).mono ?_
        clear hcall
        rintro e w1 ⟨⟨A1, q1, rfl, hrow⟩, hb⟩
        have how := hrow.ow' Lk.out
        have t1 := (Two.new w 27 (.int .i64 0) (.slice none 0 0)).below hb (by simp)
        have hs := hb.size
        simp only [World.size_alloc] at hs how
        obtain ⟨x0, x1, x2, x3⟩ := t1.cells
        go_wp2
        refine bodyPost_ret (v := .agg #[.int .i64 0, .slice A1 q q1]) (by simp [results, Tryd.results25, go_sem, x0, x1]) rfl ?_
        refine ⟨⟨A1, q1, rfl, ((how.far (p := ⟨w.heap.size, 0, none⟩) (by simp) _).far (p := ⟨w.heap.size, 1, none⟩) (by simp) _).mono (by omega)⟩, ?_⟩
        exact ((ac (ab (Below.refl _ w) _) hb).setCell (by simp) _).setCell (by simp) _
      · have Hf : Shut (openCode 0 key nonce more box = 6) := ⟨by unfold openCode; rw [if_pos rfl, Hm.out, if_neg (by omega), Nat.add_sub_cancel, if_neg hT]⟩
        rw [Hf.out]
        simp only [if_neg hT] at hcall
        simp only [show okN 6 (q + 16 - 16) = 0 from rfl, show okL 6 (streamL key 1 nonce (box.take q)) = [] from rfl]
        clear hT HO Lk
        go_enter Tryd.func25, Tryd.ntmps25
        go_wp2_with fail
        refine (max_len p (q + 16) _).mono ?_
        rintro e w' ⟨rfl, rfl⟩
        go_wp2_with fail
        refine (hask _).mono ?_
        rintro e w' ⟨rfl, rfl⟩
        clear hask
        go_wp2_with fail
        refine (hcall _ (ab (Below.refl _ _) _)).mono ?_
        clear hcall
        rintro e w1 ⟨rfl, hb⟩
        have t1 := (Two.new w 27 (.int .i64 0) (.slice none 0 0)).below hb (by simp)
        have hs := hb.size
        simp only [World.size_alloc] at hs
        obtain ⟨x0, x1, x2, x3⟩ := t1.cells
        go_wp2
        refine bodyPost_ret (v := .agg #[.int .i64 6, .slice none 0 0]) (by simp [results, Tryd.results25, go_sem, x0, x1]) rfl ?_
        refine ⟨⟨none, 0, rfl, Ow.nil_ _ _⟩, ?_⟩
        exact ((ac (ab (Below.refl _ w) _) hb).setCell (by simp) _).setCell (by simp) _
  · have Hf : Shut (openCode (askCode n1 0 n2 (maxN p m : Int)) key nonce more box = askCode n1 0 n2 (maxN p m : Int)) := ⟨by unfold openCode; rw [if_neg hok]⟩
    have Hg : Shut (okN (askCode n1 0 n2 (maxN p m : Int)) (m - 16) = 0 ∧ okL (askCode n1 0 n2 (maxN p m : Int)) (openL key nonce box) = []) := ⟨by simp [okN, okL, hok]⟩
    rw [Hf.out, Hg.out.1, Hg.out.2]
    have hne : (askCode n1 0 n2 (maxN p m : Int) != 0) = true := by rw [bne_iff_ne]; exact hok
    clear hok Hf Hg
    generalize askCode n1 0 n2 (maxN p m : Int) = C at *
    go_enter Tryd.func25, Tryd.ntmps25
    go_wp2_with fail
    refine (max_len p m _).mono ?_
    rintro e w' ⟨rfl, rfl⟩
    go_wp2_with fail
    refine (hask _).mono ?_
    rintro e w' ⟨rfl, rfl⟩
    clear hask
    go_wp2
    go_returns
    exact ⟨⟨none, 0, rfl, Ow.nil_ _ _⟩, by go_grown⟩
end Go.Proofs.YtcanmhlhnihijaaDoor
