/- The model hears an answer: the marks, and what goes out of the window. -/
import Derived.Test.YtbelplonlcdahaaHakA
namespace Go.Proofs.Ytbelplonlcdahaa
open Go.RowKit

def cnt (g : Nat) (w : World) : Nat := match w.cell? ⟨g, 1, none⟩ with | some (.slice _ n _) => n | _ => 0

set_option linter.unusedVariables false in
set_option maxHeartbeats 4000000 in
theorem l8Ack_any (g : Nat) (base ack mask : Int) (A : Option Addr) (n c : Nat) (els : List PartD) (F : Nat → Prop) (w : World) (hS : Stc w g [.int .i64 base, .slice A n c] 26) (hg : ¬ F g) (h : Lo PartD.cels 4 w F A n els) (hr : Rm A n c) (hn : n ≤ 1000) (hb0 : 0 ≤ base) (hb1 : base ≤ 10000) (h0 : 0 ≤ ack) (h1 : ack ≤ 10000) (h2 : 0 ≤ mask) (h3 : mask ≤ 255) :
    Calls Try.prog 102 #[.pointer (some ⟨g, 0, none⟩), .int .i64 ack, .int .i64 mask] w fun x w' => x = .returned (.tuple #[]) ∧ (∃ A' n' c', n' = (slid base (ackL ack mask base els)).2.length ∧ Stc w' g [.int .i64 (slid base (ackL ack mask base els)).1, .slice A' n' c'] 26 ∧ Lo PartD.cels 4 w' F A' n' (slid base (ackL ack mask base els)).2 ∧ Rm A' n' c') ∧ Tu (fun b => F b ∨ b = g) w w' := by
  obtain ⟨L, hL⟩ : ∃ L, L = ackL ack mask base els := ⟨_, rfl⟩
  rw [← hL]
  have HL := Shut.mk hL
  clear hL
  have hgl := hS.lt
  have Hl := Shut.mk h.len
  have v1 := hS.cell (i := 1) rfl
  have HR := Shut.mk hr
  clear hr
  go_enter Try.func102, Try.ntmps102
  go_wp2
  go_loopw [14] (fun i wr => ∃ k : Nat, k ≤ n ∧ i = .int .i64 k ∧ Lo PartD.cels 4 wr F A n (markd_ (ackE ack mask) one1 base els k) ∧ Stc wr g [.int .i64 base, .slice A n c] 26 ∧ Tu (fun b => F b ∨ b = g) w wr) (fun i _ => n - (intOf i).toNat)
  case atStart => exact ⟨0, Nat.zero_le _, rfl, by rw [markd_zero_]; exact h, hS, Tu.refl _ _⟩
  case round =>
    obtain ⟨k, hk, rfl, hlo, hS1, htu⟩ := hrel
    have u0 := hS1.cell (i := 0) rfl
    have u1 := hS1.cell (i := 1) rfl
    have hgl1 := hS1.lt
    clear v1 h hS
    by_cases hlt : k < n
    · have he : els[k]? = some (els[k]'(by rw [Hl.out]; exact hlt)) := List.getElem?_eq_getElem _
      generalize els[k]'(by rw [Hl.out]; exact hlt) = e at he
      have hst := markd_set_ (ackE ack mask) one1 base he
      have hidx : base + (sumE one1 (els.take k) : Int) = base + (k : Int) := by rw [sum_one, List.length_take, Nat.min_eq_left (by rw [Hl.out]; exact Nat.le_of_lt hlt)]
      rw [hidx] at hst
      have hget := markd_get_ (ackE ack mask) one1 base he
      obtain ⟨b, off, B, m, d, rfl, hF, hbl, hfz, c0, c1, c2, c3, hset⟩ := hlo.setGot hget
      have hbg : ¬ g = b := fun e => hg (e ▸ hF)
      have hbg2 : ¬ b = g := fun e => hg (e ▸ hF)
      obtain ⟨sq, hsq⟩ : ∃ sq, sq = base + (k : Int) := ⟨_, rfl⟩
      have hwq : IntKind.i64.wrap (base + (k : Int)) = sq := by rw [hsq]; exact IntWalk.i64_in _ (by omega)
      have hsame : (markd_ (ackE ack mask) one1 base els k).set k e = markd_ (ackE ack mask) one1 base els k := by
        apply List.ext_getElem? ; intro i
        by_cases hi : k = i
        · subst hi; rw [hget, List.getElem?_set_self (List.getElem?_eq_some_iff.1 hget).1]
        · rw [List.getElem?_set_ne hi]
      have Hsame := Shut.mk hsame
      clear hsame
      rw [← hsq] at hst
      have hq0 : 0 ≤ sq ∧ sq ≤ 11000 := by omega
      have Hst := Shut.mk hst
      have Hsq := Shut.mk hsq
      clear hst hidx hget he hsq
      have t9 : decide ((k : Int) < (n : Int)) = true := by simp; omega
      by_cases ha : sq < ack
      · have hcame := came_lt (mask := mask) ha
        have t0 : decide (sq < ack) = true := by simpa using ha
        by_cases hs : sentB e = true
        · have hsent : sentB e = true := hs
          have Hnx : Shut (Lo PartD.cels 4 (wr.setCell ⟨b, off + k * 4 + 3, none⟩ (.bool true)) F (some ⟨b, off, none⟩) n (markd_ (ackE ack mask) one1 base els (k + 1))) := ⟨by rw [← Hst.out, ackE_yes hsent hcame]; exact hset.out⟩
          have t5 : (e.f2 != -1) = true := hsent
          clear hset hlo hcame
          go_wp2
          go_roundw
          case rel => exact ⟨k + 1, by omega, by go_num, Hnx.out, hS1.far hbg _, htu.set_ (p := ⟨b, off + k * 4 + 3, none⟩) (.inl hF) _⟩
          case measure => (simp [intOf]; omega)
        · have hsent : sentB e = false := by simpa using hs
          have Hnx : Shut (Lo PartD.cels 4 wr F (some ⟨b, off, none⟩) n (markd_ (ackE ack mask) one1 base els (k + 1))) := ⟨by rw [← Hst.out, ackE_no (.inl hsent), Hsame.out]; exact hlo⟩
          have t5 : (e.f2 != -1) = false := hsent
          clear hset hlo hcame
          go_wp2
          go_roundw
          case rel => exact ⟨k + 1, by omega, by go_num, Hnx.out, hS1, htu⟩
          case measure => (simp [intOf]; omega)
      · have t0 : decide (sq < ack) = false := by simpa using ha
        have hin := fun W => In_any (sq - ack - 1) 0 7 W
        by_cases hd : 0 ≤ sq - ack - 1 ∧ sq - ack - 1 ≤ 7
        · have e8 : inB (sq - ack - 1) 0 7 = true := by unfold inB; exact decide_eq_true hd
          rw [e8] at hin
          have hbit := fun W => l8Bit_any mask (sq - ack - 1).toNat W h2 h3 (by omega)
          rw [Int.toNat_of_nonneg hd.1] at hbit
          have hce := came_bit (mask := mask) ha hd.1
          have h29 : ((sq - ack - 1).toNat : Int) = sq - ack - 1 := Int.toNat_of_nonneg hd.1
          obtain ⟨cb, hcb⟩ : ∃ cb, cb = bitB mask (sq - ack - 1).toNat := ⟨_, rfl⟩
          rw [← hcb] at hce hbit
          clear hcb h29 e8 hd
          cases cb
          · have hcame := hce
            clear hce
            have Hnx : Shut (Lo PartD.cels 4 wr F (some ⟨b, off, none⟩) n (markd_ (ackE ack mask) one1 base els (k + 1))) := ⟨by rw [← Hst.out, ackE_no (.inr hcame), Hsame.out]; exact hlo⟩
            clear hset hlo hcame
            go_wp2_with fail
            refine (hin _).mono ?_
            rintro x w9 ⟨rfl, rfl⟩
            go_wp2_with fail
            refine (hbit _).mono ?_
            rintro x w9 ⟨rfl, rfl⟩
            go_wp2
            go_roundw
            case rel => exact ⟨k + 1, by omega, by go_num, Hnx.out, hS1, htu⟩
            case measure => (simp [intOf]; omega)
          · have hcame := hce
            clear hce
            by_cases hs : sentB e = true
            · have hsent : sentB e = true := hs
              have Hnx : Shut (Lo PartD.cels 4 (wr.setCell ⟨b, off + k * 4 + 3, none⟩ (.bool true)) F (some ⟨b, off, none⟩) n (markd_ (ackE ack mask) one1 base els (k + 1))) := ⟨by rw [← Hst.out, ackE_yes hsent hcame]; exact hset.out⟩
              have t5 : (e.f2 != -1) = true := hsent
              clear hset hlo hcame
              go_wp2_with fail
              refine (hin _).mono ?_
              rintro x w9 ⟨rfl, rfl⟩
              go_wp2_with fail
              refine (hbit _).mono ?_
              rintro x w9 ⟨rfl, rfl⟩
              go_wp2
              go_roundw
              case rel => exact ⟨k + 1, by omega, by go_num, Hnx.out, hS1.far hbg _, htu.set_ (p := ⟨b, off + k * 4 + 3, none⟩) (.inl hF) _⟩
              case measure => (simp [intOf]; omega)
            · have hsent : sentB e = false := by simpa using hs
              have Hnx : Shut (Lo PartD.cels 4 wr F (some ⟨b, off, none⟩) n (markd_ (ackE ack mask) one1 base els (k + 1))) := ⟨by rw [← Hst.out, ackE_no (.inl hsent), Hsame.out]; exact hlo⟩
              have t5 : (e.f2 != -1) = false := hsent
              clear hset hlo hcame
              go_wp2_with fail
              refine (hin _).mono ?_
              rintro x w9 ⟨rfl, rfl⟩
              go_wp2_with fail
              refine (hbit _).mono ?_
              rintro x w9 ⟨rfl, rfl⟩
              go_wp2
              go_roundw
              case rel => exact ⟨k + 1, by omega, by go_num, Hnx.out, hS1, htu⟩
              case measure => (simp [intOf]; omega)
        · have e8 : inB (sq - ack - 1) 0 7 = false := by unfold inB; exact decide_eq_false hd
          rw [e8] at hin
          have hcame := came_out ha h2 h3 hd
          clear e8 hd
          have Hnx : Shut (Lo PartD.cels 4 wr F (some ⟨b, off, none⟩) n (markd_ (ackE ack mask) one1 base els (k + 1))) := ⟨by rw [← Hst.out, ackE_no (.inr hcame), Hsame.out]; exact hlo⟩
          clear hset hlo hcame
          go_wp2_with fail
          refine (hin _).mono ?_
          rintro x w9 ⟨rfl, rfl⟩
          go_wp2
          go_roundw
          case rel => exact ⟨k + 1, by omega, by go_num, Hnx.out, hS1, htu⟩
          case measure => (simp [intOf]; omega)
    · obtain rfl : k = n := by omega
      rw [markd_full_ _ _ _ _ _ Hl.out] at hlo
      have hr := HR.out
      have t9 : decide ((k : Int) < (k : Int)) = false := by simp
      change Lo PartD.cels 4 wr F A k (ackL ack mask base els) at hlo
      rw [← HL.out] at hlo
      clear HL HR Hl
      go_wp2
      go_loopw [61] (fun q wr => ∃ (b' : Int) (A' : Option Addr) (n' c' : Nat) (els' : List PartD), Shut (slid b' els' = slid base L) ∧ base ≤ b' ∧ b' + (n' : Int) = base + (k : Int) ∧ Stc wr g [.int .i64 b', .slice A' n' c'] 26 ∧ Lo PartD.cels 4 wr F A' n' els' ∧ Shut (Rm A' n' c') ∧ Tu (fun b => F b ∨ b = g) w wr) (fun q wr => cnt g wr)
      case atStart => exact ⟨base, A, k, c, L, ⟨rfl⟩, by omega, by omega, hS1, hlo, ⟨hr⟩, htu⟩
      case round =>
        clear u0 u1 hgl1 htu hS1 hlo
        obtain ⟨b', A', n', c', els', hE, hb2, hb3, hS2, hlo, hr2, htu⟩ := hrel
        have u0 := hS2.cell (i := 0) rfl
        have u1 := hS2.cell (i := 1) rfl
        have uf := hS2.frozen
        have hgl1 := hS2.lt
        have hcnt : cnt g wr = n' := by unfold cnt; rw [u1]
        have hlen := hlo.len
        rcases els' with _ | ⟨e, r⟩
        · obtain rfl : n' = 0 := by rw [← hlen]; rfl
          go_wp2
          go_end0
          exact ⟨rfl, ⟨_, _, _, by rw [← hE.out]; rfl, by rw [← hE.out]; exact hS2, by rw [← hE.out]; exact hlo, hr2.out⟩, htu⟩
        · obtain ⟨m, rfl⟩ : ∃ m, n' = m + 1 := ⟨r.length, by rw [← hlen]; rfl⟩
          obtain ⟨b, off, e', B, mm, d, rfl, hbl, he, c0, c1, c2, c3, hB, hz⟩ := hlo.rows.getPart (k := 0) (by omega)
          obtain rfl : e = e' := by have := he.out; simpa using this
          simp only [Nat.zero_mul, Nat.add_zero] at c3
          have hr2' := hr2.out.1
          cases hf : e.f3
          · rw [hf] at c3
            have E2 := slid_not (b := b') (r := r) hf
            rw [hE.out] at E2
            have HE2 := Shut.mk E2
            have Hlen := Shut.mk hlen
            clear E2 hlen
            go_wp2
            go_end0
            exact ⟨rfl, ⟨_, _, _, by rw [HE2.out]; exact Hlen.out.symm, by rw [HE2.out]; exact hS2, by rw [HE2.out]; exact hlo, hr2.out⟩, htu⟩
          · rw [hf] at c3
            have E2 := slid_got (b := b') (r := r) hf
            rw [hE.out] at E2
            have HE2 := Shut.mk E2
            clear E2 hlen
            have hS3 := fun v => (hS2.set_ (i := 1) v).set_ (i := 0) (.int .i64 (b' + 1))
            have htu3 := fun v => (htu.set_ (p := ⟨g, 1, none⟩) (.inr rfl) v).set_ (p := ⟨g, 0, none⟩) (.inr rfl) (.int .i64 (b' + 1))
            have hlo3 := fun v => hlo.tu (H := fun q => q = g) (((Tu.refl (fun q => q = g) wr).set_ (p := ⟨g, 1, none⟩) rfl v).set_ (p := ⟨g, 0, none⟩) rfl (.int .i64 (b' + 1))) (fun q hq e => hg (e ▸ hq))
            go_wp2
            refine ⟨⟨b' + 1, _, m, c' - 1, r, ⟨HE2.out.symm⟩, by omega, by push_cast at hb3; omega, hS3 _, ?_, ⟨by omega, ?_⟩, htu3 _⟩, ?_⟩
            · by_cases hc1 : c' = 1
              · have hm0 : m = 0 := by omega
                subst hm0
                have hr0 : r = [] := by have := (hlo3 (.int .i64 0)).len; simpa using this
                subst hr0
                exact Lo.nil_ _ _ _
              · rw [if_neg hc1]; exact (hlo3 _).tail
            · intro hA
              split at hA <;> cases hA
            · have hq := (hS3 (.slice (if c' = 1 then some ⟨b, off, none⟩ else some ⟨b, off + 4, none⟩) m (c' - 1))).cell (i := 1) rfl
              rw [hcnt]
              unfold cnt
              rw [hq]
              exact Nat.lt_succ_self m
end Go.Proofs.Ytbelplonlcdahaa
