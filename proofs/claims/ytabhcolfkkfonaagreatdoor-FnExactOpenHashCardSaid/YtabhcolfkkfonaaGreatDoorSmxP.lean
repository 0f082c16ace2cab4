import Derived.RangeFuncFrom
import Derived.RangeFuncNested
import Derived.RangeFuncLeaves
import Derived.OwnWalkIn
import Derived.TacticsInMore
import Derived.Test.YtabhcolfkkfonaaGreatDoorBase
import Derived.Test.YtabhcolfkkfonaaGreatDoorBlkP
import Derived.Test.YtabhcolfkkfonaaGreatDoorMdlX
import Derived.Test.YtabhcolfkkfonaaGreatDoorRoundP
import Derived.Test.YtabhcolfkkfonaaGreatDoorTurnsC
import Derived.Test.YtabhcolfkkfonaaGreatDoorAnsX
import Derived.Test.YtabhcolfkkfonaaGreatDoorSpan

/-! LeftP -/
/- A range over an iterator that has no end of its own: its rounds are numbered, and one of them leaves. -/
namespace Go.Proofs.YtabhcolfkkfonaaGreatDoor
open Go.RowKit

/-- how the body of a round is left: it goes on to the next one, or leaves the loop -/
def leftPost (I : World → Prop) (Ix : Code → World → Prop) (W : World) : Exit → Act → World → Prop
  | .normal, _, W' => KeepsOthers W W' ∧ I W'
  | .exit id, _, W' => KeepsOthers W W' ∧ Ix (.exit id) W'
  | .ret, _, _ => False
  | .goto _, _, _ => False
  | .panic _, _, _ => False
  | .outgrown, _, _ => False

/-- turns of a block that is no cells, from B on -/
def Turns (B : Nat) (X : World → Prop) : Prop := ∀ (W : World) (l : Nat) (o o' : Obj), B ≤ l → W.heap[l]? = some o → o.isCells = false → X W → X (W.putObj l o')

set_option maxHeartbeats 2000000 in
theorem rangeFunc_left {F : Fence} {n : Nat} {P : Program} {g : Operand} {ps : Array Tmp} {assign body : Code} {Q : Exit → Act → World → Prop} {a : Act} {w : World}
    (hro : F.round = none) (h1 : 1 ≤ n) {gf : Nat} {lb : Array Value} (hg : a.eval g = .func (.func gf) #[] lb) (hFg : F.fn gf) (eg : ∀ args w, (callFunc gf args).run P w = .ok (.enter gf args) w) (hps : ps.size = 1)
    (I : Nat → World → Prop) (Ix : Code → World → Prop) (G : Nat → Value → World → Prop)
    (hIs : ∀ k W W', I k W → Below W.heap.size W W' → I k W') (hIp : ∀ k, Turns w.heap.size (I k)) (hXp : ∀ c, Turns w.heap.size (Ix c)) (hGp : ∀ k v, Turns w.heap.size (G k v)) (h0 : I 0 w)
    (hiter : ∀ (l : Nat) (J : Nat → World → Prop) (Jx : World → Prop) (W : World), (∀ k W W', J k W → Below W.heap.size W W' → J k W') → (∀ k W, J k W → I k W) →
      (∀ k v W1, J k W1 → G k v W1 → YieldAt F (n - 1 - 1) P l #[v] W1 fun e W' => (e = .returned (.bool true) ∧ J (k + 1) W') ∨ (e = .returned (.bool false) ∧ Jx W')) →
      J 0 W → CallsIn F (n - 1) P gf (#[.func (.yield l) #[] #[]] ++ lb) W fun e W' => (∃ v, e = .returned v) ∧ Jx W')
    (a₁ : Value → Act)
    (hassign : ∀ (l : Nat) (v : Value) (W : World) (K : Act → World → Prop), K (a₁ v) W → assign.wpIn (F.inRound l) (n - 1 - 1) P (Exit.then K (fun _ _ _ => False)) { tmps := (ps.zip #[v]).foldl (fun t (p, v) => t.setIfInBounds p v) a.tmps, defers := [] } W)
    (hbody : ∀ (l k : Nat) (v : Value) (W : World), I k W → G k v W → body.wpIn (F.inRound l) (n - 1 - 1) P (leftPost (I (k + 1)) Ix W) (a₁ v) W)
    (hstop : ∀ (D : Nat) (c : Code) (W : World), w.heap.size ≤ D → Ix c W → W.heap[D]? = some (.deferred (some [])) → c.wpIn F n P Q { a with defers := { target := .collected D, args := #[] } :: a.defers } W) :
    (Code.rangeFunc g ps assign body).wpIn F n P Q a w := by
  refine wpIn_rangeFunc fun fn hfn => ?_
  rw [hro]
  let R : LoopState → Option Code → Loop := fun st pe => { state := st, pending := pe, fn, tmps := a.tmps, params := ps, assign, body, defers := w.heap.size }
  have hR : ∀ st pe, R st pe = { state := st, pending := pe, fn, tmps := a.tmps, params := ps, assign, body, defers := w.heap.size } := fun _ _ => rfl
  generalize R = R at hR
  obtain ⟨W1, hW1⟩ : ∃ W1, (w.alloc (.deferred (some []))).alloc (.loop (R .ready none)) = W1 := ⟨_, rfl⟩
  have bL : W1.heap[w.heap.size + 1]? = some (.loop (R .ready none)) := by
    have := World.alloc_heap_new (w.alloc (.deferred (some []))) (.loop (R .ready none))
    rwa [World.size_alloc, hW1] at this
  have bD : W1.heap[w.heap.size]? = some (.deferred (some [])) := by
    have := (Below.heap_alloc (w.alloc (.deferred (some []))) (.loop (R .ready none)) w.heap.size (by simp)).trans (World.alloc_heap_new w _)
    rwa [hW1] at this
  have bI : I 0 W1 := by
    have := hIs 0 w _ h0 (((Below.refl _ w).alloc (Nat.le_refl _) (.deferred (some []))).alloc (by simp) (.loop (R .ready none)))
    rwa [hW1] at this
  refine ⟨w.heap.size + 1, [{ target := .collected w.heap.size, args := #[] }], W1, { target := .fn (.func gf) lb, args := #[.func (.yield (w.heap.size + 1)) #[] #[]] }, W1, gf, #[.func (.yield (w.heap.size + 1)) #[] #[]] ++ lb, W1, ?_, ?_, ?_, ?_, fun _ => h1, ?_⟩
  · rw [← hW1, hR]
    exact run_enterLoop_outer _ _ _ _ _
  · simp only [resolve, hg]
    simp [go_sem]
  · intro f' hf'
    simp [Target.leads] at hf'
    subst hf'
    exact hFg
  · simp [invoke, go_sem, eg]
  · refine (hiter (w.heap.size + 1)
      (fun k W => I k W ∧ W.heap[w.heap.size + 1]? = some (.loop (R .ready none)) ∧ W.heap[w.heap.size]? = some (.deferred (some [])))
      (fun W => ∃ c, Ix c W ∧ W.heap[w.heap.size + 1]? = some (.loop (R .done (some c))) ∧ W.heap[w.heap.size]? = some (.deferred (some [])))
      W1 (fun k W W' h hb => ⟨hIs k W W' h.1 hb, (hb.block _ (Array.getElem?_eq_some_iff.1 h.2.1).1).trans h.2.1, (hb.block _ (Array.getElem?_eq_some_iff.1 h.2.2).1).trans h.2.2⟩) (fun k W h => h.1) ?_ ⟨bI, bL, bD⟩).mono ?_
    · -- one round
      rintro k v W ⟨hi, hl, hd⟩ hG
      have hy := run_yield (P := P) (args := #[v]) hl (by rw [hR]; exact hps.symm)
      rw [hR] at hy
      refine ⟨fn, _, assign, body, hy, roundIn_of_wpIn hfn (hassign _ v W _ ⟨_, run_beginRound hl (by rw [hR]), ?_⟩)⟩
      have hlt := (Array.getElem?_eq_some_iff.1 hl).1
      obtain ⟨W2, hW2⟩ : ∃ W2, W.putObj (w.heap.size + 1) (.loop { R .ready none with state := .busy }) = W2 := ⟨_, rfl⟩
      have hl2 : W2.heap[w.heap.size + 1]? = some (.loop { R .ready none with state := .busy }) := by rw [← hW2]; exact World.putObj_heap_same hlt
      have hd2 : W2.heap[w.heap.size]? = some (.deferred (some [])) := by rw [← hW2]; exact (World.putObj_heap_other (by omega)).trans hd
      have hi2 : I k W2 := by rw [← hW2]; exact hIp k W _ _ _ (by omega) hl rfl hi
      have hG2 : G k v W2 := by rw [← hW2]; exact hGp k v W _ _ _ (by omega) hl rfl hG
      rw [hW2]
      refine wpIn_mono (hbody _ k v W2 hi2 hG2) ?_
      rintro e a3 W3 hp
      cases e with
      | normal =>
        obtain ⟨hk, hi3⟩ := hp
        have hl3 := hk.same _ _ hl2 rfl
        have hr := run_endRound (P := P) none hl3
        refine ⟨_, _, hr, .inl ⟨rfl, hIp _ W3 _ _ _ (by omega) hl3 rfl hi3, ?_, (World.putObj_heap_other (by omega)).trans (hk.same _ _ hd2 rfl)⟩⟩
        rw [World.putObj_heap_same (Array.getElem?_eq_some_iff.1 hl3).1]
        simp [hR]
      | exit id =>
        obtain ⟨hk, hi3⟩ := hp
        have hl3 := hk.same _ _ hl2 rfl
        have hr := run_endRound (P := P) (some (.exit id)) hl3
        refine ⟨_, _, hr, .inr ⟨rfl, .exit id, hXp _ W3 _ _ _ (by omega) hl3 rfl hi3, ?_, (World.putObj_heap_other (by omega)).trans (hk.same _ _ hd2 rfl)⟩⟩
        rw [World.putObj_heap_same (Array.getElem?_eq_some_iff.1 hl3).1]
        simp [hR]
      | ret => exact hp.elim
      | goto t => exact hp.elim
      | panic c => exact hp.elim
      | outgrown => exact hp.elim
    · rintro e W2 ⟨⟨v, rfl⟩, c, hi, hl, hd⟩
      refine ⟨some c, _, by have := run_endLoop (P := P) hl (by rw [hR]; simp); rw [hR] at this; exact this, ?_⟩
      exact hstop _ c _ (Nat.le_refl _) (hXp _ W2 _ _ _ (by omega) hl rfl hi) ((World.putObj_heap_other (by omega)).trans hd)
end Go.Proofs.YtabhcolfkkfonaaGreatDoor

/-! XorP -/
/- XorBytes of the program, where both have one length: its answer lies in a block of its own. -/
namespace Go.Proofs.YtabhcolfkkfonaaGreatDoor
open Go.RowKit

set_option maxHeartbeats 1000000 in
theorem xorOk_any (A B : Option Addr) (n c d : Nat) (l r : List Int) (w : World) (h : Bs w A n l) (h' : Bs w B n r) (h1000 : n ≤ 1000) :
    Calls Tryz.prog 195 #[.slice A n c, .slice B n d] w fun e w' => (∃ g, e = .returned (.agg #[.int .i64 0, .slice (some ⟨g, 0, none⟩) n n]) ∧ Bs w' (some ⟨g, 0, none⟩) n (xorL l r) ∧ w.heap.size ≤ g) ∧ Below w.heap.size w w' := by
  have Hl := Lib.hid h.len
  have Hr := Lib.hid h'.len
  have Hx : Hid ((xorL l r).length = n) := by
    show (xorL l r).length = n
    rw [xorL_len l r (by rw [Hl.out, Hr.out]), Hl.out]
  have hxb := xorL_byte l r h.byte h'.byte
  have hmk := run_make_bytes n (by omega)
  go_enter Tryz.func195, Tryz.ntmps195
  go_wp2
  clear hmk
  go_loopw [6, 23] (fun _ i wr => ∃ k : Nat, k ≤ n ∧ i = .int .i64 k ∧ Blk wr (w.heap.size + 1) (part (xorL l r) n k) ∧ Below (w.heap.size + 1) (w.alloc (.cells #[.int .i64 0, .slice none 0 0] 46)) wr) (fun _ i _ => n - (intOf i).toNat)
  case atStart =>
    refine ⟨0, Nat.zero_le _, rfl, ?_, (Below.refl _ _).alloc (by simp) _⟩
    rw [part_zero]
    have := zero_row (w.alloc (.cells #[.int .i64 0, .slice none 0 0] 46)) n
    simpa using this
  case round =>
    obtain ⟨k, hk, rfl, hblk, hbel⟩ := hrel
    by_cases hlt : k < n
    · obtain ⟨b, off, X, rfl, hbs, hX0, hX1, HX, hx⟩ := h.get hlt
      obtain ⟨b', off', Y, rfl, hbs', hY0, hY1, HY, hy⟩ := h'.get hlt
      have hB := (ab (Below.refl _ w) _).trans (hbel.mono (by omega))
      have hx' := (hB.cell (p := ⟨b, off + k, none⟩) hbs).trans hx
      have hy' := (hB.cell (p := ⟨b', off' + k, none⟩) hbs').trans hy
      clear hx hy
      have hpl := part_len (xorL l r) n k Hx.out hk
      have hz := hblk.cell (i := k) (by omega)
      have hfz := hblk.frozen k
      clear hpl
      have hkn : (k : Int) < (n : Int) := by omega
      have Hs : Hid (bits BinOp.xor IntKind.u8 X Y = (xorL l r).getD k 0) := by
        show xorB X Y = (xorL l r).getD k 0
        rw [xorL_get l r k (by rw [Hl.out]; exact hlt) (by rw [Hr.out]; exact hlt), HX.out, HY.out]
      go_wp2
      go_region
      all_goals
        go_wp2
        refine ⟨⟨k + 1, by omega, by go_num, ?_, (hbel.setCell (by simp) _).drew⟩, by simp [intOf]; omega⟩
        rw [Hs.out, ← part_set (xorL l r) n k Hx.out hlt]
        exact hblk.set_ k _
    · obtain rfl : k = n := by omega
      have t1 := (Two.new w 46 (.int .i64 0) (.slice none 0 0)).below hbel (by simp)
      obtain ⟨x0, x1, x2, x3⟩ := t1.cells
      rw [part_full _ _ Hx.out] at hblk
      have how := hblk.own hxb Hx.out
      go_wp2
      refine bodyPost_ret (v := .agg #[.int .i64 0, .slice (some ⟨w.heap.size + 1, 0, none⟩) k k]) (by simp [results, Tryz.results195, go_sem, x0, x1]) rfl ?_
      exact ⟨⟨_, rfl, ((how.far (p := ⟨w.heap.size, 0, none⟩) (by simp) _).far (p := ⟨w.heap.size, 1, none⟩) (by simp) _).bs, by omega⟩, ((ab (Below.refl _ w) _).trans (hbel.mono (by omega)) |>.setCell (by simp) _).setCell (by simp) _⟩
end Go.Proofs.YtabhcolfkkfonaaGreatDoor

/-! StrP -/
/- A stream that goes on from block to block, of the program: a range over an iterator. -/
namespace Go.Proofs.YtabhcolfkkfonaaGreatDoor
open Go.RowKit Go.Shelf

attribute [local go_sem] Oper.semAt_some

/-- the three boxes of the iterator hold key, counter and nonce -/
structure From (W : World) (kb cb nb b off c b2 off2 c2 : Nat) (n : Int) : Prop where
  k : Boxed W kb 22 (.slice (some ⟨b, off, none⟩) 32 c)
  n_ : Boxed W cb 158 (.int .u32 n)
  o : Boxed W nb 22 (.slice (some ⟨b2, off2, none⟩) 12 c2)
theorem From.keep {W W' : World} {kb cb nb b off c b2 off2 c2 : Nat} {n : Int} (h : From W kb cb nb b off c b2 off2 c2 n) (h1 : W'.heap[kb]? = W.heap[kb]?) (h2 : W'.heap[cb]? = W.heap[cb]?) (h3 : W'.heap[nb]? = W.heap[nb]?) : From W' kb cb nb b off c b2 off2 c2 n :=
  ⟨h1.trans h.k, h2.trans h.n_, h3.trans h.o⟩

set_option maxHeartbeats 1000000 in
theorem streamFrom_in (F : Fence) (n : Nat) (hf : F.fn 194) (hro : F.round = none) (key nonce : Value) (cnt : Int) (w : World) (A1 A2 : Option Addr) (n1 c1 n2 c2 : Nat) (hk : key = .slice A1 n1 c1) (hn : nonce = .slice A2 n2 c2) :
    CallsIn F n Tryz.prog 194 #[key, .int .u32 cnt, nonce] w fun e w' => e = .returned (.func (.func 215) #[] #[.pointer (some ⟨w.heap.size + 1, 0, none⟩), .pointer (some ⟨w.heap.size, 0, none⟩), .pointer (some ⟨w.heap.size + 1 + 1, 0, none⟩)]) ∧
      w' = ((w.alloc (.cells #[key] 22)).alloc (.cells #[.int .u32 cnt] 158)).alloc (.cells #[nonce] 22) := by
  subst hk hn
  refine callsIn_of_wp Tryz.func194 rfl hf ?_ hro
  simp only [Tryz.ntmps194, List.size_toArray, List.length_cons, List.length_nil, Nat.reduceAdd, Nat.reduceSub, Array.replicate_succ, Array.replicate_zero, List.push_toArray, List.append_toArray, List.nil_append, List.cons_append]
  gi_wp2
  go_ret
  exact ⟨rfl, rfl⟩

/-- what round k is handed -/
def Came64 (key : List Int) (n : Int) (nonce : List Int) (k : Nat) (v : Value) (W : World) : Prop := ∃ A c', v = .slice A 64 c' ∧ Bs W A 64 (keyBlock key (n + (k : Int)) nonce) ∧ 64 ≤ c'

set_option maxRecDepth 100000 in
set_option maxHeartbeats 4000000 in
theorem from1_in (F : Fence) (fn0 : Nat) (hall : ∀ f, F.fn f) (hlift : ∀ (k : Nat) (f : FuncId) (args : Array Value) (W : World) (R : Ending → World → Prop), Calls Tryz.prog f args W R → CallsIn F k Tryz.prog f args W R) (hro : F.round = none) (hn : 2 ≤ fn0)
    (N : Nat) (hN : N ≤ 1000) (kb cb nb b off c b2 off2 c2 : Nat) (key nonce : List Int) (n : Int) (hc : 32 ≤ c) (hc2 : 12 ≤ c2) (h0 : 0 ≤ n ∧ n ≤ 1000000) (I : Nat → World → Prop)
    (hI : ∀ k W, I k W → k < N ∧ From W kb cb nb b off c b2 off2 c2 n ∧ Bs W (some ⟨b, off, none⟩) 32 key ∧ Bs W (some ⟨b2, off2, none⟩) 12 nonce ∧ Quar W)
    (l : Nat) (J : Nat → World → Prop) (Jx : World → Prop) (W : World) (hJs : ∀ k W W', J k W → Below W.heap.size W W' → J k W') (hJI : ∀ k W, J k W → I k W)
    (hY : ∀ k v W1, J k W1 → Came64 key n nonce k v W1 → YieldAt F (fn0 - 1) Tryz.prog l #[v] W1 fun e W' => (e = .returned (.bool true) ∧ J (k + 1) W') ∨ (e = .returned (.bool false) ∧ Jx W'))
    (hJ0 : J 0 W) :
    CallsIn F fn0 Tryz.prog 215 #[.func (.yield l) #[] #[], .pointer (some ⟨cb, 0, none⟩), .pointer (some ⟨kb, 0, none⟩), .pointer (some ⟨nb, 0, none⟩)] W fun e W' => (∃ v, e = .returned v) ∧ Jx W' := by
  refine callsIn_of_wp Tryz.func215 rfl (hall _) ?_ hro
  simp only [Tryz.ntmps215, List.size_toArray, List.length_cons, List.length_nil, Nat.reduceAdd, Nat.reduceSub, Array.replicate_succ, Array.replicate_zero, List.push_toArray, List.append_toArray, List.nil_append, List.cons_append]
  have hf1 : 1 ≤ fn0 := by omega
  have hf2 : 1 ≤ fn0 - 1 := by omega
  obtain ⟨_, fr0, _⟩ := hI 0 W (hJI 0 W hJ0)
  have q0 := fr0.n_.cell
  gi_wp2
  gi_loopw [5] (fun i wr => ∃ k : Nat, k < N ∧ i = .int .u32 (n + (k : Int)) ∧ J k wr) (fun i _ => (n + (N : Int) - intOf i).toNat)
  case atStart => exact ⟨0, (hI 0 W (hJI 0 W hJ0)).1, by simp, hJ0⟩
  case round =>
    obtain ⟨k, hk, rfl, hJk⟩ := hrel
    obtain ⟨_, fr, hkey, hnon, hQ⟩ := hI k wr (hJI k wr hJk)
    have q1 := fr.k.cell
    have q2 := fr.n_.cell
    have q3 := fr.o.cell
    have G := Shut.mk (streamBlock_any b off c b2 off2 c2 key nonce (n + (k : Int)) wr hQ hkey hc hnon hc2 (by omega))
    have HL := Shut.mk (keyBlock_len key (n + (k : Int)) nonce)
    gi_wp2_with (gi_at_call 196; refine (hlift _ _ _ _ _ G.out).mono ?_; rintro e w1 ⟨⟨A, c', rfl, hrow⟩, b1⟩; obtain ⟨fn, tmps, assign, body, hy, hR⟩ := hY k _ w1 (hJs k wr w1 hJk b1) ⟨A, c', rfl, (hrow.ow' HL.out).bs, hrow.cap⟩)
    refine hR.mono ?_
    rintro e W3 (⟨rfl, hJ3⟩ | ⟨rfl, hx3⟩)
    · have hk3 := (hI (k + 1) W3 (hJI _ _ hJ3)).1
      clear G HL hrow hy hR q0 q1 q2 q3
      gi_wp2
      go_roundw
      case rel => exact ⟨k + 1, hk3, by go_num, hJ3⟩
      case measure => simp [intOf]; omega
    · gi_wp2
      go_end0
      exact ⟨⟨_, rfl⟩, hx3⟩
end Go.Proofs.YtabhcolfkkfonaaGreatDoor

/-! StmP -/
/- Data hidden by a stream, of the program. -/
namespace Go.Proofs.YtabhcolfkkfonaaGreatDoor
open Go.RowKit Go.Shelf

attribute [local go_sem] Oper.semAt_some

theorem streamL_more (key : List Int) (n : Int) (nonce data : List Int) (k q : Nat) (hq : q ≤ 64) (h : 64 * k + q ≤ data.length) :
    (streamL key n nonce data).take (64 * k + q) = (streamL key n nonce data).take (64 * k) ++ xorL ((data.drop (64 * k)).take q) ((keyBlock key (n + (k : Int)) nonce).take q) := by
  induction q with
  | zero => simp [xorL]
  | succ q ih =>
    rw [streamL_succ _ _ _ _ _ _ (by omega) (by omega), ih (by omega) (by omega), List.append_assoc]
    congr 1
    have h1 : (data.drop (64 * k)).take (q + 1) = (data.drop (64 * k)).take q ++ [data.getD (64 * k + q) 0] := by
      rw [take_getD _ _ (by rw [List.length_drop]; omega)]
      simp [List.getD, List.getElem?_drop]
    have h2 : (keyBlock key (n + (k : Int)) nonce).take (q + 1) = (keyBlock key (n + (k : Int)) nonce).take q ++ [(keyBlock key (n + (k : Int)) nonce).getD q 0] := take_getD _ _ (by rw [keyBlock_len]; omega)
    rw [h1, h2]
    have hl1 : ((data.drop (64 * k)).take q).length = q := by rw [List.length_take, List.length_drop]; omega
    have hl2 : ((keyBlock key (n + (k : Int)) nonce).take q).length = q := by rw [List.length_take, keyBlock_len]; omega
    unfold xorL
    rw [List.zipWith_append (by rw [hl1, hl2])]
    rfl

theorem run_make_room (n : Nat) (hn : n ≤ 1000000) (w : World) :
    (Instr.makeSlice 22 (.int .i64 0) (.int .i64 (n : Int))).run Tryz.prog w = .ok (.slice (some ⟨w.heap.size, 0, none⟩) 0 n) (w.alloc (.cells (zeroB n) 5)) := by
  obtain ⟨i, hi, hz0, hz1, hz2⟩ := info_parts info_u8
  have hr := run_make (P := Tryz.prog) w 22 5 i _ Tryz.underlying22 hi hz0 .i64 .i64 0 n (by omega) (by omega) (by rw [hz2]; omega) (by omega)
  simp only [Int.toNat_natCast, hz1, Nat.mul_one, made_u8] at hr
  exact hr

/-- bytes put behind a row, as one step of a region inside a fence -/
theorem stepIn_row_join {F : Fence} {n0 : Nat} {ops : Array Oper} {o : Oper} {a : Act} {K : Act → World → Prop} {Q : Exit → Act → World → Prop} {E : Prop} (hgd : o.guard = none) (s x : Operand)
    (ho : o.op = .call { callee := .builtin .append, args := #[s, x], argTypes := #[22, 22] })
    (w : World) (B : Nat) (v : Value) (l r : List Int) (hs : a.eval s = v) (hrow : Row w B v l) (hB : B ≤ w.heap.size)
    (b n c : Nat) (hx : a.eval x = .slice (some ⟨b, 0, none⟩) n c) (hbs : Bs w (some ⟨b, 0, none⟩) n r) (hlen : l.length + n ≤ 140737488351232)
    (h : ∀ v' w', Row w' B v' (l ++ r) → w.grownBy w' v.ownBlock → K (a.put o.dst v') w') :
    if Region.wanted o (yielded ops a.tmps) = true then Oper.wpIn F n0 Tryz.prog o a w K Q else E := by
  have hw : Region.wanted o (yielded ops a.tmps) = true := by simp [Region.wanted, hgd]
  rw [if_pos hw]
  obtain ⟨i0, hi, hz0, hz1, hz2⟩ := info_parts info_u8
  have hrl := hbs.len
  obtain ⟨v', w', hrun, hown, hgrow, _⟩ := run_append_own (P := Tryz.prog) w B 22 o.type 5 i0 (.int .u8 0) 1 1 Tryz.underlying22 hi hz0 hz1 hz2 rfl (by decide) v l.length _ hrow.own ⟨b, 0, none⟩ n c (r.map (Value.int .u8)) (by simp [hrl])
    (fun j u hu => bs_src hbs _ rfl j u hu) (fun u hu => by obtain ⟨y, _, rfl⟩ := List.mem_map.1 hu; rfl) (by unfold maxLen; omega) (by omega) hB
  have hK := h v' w' ⟨hrow.byte.append hbs.byte, by rw [List.length_append, List.map_append, hrl]; exact hown⟩ hgrow
  unfold Oper.wpIn
  refine ⟨?_, ?_⟩
  · simp [Oper.about, ho, resolve, Target.leads, Sem.run_pure]
  · rw [Oper.semAt_plain F _ _ (by rw [ho]; intro c hc'; cases hc')]
    simp [execOp, ho, resolve, invoke, builtin, hs, hx, hrun, Result.andThen]
    exact hK

theorem Bs.putObj {W : World} {A : Option Addr} {n : Nat} {l : List Int} (h : Bs W A n l) {g : Nat} {o : Obj} (o' : Obj) (hl : W.heap[g]? = some o) (ho : o.isCells = false) : Bs (W.putObj g o') A n l := by
  refine ⟨h.len, h.byte, fun hp => ?_⟩
  obtain ⟨b, off, e, hb, hc⟩ := h.at_ hp
  have hne : b ≠ g := by
    rintro rfl
    have := hc 0 hp
    simp only [World.cell?, hl] at this
    cases o <;> simp_all [Obj.isCells]
  refine ⟨b, off, e, ?_, fun i hi => ?_⟩
  · have := h
    simpa [World.putObj] using hb
  · exact (World.cell?_of_block (a := ⟨b, off + i, none⟩) (World.putObj_heap_other hne)).trans (hc i hi)
theorem below_put {B : Nat} {w W : World} (h : Below B w W) {g : Nat} (hg : B ≤ g) {o : Obj} (o' : Obj) (hl : W.heap[g]? = some o) : Below B w (W.putObj g o') :=
  h.grown (grownBy_putObj' W g o') (by have := (Array.getElem?_eq_some_iff.1 hl).1; omega) (fun k e => by cases e; omega)

/-- the row that is under way, in its box -/
def Mixed (W : World) (p : Nat) (l : List Int) : Prop := ∃ v, Boxed W (p + 2) 22 v ∧ Row W (p + 1) v l
structure StrI (w : World) (b off c b2 off2 c2 b3 off3 m c3 : Nat) (key nonce data : List Int) (n : Int) (p k : Nat) (W : World) : Prop where
  on : k = 0 ∨ 64 * k < m
  mix : Mixed W p ((streamL key n nonce data).take (64 * k))
  dat : Boxed W p 22 (.slice (some ⟨b3, off3, none⟩) m c3)
  from_ : From W (p + 3) (p + 4) (p + 5) b off c b2 off2 c2 n
  size : p + 6 ≤ W.heap.size
  bel : Below p w W
theorem Mixed.same {W W' : World} {p : Nat} {l : List Int} (h : Mixed W p l) (hb : Below W.heap.size W W') : Mixed W' p l := by
  obtain ⟨v, h1, h2⟩ := h
  exact ⟨v, (hb.block _ h1.lt).trans h1, h2.keep (fun g _ hg => hb.block g hg)⟩
theorem Mixed.putObj {W : World} {p : Nat} {l : List Int} (h : Mixed W p l) {g : Nat} (hg : p + 6 ≤ g) {o : Obj} (o' : Obj) (hl : W.heap[g]? = some o) (ho : o.isCells = false) : Mixed (W.putObj g o') p l := by
  obtain ⟨v, h1, h2⟩ := h
  exact ⟨v, (World.putObj_heap_other (by omega)).trans h1, ⟨h2.byte, ownsRow_putObj h2.own o' hl ho⟩⟩
theorem StrI.same {w : World} {b off c b2 off2 c2 b3 off3 m c3 : Nat} {key nonce data : List Int} {n : Int} {p k : Nat} {W W' : World} (h : StrI w b off c b2 off2 c2 b3 off3 m c3 key nonce data n p k W) (hb : Below W.heap.size W W') : StrI w b off c b2 off2 c2 b3 off3 m c3 key nonce data n p k W' := by
  have hs := h.size
  exact ⟨h.on, h.mix.same hb, (hb.block _ h.dat.lt).trans h.dat, h.from_.keep (hb.block _ (by omega)) (hb.block _ (by omega)) (hb.block _ (by omega)), Nat.le_trans hs hb.size, h.bel.trans (hb.mono (by omega))⟩
theorem StrI.turn {w : World} {b off c b2 off2 c2 b3 off3 m c3 : Nat} {key nonce data : List Int} {n : Int} {p k : Nat} {W : World} (h : StrI w b off c b2 off2 c2 b3 off3 m c3 key nonce data n p k W) {g : Nat} (hg : p + 6 ≤ g) {o : Obj} (o' : Obj) (hl : W.heap[g]? = some o) (ho : o.isCells = false) : StrI w b off c b2 off2 c2 b3 off3 m c3 key nonce data n p k (W.putObj g o') :=
  ⟨h.on, h.mix.putObj hg o' hl ho, (World.putObj_heap_other (by omega)).trans h.dat, h.from_.keep (World.putObj_heap_other (by omega)) (World.putObj_heap_other (by omega)) (World.putObj_heap_other (by omega)), by have := h.size; simpa [World.putObj] using this, below_put h.bel (by omega) o' hl⟩

set_option maxRecDepth 100000 in
set_option maxHeartbeats 8000000 in
theorem streamed_in (F : Fence) (fn0 : Nat) (hall : ∀ f, F.fn f) (hlift : ∀ (k : Nat) (f : FuncId) (args : Array Value) (W : World) (R : Ending → World → Prop), Calls Tryz.prog f args W R → CallsIn F k Tryz.prog f args W R) (hro : F.round = none) (hn : 5 ≤ fn0)
    (b off c b2 off2 c2 b3 off3 m c3 : Nat) (key nonce data : List Int) (n : Int) (w : World) (hT : Quar w) (hk : Bs w (some ⟨b, off, none⟩) 32 key) (hc : 32 ≤ c) (hno : Bs w (some ⟨b2, off2, none⟩) 12 nonce) (hc2 : 12 ≤ c2) (hd : Bs w (some ⟨b3, off3, none⟩) m data) (hc3 : m ≤ c3) (hc30 : 0 < c3) (hm : m ≤ 2000) (h0 : 0 ≤ n ∧ n ≤ 1000000) :
    CallsIn F fn0 Tryz.prog 164 #[.slice (some ⟨b, off, none⟩) 32 c, .int .u32 n, .slice (some ⟨b2, off2, none⟩) 12 c2, .slice (some ⟨b3, off3, none⟩) m c3] w fun e w' =>
      (∃ A c', e = .returned (.slice A m c') ∧ Row w' w.heap.size (.slice A m c') (streamL key n nonce data)) ∧ Below w.heap.size w w' := by
  have h1 : 1 ≤ fn0 := by omega
  have hmk : ∀ W : World, (Instr.makeSlice 22 (.int .i64 0) (.int .i64 (m : Int))).run Tryz.prog W = .ok (.slice (some ⟨W.heap.size, 0, none⟩) 0 m) (W.alloc (.cells (zeroB m) 5)) := fun W => run_make_room m (by omega) W
  refine callsIn_of_wp_marks Tryz.func164 rfl (hall _) ?_ hro
  simp only [Tryz.ntmps164, List.size_toArray, List.length_cons, List.length_nil, Nat.reduceAdd, Nat.reduceSub, Array.replicate_succ, Array.replicate_zero, List.push_toArray, List.append_toArray, List.nil_append, List.cons_append]
  gi_wp2_with (gi_at_call 194; refine (streamFrom_in F (fn0 - 1) (hall _) hro _ _ n _ _ _ _ _ _ _ rfl rfl).mono ?_; rintro e w' ⟨rfl, rfl⟩)
  have hI0 : StrI w b off c b2 off2 c2 b3 off3 m c3 key nonce data n w.heap.size 0 ((((((w.alloc (.cells #[.slice (some ⟨b3, off3, none⟩) m c3] 22)).alloc (.cells (zeroB m) 5)).alloc (.cells #[.slice (some ⟨w.heap.size + 1, 0, none⟩) 0 m] 22)).alloc (.cells #[.slice (some ⟨b, off, none⟩) 32 c] 22)).alloc (.cells #[.int .u32 n] 158)).alloc (.cells #[.slice (some ⟨b2, off2, none⟩) 12 c2] 22)) ∧ w.heap.size + 6 = (((((((w.alloc (.cells #[.slice (some ⟨b3, off3, none⟩) m c3] 22)).alloc (.cells (zeroB m) 5)).alloc (.cells #[.slice (some ⟨w.heap.size + 1, 0, none⟩) 0 m] 22)).alloc (.cells #[.slice (some ⟨b, off, none⟩) 32 c] 22)).alloc (.cells #[.int .u32 n] 158)).alloc (.cells #[.slice (some ⟨b2, off2, none⟩) 12 c2] 22))).heap.size := by
    have B6 := ab (ab (ab (ab (ab (ab (Below.refl _ w) (.cells #[.slice (some ⟨b3, off3, none⟩) m c3] 22)) (.cells (zeroB m) 5)) (.cells #[.slice (some ⟨w.heap.size + 1, 0, none⟩) 0 m] 22)) (.cells #[.slice (some ⟨b, off, none⟩) 32 c] 22)) (.cells #[.int .u32 n] 158)) (.cells #[.slice (some ⟨b2, off2, none⟩) 12 c2] 22)
    have r1 := Row.room (w.alloc (.cells #[.slice (some ⟨b3, off3, none⟩) m c3] 22)) m (by omega) _ rfl
    have x2 := Boxed.new ((w.alloc (.cells #[.slice (some ⟨b3, off3, none⟩) m c3] 22)).alloc (.cells (zeroB m) 5)) 22 (.slice (some ⟨w.heap.size + 1, 0, none⟩) 0 m)
    have x3 := Boxed.new (((w.alloc (.cells #[.slice (some ⟨b3, off3, none⟩) m c3] 22)).alloc (.cells (zeroB m) 5)).alloc (.cells #[.slice (some ⟨w.heap.size + 1, 0, none⟩) 0 m] 22)) 22 (.slice (some ⟨b, off, none⟩) 32 c)
    have x4 := Boxed.new ((((w.alloc (.cells #[.slice (some ⟨b3, off3, none⟩) m c3] 22)).alloc (.cells (zeroB m) 5)).alloc (.cells #[.slice (some ⟨w.heap.size + 1, 0, none⟩) 0 m] 22)).alloc (.cells #[.slice (some ⟨b, off, none⟩) 32 c] 22)) 158 (.int .u32 n)
    have x5 := Boxed.new (((((w.alloc (.cells #[.slice (some ⟨b3, off3, none⟩) m c3] 22)).alloc (.cells (zeroB m) 5)).alloc (.cells #[.slice (some ⟨w.heap.size + 1, 0, none⟩) 0 m] 22)).alloc (.cells #[.slice (some ⟨b, off, none⟩) 32 c] 22)).alloc (.cells #[.int .u32 n] 158)) 22 (.slice (some ⟨b2, off2, none⟩) 12 c2)
    simp only [World.size_alloc] at r1 x2 x3 x4 x5
    exact ⟨⟨.inl rfl, ⟨_, ((x2.alloc _).alloc _).alloc _, ((((r1.alloc _).alloc _).alloc _).alloc _)⟩, ((((((Boxed.new w _ _).alloc _).alloc _).alloc _).alloc _).alloc _), ⟨(x3.alloc _).alloc _, x4.alloc _, x5⟩, by simp, B6⟩, by simp⟩
  obtain ⟨hI0, z6⟩ := hI0
  generalize ((((((w.alloc (.cells #[.slice (some ⟨b3, off3, none⟩) m c3] 22)).alloc (.cells (zeroB m) 5)).alloc (.cells #[.slice (some ⟨w.heap.size + 1, 0, none⟩) 0 m] 22)).alloc (.cells #[.slice (some ⟨b, off, none⟩) 32 c] 22)).alloc (.cells #[.int .u32 n] 158)).alloc (.cells #[.slice (some ⟨b2, off2, none⟩) 12 c2] 22)) = w6 at *
  obtain ⟨p, hp⟩ : ∃ p, p = w.heap.size := ⟨_, rfl⟩
  rw [← hp] at hI0 z6 ⊢
  have hpw : w.heap.size ≤ p := by omega
  have hdl := hd.len
  have HP := Shut.mk hp
  clear hp hmk
  refine rangeFunc_left hro h1 (gf := 215) (lb := #[.pointer (some ⟨p + 1 + 1 + 1 + 1, 0, none⟩), .pointer (some ⟨p + 1 + 1 + 1, 0, none⟩), .pointer (some ⟨p + 1 + 1 + 1 + 1 + 1, 0, none⟩)]) rfl (hall _) (enters_of Tryz.func215 (by kernel_rfl) rfl) rfl
    (StrI w b off c b2 off2 c2 b3 off3 m c3 key nonce data n p) (fun e W => e = .exit 0 ∧ Mixed W p (streamL key n nonce data) ∧ p + 6 ≤ W.heap.size ∧ Below p w W) (Came64 key n nonce)
    (fun k W W' h hb => h.same hb) (fun k W l o o' hl ho hc h => h.turn (by omega) o' ho hc) (fun e W l o o' hl ho hc h => ⟨h.1, h.2.1.putObj (by omega) o' ho hc, by have := h.2.2.1; simpa [World.putObj] using this, below_put h.2.2.2 (by omega) o' ho⟩)
    (fun k v W l o o' hl ho hc h => by obtain ⟨A, c', e, hb, h64⟩ := h; exact ⟨A, c', e, hb.putObj o' ho hc, h64⟩) hI0
    (fun l J Jx W hJs hJI hY hJ0 => from1_in F (fn0 - 1) hall hlift hro (by omega) (m / 64 + 1) (by omega) (p + 3) (p + 4) (p + 5) b off c b2 off2 c2 key nonce n hc hc2 h0 (StrI w b off c b2 off2 c2 b3 off3 m c3 key nonce data n p)
      (fun k W h => ⟨by have := h.on; omega, h.from_, hk.below (h.bel.mono hpw), hno.below (h.bel.mono hpw), hT.keep (h.bel.mono hpw)⟩) l J Jx W hJs hJI hY hJ0)
    (fun v => { tmps := #[.slice (some ⟨b, off, none⟩) 32 c, .int .u32 n, .slice (some ⟨b2, off2, none⟩) 12 c2, .slice (some ⟨b3, off3, none⟩) m c3, undef, undef, undef, .pointer (some ⟨p, 0, none⟩), .slice none 0 0, .pointer (some ⟨p + 1 + 1, 0, none⟩), v, undef, .slice (some ⟨b3, off3, none⟩) m c3, .int .i64 (m : Int), .slice (some ⟨p + 1, 0, none⟩) 0 m, .slice (some ⟨b, off, none⟩) 32 c, .int .u32 n, .slice (some ⟨b2, off2, none⟩) 12 c2, .func (.func 215) #[] #[.pointer (some ⟨p + 1 + 1 + 1 + 1, 0, none⟩), .pointer (some ⟨p + 1 + 1 + 1, 0, none⟩), .pointer (some ⟨p + 1 + 1 + 1 + 1 + 1, 0, none⟩)], v, undef, undef, undef, undef, undef, undef, undef, undef, undef, undef, undef, undef, undef, undef, undef, undef, undef, undef, undef, undef, undef, undef, undef, undef], defers := [] }) ?assign ?body ?stop
  case assign =>
    intro l v W K hK
    gi_wp2
    exact hK
  case body =>
    rintro lp k v W hS ⟨A, c', rfl, hkb, h64⟩
    obtain ⟨hon, ⟨v0, hbx, hrow⟩, hdat, hfrom, hz, hB⟩ := hS
    have hkm : 64 * k ≤ m := by omega
    have hlen : ((streamL key n nonce data).take (64 * k)).length = 64 * k := by rw [List.length_take, streamL_len]; omega
    obtain ⟨A5, c5, rfl, _⟩ := hrow.ow hlen
    have q0 := hbx.cell
    have q1 := hdat.cell
    have fz := hbx.frozen
    obtain ⟨A', off', rfl, _⟩ := hkb.at_ (by omega)
    have hd1 : 1 ≤ fn0 - 1 - 1 := by omega
    have i1 : (64 : Int) * (k : Int) ≤ (m : Int) := by omega
    have i2 : (m : Int) ≤ (c3 : Int) := by omega
    have n1 : ((64 : Int) * (k : Int)).toNat = 64 * k := by omega
    have n3 : ¬ c3 = 64 * k := by omega
    have hmL := streamL_len key n nonce data
    by_cases hfull : 64 * k + 64 < m
    · have m1 : (64 : Int) < ((m - 64 * k : Nat) : Int) := by omega
      have hdp := (hd.below (hB.mono hpw)).part_ (64 * k) 64 (by omega)
      have hkp := hkb.part_ 0 64 (by omega)
      rw [Nat.add_zero, List.drop_zero] at hkp
      have HR := Shut.mk (streamL_more key n nonce data k 64 (by omega) (by omega))
      have G := Shut.mk (xorOk_any _ _ 64 (c3 - 64 * k) c' _ _ W.drew (hdp.below (Below.refl _ W).drew) (hkp.below (Below.refl _ W).drew) (by omega))
      generalize hXL : xorL ((data.drop (64 * k)).take 64) ((keyBlock key (n + (k : Int)) nonce).take 64) = XL at *
      generalize hTL : (streamL key n nonce data).take (64 * k) = TL at *
      have HRo := HR.out
      clear hXL hTL hdp hkp HR
      have k64 : (64 : Int) ≤ (c' : Int) := by omega
      gi_wp2
      refine region_round lp hro (by kernel_rfl) (by kernel_rfl) ?_
      have fin : ∀ (w1 : World) (v2 : Value) (w2 : World), Below W.drew.heap.size W.drew w1 → Row w2 (p + 1) v2 (TL ++ XL) → w1.grownBy w2 (Value.slice A5 (64 * k) c5).ownBlock →
          (TL ++ XL).length = 64 * k + 64 ∧ w2.cell? ⟨p + 1 + 1, 0, none⟩ = some (.slice A5 (64 * k) c5) ∧ w2.frozen? ⟨p + 1 + 1, 0, none⟩ = false ∧ (KeepsOthers W (w2.setCell ⟨p + 1 + 1, 0, none⟩ v2) ∧ Mixed (w2.setCell ⟨p + 1 + 1, 0, none⟩ v2) p (TL ++ XL) ∧ Boxed (w2.setCell ⟨p + 1 + 1, 0, none⟩ v2) p 22 (.slice (some ⟨b3, off3, none⟩) m c3) ∧ From (w2.setCell ⟨p + 1 + 1, 0, none⟩ v2) (p + 3) (p + 4) (p + 5) b off c b2 off2 c2 n ∧ p + 6 ≤ (w2.setCell ⟨p + 1 + 1, 0, none⟩ v2).heap.size ∧ Below p w (w2.setCell ⟨p + 1 + 1, 0, none⟩ v2)) := by
        intro w1 v2 w2 b1 hr2 hg2
        have b1' : Below W.heap.size W w1 := (Below.refl W.heap.size W).drew.trans b1
        have s1 := b1'.size
        have hbx1 : Boxed w1 (p + 2) 22 (.slice A5 (64 * k) c5) := (b1'.block _ hbx.lt).trans hbx
        have hr1 := hrow.keep (w' := w1) (fun g _ h2 => b1'.block g h2)
        have db1 : Boxed w1 p 22 (.slice (some ⟨b3, off3, none⟩) m c3) := (b1'.block _ hdat.lt).trans hdat
        have fr1 : From w1 (p + 3) (p + 4) (p + 5) b off c b2 off2 c2 n := hfrom.keep (b1'.block _ (by omega)) (b1'.block _ (by omega)) (b1'.block _ (by omega))
        have nr : ∀ {B : Nat} {t : TypeId} {u : Value}, Boxed w1 B t u → t ≠ 5 → some B ≠ (Value.slice A5 (64 * k) c5).ownBlock := fun h ht => h.not_row ht hr1.own
        have hbx2 := hbx1.kept hg2 (nr hbx1 (by decide))
        have db2 := db1.kept hg2 (nr db1 (by decide))
        have fr2 : From w2 (p + 3) (p + 4) (p + 5) b off c b2 off2 c2 n := ⟨fr1.k.kept hg2 (nr fr1.k (by decide)), fr1.n_.kept hg2 (nr fr1.n_ (by decide)), fr1.o.kept hg2 (nr fr1.o (by decide))⟩
        have ko2 : KeepsOthers w1 w2 := KeepsOthers.of_grownBy hg2 fun j o ej hj => by
          rcases hr1.own.2 with ⟨e0, _⟩ | ⟨g1, cap, cur, e0, _, hgb, _⟩
          · rw [e0] at ej; simp [Value.ownBlock] at ej
          · rw [e0] at ej
            obtain rfl : g1 = j := by simpa [Value.ownBlock] using ej
            rw [hgb] at hj; cases hj; rfl
        have b2 : Below p w w2 := (hB.trans (b1'.mono (by omega))).grown hg2 (by omega) (fun j ej => by have := (hr1.own.lt j ej).1; omega)
        have nr2 : some (p + 2) ≠ v2.ownBlock := hbx2.not_row (by decide) hr2.own
        have s2 := hg2.size
        refine ⟨by rw [← HRo, List.length_take, hmL]; omega, hbx2.cell, hbx2.frozen, ((keepsOthers_bel b1').trans ko2).trans (KeepsOthers.setCell _ _ _), ⟨v2, hbx2.set v2, ⟨hr2.byte, hr2.own.kept (grownBy_setCell' w2 (p + 2) v2) (.inr nr2.symm)⟩⟩, ?_, fr2.keep (Below.heap_setCell w2 ⟨p + 1 + 1, 0, none⟩ _ _ (by simp; try omega)) (Below.heap_setCell w2 ⟨p + 1 + 1, 0, none⟩ _ _ (by simp; try omega)) (Below.heap_setCell w2 ⟨p + 1 + 1, 0, none⟩ _ _ (by simp; try omega)), by simp only [World.size_setCell]; omega, b2.setCell (p := ⟨p + 1 + 1, 0, none⟩) (by simp; try omega) _⟩
        exact (Below.heap_setCell w2 ⟨p + 1 + 1, 0, none⟩ _ _ (by simp; try omega)).trans db2
      refine wpAnyIn_take (i := 1) (v := .slice (some ⟨b3, off3 + 64 * k, none⟩) 64 (c3 - 64 * k)) hro rfl (by kernel_rfl) (by kernel_rfl) (by kernel_rfl) (fun _ _ _ h => h) ?_ ?_
      · exact ⟨Or.inl ⟨by rfl, fun w => by go_simp⟩, fun _ => rfl⟩
      go_simp
      refine wpAnyIn_take (i := 2) (v := .slice (some ⟨A', off', none⟩) 64 c') hro rfl (by kernel_rfl) (by kernel_rfl) (by kernel_rfl) (fun _ _ _ h => h) ?_ ?_
      · exact ⟨Or.inl ⟨by rfl, fun w => by go_simp⟩, fun _ => rfl⟩
      go_simp
      refine wpAnyIn_take (i := 3) (v := .slice (some ⟨b3, off3 + 64 * k, none⟩) 64 (c3 - 64 * k)) hro rfl (by kernel_rfl) (by kernel_rfl) (by kernel_rfl) (fun _ _ _ h => h) ?_ ?_
      · exact ⟨Or.inl ⟨by rfl, fun w => by go_simp⟩, fun _ => rfl⟩
      go_simp
      refine wpAnyIn_take (i := 4) (v := .int .i64 64) hro rfl (by kernel_rfl) (by kernel_rfl) (by kernel_rfl) (fun _ _ _ h => h) ?_ ?_
      · exact ⟨Or.inl ⟨by rfl, fun w => by go_simp⟩, fun _ => rfl⟩
      go_simp
      refine wpAnyIn_take (i := 5) (v := .slice (some ⟨A', off', none⟩) 64 c') hro rfl (by kernel_rfl) (by kernel_rfl) (by kernel_rfl) (fun _ _ _ h => h) ?_ ?_
      · exact ⟨Or.inl ⟨by rfl, fun w => by go_simp⟩, fun _ => rfl⟩
      go_simp
      refine wpAnyIn_ready (rs := [0, 6]) (by kernel_rfl) (by simp) (AllReadyIn.cons rfl (fun K hK => ?_) (AllReadyIn.cons rfl (fun K hK => ?_) AllReadyIn.nil))
      · go_simp
        refine hK _ _ ?_
        clear hK K
        refine wpAnyIn_ready (rs := [6]) (by kernel_rfl) (by simp) (AllReadyIn.cons rfl (fun K hK => ?_) AllReadyIn.nil)
        go_simp
        gi_wp2_with (gi_at_call 195; refine (hlift _ _ _ _ _ G.out).mono ?_; rintro e w1 ⟨⟨gx, rfl, hbx1, hgx⟩, b1⟩)
        try clear hK K
        have hs1 : W.heap.size ≤ w1.heap.size := b1.size
        have q0w := (b1.cell (p := ⟨p + 2, 0, none⟩) (show p + 2 < W.drew.heap.size from hbx.lt)).trans q0
        have hr1 := hrow.drew.keep (w' := w1) (fun g _ h2 => b1.block g h2)
        have hfld := fld_bytes 0 (some ⟨gx, 0, none⟩) 64 64 w1
        refine wpAnyIn_ready (rs := [7]) (by kernel_rfl) (by simp) (AllReadyIn.cons rfl (fun K hK => ?_) AllReadyIn.nil)
        go_simp
        refine hK _ _ ?_
        clear hK K
        refine wpAnyIn_ready (rs := [8]) (by kernel_rfl) (by simp) (AllReadyIn.cons rfl (fun K hK => ?_) AllReadyIn.nil)
        refine stepIn_row_join rfl _ _ rfl _ (p + 1) (.slice A5 (64 * k) c5) TL XL rfl hr1 (by omega) gx 64 64 rfl hbx1 (by rw [hlen]; omega) ?_
        intro v2 w2 hr2 hg2
        have fq := fin w1 v2 w2 b1 hr2 hg2
        obtain ⟨A6, c6, rfl, _⟩ := hr2.ow fq.1
        refine hK _ _ ?_
        clear hK K
        obtain ⟨fq0, fc, ff, fpost⟩ := fq
        refine wpAnyIn_ready (rs := [9]) (by kernel_rfl) (by simp) (AllReadyIn.cons rfl (fun K hK => ?_) AllReadyIn.nil)
        go_simp
        refine hK _ _ ?_
        clear hK K
        refine wpAnyIn_done (by kernel_rfl) ?_ _
        obtain ⟨ko, mx, db, fr, sz, bl⟩ := fpost
        have qd := db.cell
        have hne : ¬ (64 * (k : Int) + 64 = (m : Int)) := by omega
        have hnb : ((64 * (k : Int) + 64 : Int) == (m : Int)) = false := by simp; omega
        gi_wp2
        refine ⟨ko, ⟨.inr (by omega), ?_, db, fr, sz, bl⟩⟩
        rw [show 64 * (k + 1) = 64 * k + 64 by omega, HRo]
        exact mx
      · go_simp
        gi_wp2_with (gi_at_call 195; refine (hlift _ _ _ _ _ G.out).mono ?_; rintro e w1 ⟨⟨gx, rfl, hbx1, hgx⟩, b1⟩)
        try clear hK K
        have hs1 : W.heap.size ≤ w1.heap.size := b1.size
        have q0w := (b1.cell (p := ⟨p + 2, 0, none⟩) (show p + 2 < W.drew.heap.size from hbx.lt)).trans q0
        have hr1 := hrow.drew.keep (w' := w1) (fun g _ h2 => b1.block g h2)
        have hfld := fld_bytes 0 (some ⟨gx, 0, none⟩) 64 64 w1
        refine wpAnyIn_ready (rs := [0, 7]) (by kernel_rfl) (by simp) (AllReadyIn.cons rfl (fun K hK => ?_) (AllReadyIn.cons rfl (fun K hK => ?_) AllReadyIn.nil))
        · go_simp
          refine hK _ _ ?_
          clear hK K
          refine wpAnyIn_ready (rs := [7]) (by kernel_rfl) (by simp) (AllReadyIn.cons rfl (fun K hK => ?_) AllReadyIn.nil)
          go_simp
          refine hK _ _ ?_
          clear hK K
          refine wpAnyIn_ready (rs := [8]) (by kernel_rfl) (by simp) (AllReadyIn.cons rfl (fun K hK => ?_) AllReadyIn.nil)
          refine stepIn_row_join rfl _ _ rfl _ (p + 1) (.slice A5 (64 * k) c5) TL XL rfl hr1 (by omega) gx 64 64 rfl hbx1 (by rw [hlen]; omega) ?_
          intro v2 w2 hr2 hg2
          have fq := fin w1 v2 w2 b1 hr2 hg2
          obtain ⟨A6, c6, rfl, _⟩ := hr2.ow fq.1
          refine hK _ _ ?_
          clear hK K
          obtain ⟨fq0, fc, ff, fpost⟩ := fq
          refine wpAnyIn_ready (rs := [9]) (by kernel_rfl) (by simp) (AllReadyIn.cons rfl (fun K hK => ?_) AllReadyIn.nil)
          go_simp
          refine hK _ _ ?_
          clear hK K
          refine wpAnyIn_done (by kernel_rfl) ?_ _
          obtain ⟨ko, mx, db, fr, sz, bl⟩ := fpost
          have qd := db.cell
          have hne : ¬ (64 * (k : Int) + 64 = (m : Int)) := by omega
          have hnb : ((64 * (k : Int) + 64 : Int) == (m : Int)) = false := by simp; omega
          gi_wp2
          refine ⟨ko, ⟨.inr (by omega), ?_, db, fr, sz, bl⟩⟩
          rw [show 64 * (k + 1) = 64 * k + 64 by omega, HRo]
          exact mx
        · go_simp
          refine hK _ _ ?_
          clear hK K
          refine wpAnyIn_ready (rs := [0]) (by kernel_rfl) (by simp) (AllReadyIn.cons rfl (fun K hK => ?_) AllReadyIn.nil)
          go_simp
          refine hK _ _ ?_
          clear hK K
          refine wpAnyIn_ready (rs := [8]) (by kernel_rfl) (by simp) (AllReadyIn.cons rfl (fun K hK => ?_) AllReadyIn.nil)
          refine stepIn_row_join rfl _ _ rfl _ (p + 1) (.slice A5 (64 * k) c5) TL XL rfl hr1 (by omega) gx 64 64 rfl hbx1 (by rw [hlen]; omega) ?_
          intro v2 w2 hr2 hg2
          have fq := fin w1 v2 w2 b1 hr2 hg2
          obtain ⟨A6, c6, rfl, _⟩ := hr2.ow fq.1
          refine hK _ _ ?_
          clear hK K
          obtain ⟨fq0, fc, ff, fpost⟩ := fq
          refine wpAnyIn_ready (rs := [9]) (by kernel_rfl) (by simp) (AllReadyIn.cons rfl (fun K hK => ?_) AllReadyIn.nil)
          go_simp
          refine hK _ _ ?_
          clear hK K
          refine wpAnyIn_done (by kernel_rfl) ?_ _
          obtain ⟨ko, mx, db, fr, sz, bl⟩ := fpost
          have qd := db.cell
          have hne : ¬ (64 * (k : Int) + 64 = (m : Int)) := by omega
          have hnb : ((64 * (k : Int) + 64 : Int) == (m : Int)) = false := by simp; omega
          gi_wp2
          refine ⟨ko, ⟨.inr (by omega), ?_, db, fr, sz, bl⟩⟩
          rw [show 64 * (k + 1) = 64 * k + 64 by omega, HRo]
          exact mx
    · have m1 : ¬ (64 : Int) < ((m - 64 * k : Nat) : Int) := by omega
      obtain ⟨r, hr⟩ : ∃ r, m - 64 * k = r := ⟨_, rfl⟩
      have hr64 : r ≤ 64 := by omega
      have hdp := (hd.below (hB.mono hpw)).part_ (64 * k) r (by omega)
      have hkp := hkb.part_ 0 r (by omega)
      rw [Nat.add_zero, List.drop_zero] at hkp
      have HR := Shut.mk (streamL_more key n nonce data k r (by omega) (by omega))
      have G := Shut.mk (xorOk_any _ _ r (c3 - 64 * k) c' _ _ W.drew (hdp.below (Below.refl _ W).drew) (hkp.below (Below.refl _ W).drew) (by omega))
      have hall' : (streamL key n nonce data).take (64 * k + r) = streamL key n nonce data := List.take_of_length_le (by rw [hmL]; omega)
      have HRo := HR.out
      rw [hall'] at HRo
      generalize hXL : xorL ((data.drop (64 * k)).take r) ((keyBlock key (n + (k : Int)) nonce).take r) = XL at *
      generalize hTL : (streamL key n nonce data).take (64 * k) = TL at *
      clear hXL hTL hdp hkp HR hall'
      rw [hr] at m1
      have k64 : (r : Int) ≤ (c' : Int) := by omega
      have hrm : 64 * k + r = m := by omega
      have HM := Shut.mk hrm
      gi_wp2
      refine region_round lp hro (by kernel_rfl) (by kernel_rfl) ?_
      have fin : ∀ (w1 : World) (v2 : Value) (w2 : World), Below W.drew.heap.size W.drew w1 → Row w2 (p + 1) v2 (TL ++ XL) → w1.grownBy w2 (Value.slice A5 (64 * k) c5).ownBlock →
          (TL ++ XL).length = m ∧ w2.cell? ⟨p + 1 + 1, 0, none⟩ = some (.slice A5 (64 * k) c5) ∧ w2.frozen? ⟨p + 1 + 1, 0, none⟩ = false ∧ (KeepsOthers W (w2.setCell ⟨p + 1 + 1, 0, none⟩ v2) ∧ Mixed (w2.setCell ⟨p + 1 + 1, 0, none⟩ v2) p (TL ++ XL) ∧ Boxed (w2.setCell ⟨p + 1 + 1, 0, none⟩ v2) p 22 (.slice (some ⟨b3, off3, none⟩) m c3) ∧ From (w2.setCell ⟨p + 1 + 1, 0, none⟩ v2) (p + 3) (p + 4) (p + 5) b off c b2 off2 c2 n ∧ p + 6 ≤ (w2.setCell ⟨p + 1 + 1, 0, none⟩ v2).heap.size ∧ Below p w (w2.setCell ⟨p + 1 + 1, 0, none⟩ v2)) := by
        intro w1 v2 w2 b1 hr2 hg2
        have b1' : Below W.heap.size W w1 := (Below.refl W.heap.size W).drew.trans b1
        have s1 := b1'.size
        have hbx1 : Boxed w1 (p + 2) 22 (.slice A5 (64 * k) c5) := (b1'.block _ hbx.lt).trans hbx
        have hr1 := hrow.keep (w' := w1) (fun g _ h2 => b1'.block g h2)
        have db1 : Boxed w1 p 22 (.slice (some ⟨b3, off3, none⟩) m c3) := (b1'.block _ hdat.lt).trans hdat
        have fr1 : From w1 (p + 3) (p + 4) (p + 5) b off c b2 off2 c2 n := hfrom.keep (b1'.block _ (by omega)) (b1'.block _ (by omega)) (b1'.block _ (by omega))
        have nr : ∀ {B : Nat} {t : TypeId} {u : Value}, Boxed w1 B t u → t ≠ 5 → some B ≠ (Value.slice A5 (64 * k) c5).ownBlock := fun h ht => h.not_row ht hr1.own
        have hbx2 := hbx1.kept hg2 (nr hbx1 (by decide))
        have db2 := db1.kept hg2 (nr db1 (by decide))
        have fr2 : From w2 (p + 3) (p + 4) (p + 5) b off c b2 off2 c2 n := ⟨fr1.k.kept hg2 (nr fr1.k (by decide)), fr1.n_.kept hg2 (nr fr1.n_ (by decide)), fr1.o.kept hg2 (nr fr1.o (by decide))⟩
        have ko2 : KeepsOthers w1 w2 := KeepsOthers.of_grownBy hg2 fun j o ej hj => by
          rcases hr1.own.2 with ⟨e0, _⟩ | ⟨g1, cap, cur, e0, _, hgb, _⟩
          · rw [e0] at ej; simp [Value.ownBlock] at ej
          · rw [e0] at ej
            obtain rfl : g1 = j := by simpa [Value.ownBlock] using ej
            rw [hgb] at hj; cases hj; rfl
        have b2 : Below p w w2 := (hB.trans (b1'.mono (by omega))).grown hg2 (by omega) (fun j ej => by have := (hr1.own.lt j ej).1; omega)
        have nr2 : some (p + 2) ≠ v2.ownBlock := hbx2.not_row (by decide) hr2.own
        have s2 := hg2.size
        refine ⟨by rw [← HRo, hmL, hdl], hbx2.cell, hbx2.frozen, ((keepsOthers_bel b1').trans ko2).trans (KeepsOthers.setCell _ _ _), ⟨v2, hbx2.set v2, ⟨hr2.byte, hr2.own.kept (grownBy_setCell' w2 (p + 2) v2) (.inr nr2.symm)⟩⟩, ?_, fr2.keep (Below.heap_setCell w2 ⟨p + 1 + 1, 0, none⟩ _ _ (by simp; try omega)) (Below.heap_setCell w2 ⟨p + 1 + 1, 0, none⟩ _ _ (by simp; try omega)) (Below.heap_setCell w2 ⟨p + 1 + 1, 0, none⟩ _ _ (by simp; try omega)), by simp only [World.size_setCell]; omega, b2.setCell (p := ⟨p + 1 + 1, 0, none⟩) (by simp; try omega) _⟩
        exact (Below.heap_setCell w2 ⟨p + 1 + 1, 0, none⟩ _ _ (by simp; try omega)).trans db2
      refine wpAnyIn_take (i := 1) (v := .slice (some ⟨b3, off3 + 64 * k, none⟩) r (c3 - 64 * k)) hro rfl (by kernel_rfl) (by kernel_rfl) (by kernel_rfl) (fun _ _ _ h => h) ?_ ?_
      · exact ⟨Or.inl ⟨by rfl, fun w => by go_simp⟩, fun _ => rfl⟩
      go_simp
      refine wpAnyIn_take (i := 2) (v := .slice (some ⟨A', off', none⟩) 64 c') hro rfl (by kernel_rfl) (by kernel_rfl) (by kernel_rfl) (fun _ _ _ h => h) ?_ ?_
      · exact ⟨Or.inl ⟨by rfl, fun w => by go_simp⟩, fun _ => rfl⟩
      go_simp
      refine wpAnyIn_take (i := 3) (v := .slice (some ⟨b3, off3 + 64 * k, none⟩) r (c3 - 64 * k)) hro rfl (by kernel_rfl) (by kernel_rfl) (by kernel_rfl) (fun _ _ _ h => h) ?_ ?_
      · exact ⟨Or.inl ⟨by rfl, fun w => by go_simp⟩, fun _ => rfl⟩
      go_simp
      refine wpAnyIn_take (i := 4) (v := .int .i64 (r : Int)) hro rfl (by kernel_rfl) (by kernel_rfl) (by kernel_rfl) (fun _ _ _ h => h) ?_ ?_
      · exact ⟨Or.inl ⟨by rfl, fun w => by go_simp⟩, fun _ => rfl⟩
      go_simp
      refine wpAnyIn_take (i := 5) (v := .slice (some ⟨A', off', none⟩) r c') hro rfl (by kernel_rfl) (by kernel_rfl) (by kernel_rfl) (fun _ _ _ h => h) ?_ ?_
      · exact ⟨Or.inl ⟨by rfl, fun w => by go_simp⟩, fun _ => rfl⟩
      go_simp
      refine wpAnyIn_ready (rs := [0, 6]) (by kernel_rfl) (by simp) (AllReadyIn.cons rfl (fun K hK => ?_) (AllReadyIn.cons rfl (fun K hK => ?_) AllReadyIn.nil))
      · go_simp
        refine hK _ _ ?_
        clear hK K
        refine wpAnyIn_ready (rs := [6]) (by kernel_rfl) (by simp) (AllReadyIn.cons rfl (fun K hK => ?_) AllReadyIn.nil)
        go_simp
        gi_wp2_with (gi_at_call 195; refine (hlift _ _ _ _ _ G.out).mono ?_; rintro e w1 ⟨⟨gx, rfl, hbx1, hgx⟩, b1⟩)
        try clear hK K
        have hs1 : W.heap.size ≤ w1.heap.size := b1.size
        have q0w := (b1.cell (p := ⟨p + 2, 0, none⟩) (show p + 2 < W.drew.heap.size from hbx.lt)).trans q0
        have hr1 := hrow.drew.keep (w' := w1) (fun g _ h2 => b1.block g h2)
        have hfld := fld_bytes 0 (some ⟨gx, 0, none⟩) r r w1
        refine wpAnyIn_ready (rs := [7]) (by kernel_rfl) (by simp) (AllReadyIn.cons rfl (fun K hK => ?_) AllReadyIn.nil)
        go_simp
        refine hK _ _ ?_
        clear hK K
        refine wpAnyIn_ready (rs := [8]) (by kernel_rfl) (by simp) (AllReadyIn.cons rfl (fun K hK => ?_) AllReadyIn.nil)
        refine stepIn_row_join rfl _ _ rfl _ (p + 1) (.slice A5 (64 * k) c5) TL XL rfl hr1 (by omega) gx r r rfl hbx1 (by rw [hlen]; omega) ?_
        intro v2 w2 hr2 hg2
        have fq := fin w1 v2 w2 b1 hr2 hg2
        obtain ⟨A6, c6, rfl, _⟩ := hr2.ow fq.1
        refine hK _ _ ?_
        clear hK K
        obtain ⟨fq0, fc, ff, fpost⟩ := fq
        refine wpAnyIn_ready (rs := [9]) (by kernel_rfl) (by simp) (AllReadyIn.cons rfl (fun K hK => ?_) AllReadyIn.nil)
        go_simp
        refine hK _ _ ?_
        clear hK K
        refine wpAnyIn_done (by kernel_rfl) ?_ _
        obtain ⟨ko, mx, db, fr, sz, bl⟩ := fpost
        have qd := db.cell
        gi_wp2
        refine ⟨ko, rfl, ?_, sz, bl⟩
        rw [HRo]
        exact mx
      · go_simp
        gi_wp2_with (gi_at_call 195; refine (hlift _ _ _ _ _ G.out).mono ?_; rintro e w1 ⟨⟨gx, rfl, hbx1, hgx⟩, b1⟩)
        try clear hK K
        have hs1 : W.heap.size ≤ w1.heap.size := b1.size
        have q0w := (b1.cell (p := ⟨p + 2, 0, none⟩) (show p + 2 < W.drew.heap.size from hbx.lt)).trans q0
        have hr1 := hrow.drew.keep (w' := w1) (fun g _ h2 => b1.block g h2)
        have hfld := fld_bytes 0 (some ⟨gx, 0, none⟩) r r w1
        refine wpAnyIn_ready (rs := [0, 7]) (by kernel_rfl) (by simp) (AllReadyIn.cons rfl (fun K hK => ?_) (AllReadyIn.cons rfl (fun K hK => ?_) AllReadyIn.nil))
        · go_simp
          refine hK _ _ ?_
          clear hK K
          refine wpAnyIn_ready (rs := [7]) (by kernel_rfl) (by simp) (AllReadyIn.cons rfl (fun K hK => ?_) AllReadyIn.nil)
          go_simp
          refine hK _ _ ?_
          clear hK K
          refine wpAnyIn_ready (rs := [8]) (by kernel_rfl) (by simp) (AllReadyIn.cons rfl (fun K hK => ?_) AllReadyIn.nil)
          refine stepIn_row_join rfl _ _ rfl _ (p + 1) (.slice A5 (64 * k) c5) TL XL rfl hr1 (by omega) gx r r rfl hbx1 (by rw [hlen]; omega) ?_
          intro v2 w2 hr2 hg2
          have fq := fin w1 v2 w2 b1 hr2 hg2
          obtain ⟨A6, c6, rfl, _⟩ := hr2.ow fq.1
          refine hK _ _ ?_
          clear hK K
          obtain ⟨fq0, fc, ff, fpost⟩ := fq
          refine wpAnyIn_ready (rs := [9]) (by kernel_rfl) (by simp) (AllReadyIn.cons rfl (fun K hK => ?_) AllReadyIn.nil)
          go_simp
          refine hK _ _ ?_
          clear hK K
          refine wpAnyIn_done (by kernel_rfl) ?_ _
          obtain ⟨ko, mx, db, fr, sz, bl⟩ := fpost
          have qd := db.cell
          gi_wp2
          refine ⟨ko, rfl, ?_, sz, bl⟩
          rw [HRo]
          exact mx
        · go_simp
          refine hK _ _ ?_
          clear hK K
          refine wpAnyIn_ready (rs := [0]) (by kernel_rfl) (by simp) (AllReadyIn.cons rfl (fun K hK => ?_) AllReadyIn.nil)
          go_simp
          refine hK _ _ ?_
          clear hK K
          refine wpAnyIn_ready (rs := [8]) (by kernel_rfl) (by simp) (AllReadyIn.cons rfl (fun K hK => ?_) AllReadyIn.nil)
          refine stepIn_row_join rfl _ _ rfl _ (p + 1) (.slice A5 (64 * k) c5) TL XL rfl hr1 (by omega) gx r r rfl hbx1 (by rw [hlen]; omega) ?_
          intro v2 w2 hr2 hg2
          have fq := fin w1 v2 w2 b1 hr2 hg2
          obtain ⟨A6, c6, rfl, _⟩ := hr2.ow fq.1
          refine hK _ _ ?_
          clear hK K
          obtain ⟨fq0, fc, ff, fpost⟩ := fq
          refine wpAnyIn_ready (rs := [9]) (by kernel_rfl) (by simp) (AllReadyIn.cons rfl (fun K hK => ?_) AllReadyIn.nil)
          go_simp
          refine hK _ _ ?_
          clear hK K
          refine wpAnyIn_done (by kernel_rfl) ?_ _
          obtain ⟨ko, mx, db, fr, sz, bl⟩ := fpost
          have qd := db.cell
          gi_wp2
          refine ⟨ko, rfl, ?_, sz, bl⟩
          rw [HRo]
          exact mx
  case stop =>
    rintro D e W hD ⟨rfl, ⟨v, hbx, hrow⟩, hz, hB⟩ hK
    have q0 := hbx.cell
    obtain ⟨A, c', rfl, _⟩ := hrow.ow ((streamL_len key n nonce data).trans hdl)
    gi_wp2
    refine ⟨by simp, .inl ⟨_, _, rfl, run_takeDeferred hK, ?_⟩⟩
    refine ⟨_, results_tmp rfl _ _ _, ⟨A, c', rfl, ?_⟩, (hB.mono hpw).trans (belowK_b (w := w) (Nat.le_refl _) W D _ _ (by omega) hK rfl rfl)⟩
    have hr : Row (W.putObj D (.deferred none)) (p + 1) (.slice A m c') (streamL key n nonce data) := ⟨hrow.byte, ownsRow_putObj hrow.own _ hK rfl⟩
    exact hr.mono (by omega)
end Go.Proofs.YtabhcolfkkfonaaGreatDoor

/-! StzP -/
/- No data hidden by a stream, of the program. -/
namespace Go.Proofs.YtabhcolfkkfonaaGreatDoor
open Go.RowKit Go.Shelf

attribute [local go_sem] Oper.semAt_some

structure StrZ (w : World) (b off c b2 off2 c2 : Nat) (A3 : Option Addr) (m c3 : Nat) (key nonce data : List Int) (n : Int) (p k : Nat) (W : World) : Prop where
  on : k = 0 ∨ 64 * k < m
  mix : Mixed W p ((streamL key n nonce data).take (64 * k))
  dat : Boxed W p 22 (.slice A3 m c3)
  from_ : From W (p + 3) (p + 4) (p + 5) b off c b2 off2 c2 n
  size : p + 6 ≤ W.heap.size
  bel : Below p w W
theorem StrZ.same {w : World} {b off c b2 off2 c2 : Nat} {A3 : Option Addr} {m c3 : Nat} {key nonce data : List Int} {n : Int} {p k : Nat} {W W' : World} (h : StrZ w b off c b2 off2 c2 A3 m c3 key nonce data n p k W) (hb : Below W.heap.size W W') : StrZ w b off c b2 off2 c2 A3 m c3 key nonce data n p k W' := by
  have hs := h.size
  exact ⟨h.on, h.mix.same hb, (hb.block _ h.dat.lt).trans h.dat, h.from_.keep (hb.block _ (by omega)) (hb.block _ (by omega)) (hb.block _ (by omega)), Nat.le_trans hs hb.size, h.bel.trans (hb.mono (by omega))⟩

theorem StrZ.turn {w : World} {b off c b2 off2 c2 : Nat} {A3 : Option Addr} {m c3 : Nat} {key nonce data : List Int} {n : Int} {p k : Nat} {W : World} (h : StrZ w b off c b2 off2 c2 A3 m c3 key nonce data n p k W) {g : Nat} (hg : p + 6 ≤ g) {o : Obj} (o' : Obj) (hl : W.heap[g]? = some o) (ho : o.isCells = false) : StrZ w b off c b2 off2 c2 A3 m c3 key nonce data n p k (W.putObj g o') :=
  ⟨h.on, h.mix.putObj hg o' hl ho, (World.putObj_heap_other (by omega)).trans h.dat, h.from_.keep (World.putObj_heap_other (by omega)) (World.putObj_heap_other (by omega)) (World.putObj_heap_other (by omega)), by have := h.size; simpa [World.putObj] using this, below_put h.bel (by omega) o' hl⟩

set_option maxRecDepth 100000 in
set_option maxHeartbeats 8000000 in
theorem streamedz_in (F : Fence) (fn0 : Nat) (hall : ∀ f, F.fn f) (hlift : ∀ (k : Nat) (f : FuncId) (args : Array Value) (W : World) (R : Ending → World → Prop), Calls Tryz.prog f args W R → CallsIn F k Tryz.prog f args W R) (hro : F.round = none) (hn : 5 ≤ fn0)
    (b off c b2 off2 c2 : Nat) (A3 : Option Addr) (key nonce data : List Int) (n : Int) (w : World) (hT : Quar w) (hk : Bs w (some ⟨b, off, none⟩) 32 key) (hc : 32 ≤ c) (hno : Bs w (some ⟨b2, off2, none⟩) 12 nonce) (hc2 : 12 ≤ c2) (hd : Bs w A3 0 data) (h0 : 0 ≤ n ∧ n ≤ 1000000) :
    CallsIn F fn0 Tryz.prog 164 #[.slice (some ⟨b, off, none⟩) 32 c, .int .u32 n, .slice (some ⟨b2, off2, none⟩) 12 c2, .slice A3 0 0] w fun e w' =>
      (∃ A c', e = .returned (.slice A 0 c') ∧ Row w' w.heap.size (.slice A 0 c') (streamL key n nonce data)) ∧ Below w.heap.size w w' := by
  have h1 : 1 ≤ fn0 := by omega
  have hmk : ∀ W : World, (Instr.makeSlice 22 (.int .i64 0) (.int .i64 (0 : Int))).run Tryz.prog W = .ok (.slice (some ⟨W.heap.size, 0, none⟩) 0 0) (W.alloc (.cells (zeroB 0) 5)) := fun W => run_make_room 0 (by omega) W
  refine callsIn_of_wp_marks Tryz.func164 rfl (hall _) ?_ hro
  simp only [Tryz.ntmps164, List.size_toArray, List.length_cons, List.length_nil, Nat.reduceAdd, Nat.reduceSub, Array.replicate_succ, Array.replicate_zero, List.push_toArray, List.append_toArray, List.nil_append, List.cons_append]
  gi_wp2_with (gi_at_call 194; refine (streamFrom_in F (fn0 - 1) (hall _) hro _ _ n _ _ _ _ _ _ _ rfl rfl).mono ?_; rintro e w' ⟨rfl, rfl⟩)
  have hI0 : StrZ w b off c b2 off2 c2 A3 0 0 key nonce data n w.heap.size 0 ((((((w.alloc (.cells #[.slice A3 0 0] 22)).alloc (.cells (zeroB 0) 5)).alloc (.cells #[.slice (some ⟨w.heap.size + 1, 0, none⟩) 0 0] 22)).alloc (.cells #[.slice (some ⟨b, off, none⟩) 32 c] 22)).alloc (.cells #[.int .u32 n] 158)).alloc (.cells #[.slice (some ⟨b2, off2, none⟩) 12 c2] 22)) ∧ w.heap.size + 6 = (((((((w.alloc (.cells #[.slice A3 0 0] 22)).alloc (.cells (zeroB 0) 5)).alloc (.cells #[.slice (some ⟨w.heap.size + 1, 0, none⟩) 0 0] 22)).alloc (.cells #[.slice (some ⟨b, off, none⟩) 32 c] 22)).alloc (.cells #[.int .u32 n] 158)).alloc (.cells #[.slice (some ⟨b2, off2, none⟩) 12 c2] 22))).heap.size := by
    have B6 := ab (ab (ab (ab (ab (ab (Below.refl _ w) (.cells #[.slice A3 0 0] 22)) (.cells (zeroB 0) 5)) (.cells #[.slice (some ⟨w.heap.size + 1, 0, none⟩) 0 0] 22)) (.cells #[.slice (some ⟨b, off, none⟩) 32 c] 22)) (.cells #[.int .u32 n] 158)) (.cells #[.slice (some ⟨b2, off2, none⟩) 12 c2] 22)
    have r1 := Row.room (w.alloc (.cells #[.slice A3 0 0] 22)) 0 (by omega) _ rfl
    have x2 := Boxed.new ((w.alloc (.cells #[.slice A3 0 0] 22)).alloc (.cells (zeroB 0) 5)) 22 (.slice (some ⟨w.heap.size + 1, 0, none⟩) 0 0)
    have x3 := Boxed.new (((w.alloc (.cells #[.slice A3 0 0] 22)).alloc (.cells (zeroB 0) 5)).alloc (.cells #[.slice (some ⟨w.heap.size + 1, 0, none⟩) 0 0] 22)) 22 (.slice (some ⟨b, off, none⟩) 32 c)
    have x4 := Boxed.new ((((w.alloc (.cells #[.slice A3 0 0] 22)).alloc (.cells (zeroB 0) 5)).alloc (.cells #[.slice (some ⟨w.heap.size + 1, 0, none⟩) 0 0] 22)).alloc (.cells #[.slice (some ⟨b, off, none⟩) 32 c] 22)) 158 (.int .u32 n)
    have x5 := Boxed.new (((((w.alloc (.cells #[.slice A3 0 0] 22)).alloc (.cells (zeroB 0) 5)).alloc (.cells #[.slice (some ⟨w.heap.size + 1, 0, none⟩) 0 0] 22)).alloc (.cells #[.slice (some ⟨b, off, none⟩) 32 c] 22)).alloc (.cells #[.int .u32 n] 158)) 22 (.slice (some ⟨b2, off2, none⟩) 12 c2)
    simp only [World.size_alloc] at r1 x2 x3 x4 x5
    exact ⟨⟨.inl rfl, ⟨_, ((x2.alloc _).alloc _).alloc _, ((((r1.alloc _).alloc _).alloc _).alloc _)⟩, ((((((Boxed.new w _ _).alloc _).alloc _).alloc _).alloc _).alloc _), ⟨(x3.alloc _).alloc _, x4.alloc _, x5⟩, by simp, B6⟩, by simp⟩
  obtain ⟨hI0, z6⟩ := hI0
  generalize ((((((w.alloc (.cells #[.slice A3 0 0] 22)).alloc (.cells (zeroB 0) 5)).alloc (.cells #[.slice (some ⟨w.heap.size + 1, 0, none⟩) 0 0] 22)).alloc (.cells #[.slice (some ⟨b, off, none⟩) 32 c] 22)).alloc (.cells #[.int .u32 n] 158)).alloc (.cells #[.slice (some ⟨b2, off2, none⟩) 12 c2] 22)) = w6 at *
  obtain ⟨p, hp⟩ : ∃ p, p = w.heap.size := ⟨_, rfl⟩
  rw [← hp] at hI0 z6 ⊢
  have hpw : w.heap.size ≤ p := by omega
  have hdl := hd.len
  have HP := Shut.mk hp
  clear hp hmk
  refine rangeFunc_left hro h1 (gf := 215) (lb := #[.pointer (some ⟨p + 1 + 1 + 1 + 1, 0, none⟩), .pointer (some ⟨p + 1 + 1 + 1, 0, none⟩), .pointer (some ⟨p + 1 + 1 + 1 + 1 + 1, 0, none⟩)]) rfl (hall _) (enters_of Tryz.func215 (by kernel_rfl) rfl) rfl
    (StrZ w b off c b2 off2 c2 A3 0 0 key nonce data n p) (fun e W => e = .exit 0 ∧ Mixed W p (streamL key n nonce data) ∧ p + 6 ≤ W.heap.size ∧ Below p w W) (Came64 key n nonce)
    (fun k W W' h hb => h.same hb) (fun k W l o o' hl ho hc h => h.turn (by omega) o' ho hc) (fun e W l o o' hl ho hc h => ⟨h.1, h.2.1.putObj (by omega) o' ho hc, by have := h.2.2.1; simpa [World.putObj] using this, below_put h.2.2.2 (by omega) o' ho⟩)
    (fun k v W l o o' hl ho hc h => by obtain ⟨A, c', e, hb, h64⟩ := h; exact ⟨A, c', e, hb.putObj o' ho hc, h64⟩) hI0
    (fun l J Jx W hJs hJI hY hJ0 => from1_in F (fn0 - 1) hall hlift hro (by omega) (0 / 64 + 1) (by omega) (p + 3) (p + 4) (p + 5) b off c b2 off2 c2 key nonce n hc hc2 h0 (StrZ w b off c b2 off2 c2 A3 0 0 key nonce data n p)
      (fun k W h => ⟨by have := h.on; omega, h.from_, hk.below (h.bel.mono hpw), hno.below (h.bel.mono hpw), hT.keep (h.bel.mono hpw)⟩) l J Jx W hJs hJI hY hJ0)
    (fun v => { tmps := #[.slice (some ⟨b, off, none⟩) 32 c, .int .u32 n, .slice (some ⟨b2, off2, none⟩) 12 c2, .slice A3 0 0, undef, undef, undef, .pointer (some ⟨p, 0, none⟩), .slice none 0 0, .pointer (some ⟨p + 1 + 1, 0, none⟩), v, undef, .slice A3 0 0, .int .i64 (0 : Int), .slice (some ⟨p + 1, 0, none⟩) 0 0, .slice (some ⟨b, off, none⟩) 32 c, .int .u32 n, .slice (some ⟨b2, off2, none⟩) 12 c2, .func (.func 215) #[] #[.pointer (some ⟨p + 1 + 1 + 1 + 1, 0, none⟩), .pointer (some ⟨p + 1 + 1 + 1, 0, none⟩), .pointer (some ⟨p + 1 + 1 + 1 + 1 + 1, 0, none⟩)], v, undef, undef, undef, undef, undef, undef, undef, undef, undef, undef, undef, undef, undef, undef, undef, undef, undef, undef, undef, undef, undef, undef, undef, undef], defers := [] }) ?assign ?body ?stop
  case assign =>
    intro l v W K hK
    gi_wp2
    exact hK
  case body =>
    rintro lp k v W hS ⟨A, c', rfl, hkb, h64⟩
    obtain ⟨hon, ⟨v0, hbx, hrow⟩, hdat, hfrom, hz, hB⟩ := hS
    obtain rfl : k = 0 := by omega
    have hlen : ((streamL key n nonce data).take (64 * 0)).length = 0 := by rw [List.length_take, streamL_len]; omega
    obtain ⟨A5, c5, rfl, _⟩ := hrow.ow hlen
    have q0 := hbx.cell
    have q1 := hdat.cell
    have fz := hbx.frozen
    obtain ⟨A', off', rfl, _⟩ := hkb.at_ (by omega)
    have hd1 : 1 ≤ fn0 - 1 - 1 := by omega
    have hmL := streamL_len key n nonce data
    have hfull : ¬ 0 + 64 < 0 := by omega
    have m1 : ¬ (64 : Int) < (0 : Int) := by omega
    have hkp := hkb.part_ 0 0 (by omega)
    rw [Nat.add_zero, List.drop_zero, List.take_zero] at hkp
    have hd0 : data = [] := List.length_eq_zero_iff.1 hdl
    have hs0 : streamL key n nonce data = [] := List.length_eq_zero_iff.1 (by rw [hmL, hd0]; rfl)
    have hdW := hd.below (hB.mono hpw)
    rw [hd0] at hdW
    have G := Shut.mk (xorOk_any _ _ 0 0 c' _ _ W.drew (hdW.below (Below.refl _ W).drew) (hkp.below (Below.refl _ W).drew) (by omega))
    have HRo : streamL key n nonce data = (streamL key n nonce data).take (64 * 0) ++ xorL [] [] := by rw [hs0]; rfl
    have hlen0 : (streamL key n nonce data).take (64 * 0) = [] := by rw [hs0]; rfl
    generalize hXL : xorL [] [] = XL at *
    generalize hTL : (streamL key n nonce data).take (64 * 0) = TL at *
    clear hkp hdW hd0 hlen0
    have k64 : (0 : Int) ≤ (c' : Int) := by omega
    gi_wp2
    refine region_round lp hro (by kernel_rfl) (by kernel_rfl) ?_
    have fin : ∀ (w1 : World) (v2 : Value) (w2 : World), Below W.drew.heap.size W.drew w1 → Row w2 (p + 1) v2 (TL ++ XL) → w1.grownBy w2 (Value.slice A5 (0) c5).ownBlock →
        (TL ++ XL).length = 0 ∧ w2.cell? ⟨p + 1 + 1, 0, none⟩ = some (.slice A5 (0) c5) ∧ w2.frozen? ⟨p + 1 + 1, 0, none⟩ = false ∧ (KeepsOthers W (w2.setCell ⟨p + 1 + 1, 0, none⟩ v2) ∧ Mixed (w2.setCell ⟨p + 1 + 1, 0, none⟩ v2) p (TL ++ XL) ∧ Boxed (w2.setCell ⟨p + 1 + 1, 0, none⟩ v2) p 22 (.slice A3 0 0) ∧ From (w2.setCell ⟨p + 1 + 1, 0, none⟩ v2) (p + 3) (p + 4) (p + 5) b off c b2 off2 c2 n ∧ p + 6 ≤ (w2.setCell ⟨p + 1 + 1, 0, none⟩ v2).heap.size ∧ Below p w (w2.setCell ⟨p + 1 + 1, 0, none⟩ v2)) := by
      intro w1 v2 w2 b1 hr2 hg2
      have b1' : Below W.heap.size W w1 := (Below.refl W.heap.size W).drew.trans b1
      have s1 := b1'.size
      have hbx1 : Boxed w1 (p + 2) 22 (.slice A5 (0) c5) := (b1'.block _ hbx.lt).trans hbx
      have hr1 := hrow.keep (w' := w1) (fun g _ h2 => b1'.block g h2)
      have db1 : Boxed w1 p 22 (.slice A3 0 0) := (b1'.block _ hdat.lt).trans hdat
      have fr1 : From w1 (p + 3) (p + 4) (p + 5) b off c b2 off2 c2 n := hfrom.keep (b1'.block _ (by omega)) (b1'.block _ (by omega)) (b1'.block _ (by omega))
      have nr : ∀ {B : Nat} {t : TypeId} {u : Value}, Boxed w1 B t u → t ≠ 5 → some B ≠ (Value.slice A5 (0) c5).ownBlock := fun h ht => h.not_row ht hr1.own
      have hbx2 := hbx1.kept hg2 (nr hbx1 (by decide))
      have db2 := db1.kept hg2 (nr db1 (by decide))
      have fr2 : From w2 (p + 3) (p + 4) (p + 5) b off c b2 off2 c2 n := ⟨fr1.k.kept hg2 (nr fr1.k (by decide)), fr1.n_.kept hg2 (nr fr1.n_ (by decide)), fr1.o.kept hg2 (nr fr1.o (by decide))⟩
      have ko2 : KeepsOthers w1 w2 := KeepsOthers.of_grownBy hg2 fun j o ej hj => by
        rcases hr1.own.2 with ⟨e0, _⟩ | ⟨g1, cap, cur, e0, _, hgb, _⟩
        · rw [e0] at ej; simp [Value.ownBlock] at ej
        · rw [e0] at ej
          obtain rfl : g1 = j := by simpa [Value.ownBlock] using ej
          rw [hgb] at hj; cases hj; rfl
      have b2 : Below p w w2 := (hB.trans (b1'.mono (by omega))).grown hg2 (by omega) (fun j ej => by have := (hr1.own.lt j ej).1; omega)
      have nr2 : some (p + 2) ≠ v2.ownBlock := hbx2.not_row (by decide) hr2.own
      have s2 := hg2.size
      refine ⟨by rw [← HRo, hmL, hdl], hbx2.cell, hbx2.frozen, ((keepsOthers_bel b1').trans ko2).trans (KeepsOthers.setCell _ _ _), ⟨v2, hbx2.set v2, ⟨hr2.byte, hr2.own.kept (grownBy_setCell' w2 (p + 2) v2) (.inr nr2.symm)⟩⟩, ?_, fr2.keep (Below.heap_setCell w2 ⟨p + 1 + 1, 0, none⟩ _ _ (by simp; try omega)) (Below.heap_setCell w2 ⟨p + 1 + 1, 0, none⟩ _ _ (by simp; try omega)) (Below.heap_setCell w2 ⟨p + 1 + 1, 0, none⟩ _ _ (by simp; try omega)), by simp only [World.size_setCell]; omega, b2.setCell (p := ⟨p + 1 + 1, 0, none⟩) (by simp; try omega) _⟩
      exact (Below.heap_setCell w2 ⟨p + 1 + 1, 0, none⟩ _ _ (by simp; try omega)).trans db2
    refine wpAnyIn_take (i := 1) (v := .slice (A3) 0 0) hro rfl (by kernel_rfl) (by kernel_rfl) (by kernel_rfl) (fun _ _ _ h => h) ?_ ?_
    · exact ⟨Or.inl ⟨by rfl, fun w => by go_simp⟩, fun _ => rfl⟩
    go_simp
    refine wpAnyIn_take (i := 2) (v := .slice (some ⟨A', off', none⟩) 64 c') hro rfl (by kernel_rfl) (by kernel_rfl) (by kernel_rfl) (fun _ _ _ h => h) ?_ ?_
    · exact ⟨Or.inl ⟨by rfl, fun w => by go_simp⟩, fun _ => rfl⟩
    go_simp
    refine wpAnyIn_take (i := 3) (v := .slice (A3) 0 0) hro rfl (by kernel_rfl) (by kernel_rfl) (by kernel_rfl) (fun _ _ _ h => h) ?_ ?_
    · exact ⟨Or.inl ⟨by rfl, fun w => by go_simp⟩, fun _ => rfl⟩
    go_simp
    refine wpAnyIn_take (i := 4) (v := .int .i64 (0 : Int)) hro rfl (by kernel_rfl) (by kernel_rfl) (by kernel_rfl) (fun _ _ _ h => h) ?_ ?_
    · exact ⟨Or.inl ⟨by rfl, fun w => by go_simp⟩, fun _ => rfl⟩
    go_simp
    refine wpAnyIn_take (i := 5) (v := .slice (some ⟨A', off', none⟩) 0 c') hro rfl (by kernel_rfl) (by kernel_rfl) (by kernel_rfl) (fun _ _ _ h => h) ?_ ?_
    · exact ⟨Or.inl ⟨by rfl, fun w => by go_simp⟩, fun _ => rfl⟩
    go_simp
    refine wpAnyIn_ready (rs := [0, 6]) (by kernel_rfl) (by simp) (AllReadyIn.cons rfl (fun K hK => ?_) (AllReadyIn.cons rfl (fun K hK => ?_) AllReadyIn.nil))
    · go_simp
      refine hK _ _ ?_
      clear hK K
      refine wpAnyIn_ready (rs := [6]) (by kernel_rfl) (by simp) (AllReadyIn.cons rfl (fun K hK => ?_) AllReadyIn.nil)
      go_simp
      gi_wp2_with (gi_at_call 195; refine (hlift _ _ _ _ _ G.out).mono ?_; rintro e w1 ⟨⟨gx, rfl, hbx1, hgx⟩, b1⟩)
      try clear hK K
      have hs1 : W.heap.size ≤ w1.heap.size := b1.size
      have q0w := (b1.cell (p := ⟨p + 2, 0, none⟩) (show p + 2 < W.drew.heap.size from hbx.lt)).trans q0
      have hr1 := hrow.drew.keep (w' := w1) (fun g _ h2 => b1.block g h2)
      have hfld := fld_bytes 0 (some ⟨gx, 0, none⟩) 0 0 w1
      refine wpAnyIn_ready (rs := [7]) (by kernel_rfl) (by simp) (AllReadyIn.cons rfl (fun K hK => ?_) AllReadyIn.nil)
      go_simp
      refine hK _ _ ?_
      clear hK K
      refine wpAnyIn_ready (rs := [8]) (by kernel_rfl) (by simp) (AllReadyIn.cons rfl (fun K hK => ?_) AllReadyIn.nil)
      refine stepIn_row_join rfl _ _ rfl _ (p + 1) (.slice A5 (0) c5) TL XL rfl hr1 (by omega) gx 0 0 rfl hbx1 (by rw [hlen]; omega) ?_
      intro v2 w2 hr2 hg2
      have fq := fin w1 v2 w2 b1 hr2 hg2
      obtain ⟨A6, c6, rfl, _⟩ := hr2.ow fq.1
      refine hK _ _ ?_
      clear hK K
      obtain ⟨fq0, fc, ff, fpost⟩ := fq
      refine wpAnyIn_ready (rs := [9]) (by kernel_rfl) (by simp) (AllReadyIn.cons rfl (fun K hK => ?_) AllReadyIn.nil)
      go_simp
      refine hK _ _ ?_
      clear hK K
      refine wpAnyIn_done (by kernel_rfl) ?_ _
      obtain ⟨ko, mx, db, fr, sz, bl⟩ := fpost
      have qd := db.cell
      gi_wp2
      refine ⟨ko, rfl, ?_, sz, bl⟩
      rw [HRo]
      exact mx
    · go_simp
      gi_wp2_with (gi_at_call 195; refine (hlift _ _ _ _ _ G.out).mono ?_; rintro e w1 ⟨⟨gx, rfl, hbx1, hgx⟩, b1⟩)
      try clear hK K
      have hs1 : W.heap.size ≤ w1.heap.size := b1.size
      have q0w := (b1.cell (p := ⟨p + 2, 0, none⟩) (show p + 2 < W.drew.heap.size from hbx.lt)).trans q0
      have hr1 := hrow.drew.keep (w' := w1) (fun g _ h2 => b1.block g h2)
      have hfld := fld_bytes 0 (some ⟨gx, 0, none⟩) 0 0 w1
      refine wpAnyIn_ready (rs := [0, 7]) (by kernel_rfl) (by simp) (AllReadyIn.cons rfl (fun K hK => ?_) (AllReadyIn.cons rfl (fun K hK => ?_) AllReadyIn.nil))
      · go_simp
        refine hK _ _ ?_
        clear hK K
        refine wpAnyIn_ready (rs := [7]) (by kernel_rfl) (by simp) (AllReadyIn.cons rfl (fun K hK => ?_) AllReadyIn.nil)
        go_simp
        refine hK _ _ ?_
        clear hK K
        refine wpAnyIn_ready (rs := [8]) (by kernel_rfl) (by simp) (AllReadyIn.cons rfl (fun K hK => ?_) AllReadyIn.nil)
        refine stepIn_row_join rfl _ _ rfl _ (p + 1) (.slice A5 (0) c5) TL XL rfl hr1 (by omega) gx 0 0 rfl hbx1 (by rw [hlen]; omega) ?_
        intro v2 w2 hr2 hg2
        have fq := fin w1 v2 w2 b1 hr2 hg2
        obtain ⟨A6, c6, rfl, _⟩ := hr2.ow fq.1
        refine hK _ _ ?_
        clear hK K
        obtain ⟨fq0, fc, ff, fpost⟩ := fq
        refine wpAnyIn_ready (rs := [9]) (by kernel_rfl) (by simp) (AllReadyIn.cons rfl (fun K hK => ?_) AllReadyIn.nil)
        go_simp
        refine hK _ _ ?_
        clear hK K
        refine wpAnyIn_done (by kernel_rfl) ?_ _
        obtain ⟨ko, mx, db, fr, sz, bl⟩ := fpost
        have qd := db.cell
        gi_wp2
        refine ⟨ko, rfl, ?_, sz, bl⟩
        rw [HRo]
        exact mx
      · go_simp
        refine hK _ _ ?_
        clear hK K
        refine wpAnyIn_ready (rs := [0]) (by kernel_rfl) (by simp) (AllReadyIn.cons rfl (fun K hK => ?_) AllReadyIn.nil)
        go_simp
        refine hK _ _ ?_
        clear hK K
        refine wpAnyIn_ready (rs := [8]) (by kernel_rfl) (by simp) (AllReadyIn.cons rfl (fun K hK => ?_) AllReadyIn.nil)
        refine stepIn_row_join rfl _ _ rfl _ (p + 1) (.slice A5 (0) c5) TL XL rfl hr1 (by omega) gx 0 0 rfl hbx1 (by rw [hlen]; omega) ?_
        intro v2 w2 hr2 hg2
        have fq := fin w1 v2 w2 b1 hr2 hg2
        obtain ⟨A6, c6, rfl, _⟩ := hr2.ow fq.1
        refine hK _ _ ?_
        clear hK K
        obtain ⟨fq0, fc, ff, fpost⟩ := fq
        refine wpAnyIn_ready (rs := [9]) (by kernel_rfl) (by simp) (AllReadyIn.cons rfl (fun K hK => ?_) AllReadyIn.nil)
        go_simp
        refine hK _ _ ?_
        clear hK K
        refine wpAnyIn_done (by kernel_rfl) ?_ _
        obtain ⟨ko, mx, db, fr, sz, bl⟩ := fpost
        have qd := db.cell
        gi_wp2
        refine ⟨ko, rfl, ?_, sz, bl⟩
        rw [HRo]
        exact mx
  case stop =>
    rintro D e W hD ⟨rfl, ⟨v, hbx, hrow⟩, hz, hB⟩ hK
    have q0 := hbx.cell
    obtain ⟨A, c', rfl, _⟩ := hrow.ow ((streamL_len key n nonce data).trans hdl)
    gi_wp2
    refine ⟨by simp, .inl ⟨_, _, rfl, run_takeDeferred hK, ?_⟩⟩
    refine ⟨_, results_tmp rfl _ _ _, ⟨A, c', rfl, ?_⟩, (hB.mono hpw).trans (belowK_b (w := w) (Nat.le_refl _) W D _ _ (by omega) hK rfl rfl)⟩
    have hr : Row (W.putObj D (.deferred none)) (p + 1) (.slice A 0 c') (streamL key n nonce data) := ⟨hrow.byte, ownsRow_putObj hrow.own _ hK rfl⟩
    exact hr.mono (by omega)
end Go.Proofs.YtabhcolfkkfonaaGreatDoor

/-! StyP -/
/- No data, of some room, hidden by a stream, of the program. -/
namespace Go.Proofs.YtabhcolfkkfonaaGreatDoor
open Go.RowKit Go.Shelf

attribute [local go_sem] Oper.semAt_some

set_option maxRecDepth 100000 in
set_option maxHeartbeats 1200000 in
theorem streamedy_in (F : Fence) (fn0 : Nat) (hall : ∀ f, F.fn f) (hlift : ∀ (k : Nat) (f : FuncId) (args : Array Value) (W : World) (R : Ending → World → Prop), Calls Tryz.prog f args W R → CallsIn F k Tryz.prog f args W R) (hro : F.round = none) (hn : 5 ≤ fn0)
    (b off c b2 off2 c2 : Nat) (b3 off3 : Nat) (t3 : Option Nat) (c3 : Nat) (key nonce data : List Int) (n : Int) (w : World) (hT : Quar w) (hk : Bs w (some ⟨b, off, none⟩) 32 key) (hc : 32 ≤ c) (hno : Bs w (some ⟨b2, off2, none⟩) 12 nonce) (hc2 : 12 ≤ c2) (hc30 : ¬ c3 = 0) (hd : Bs w (some ⟨b3, off3, t3⟩) 0 data) (h0 : 0 ≤ n ∧ n ≤ 1000000) :
    CallsIn F fn0 Tryz.prog 164 #[.slice (some ⟨b, off, none⟩) 32 c, .int .u32 n, .slice (some ⟨b2, off2, none⟩) 12 c2, .slice (some ⟨b3, off3, t3⟩) 0 c3] w fun e w' =>
      (∃ A c', e = .returned (.slice A 0 c') ∧ Row w' w.heap.size (.slice A 0 c') (streamL key n nonce data)) ∧ Below w.heap.size w w' := by
  have h1 : 1 ≤ fn0 := by omega
  have hmk : ∀ W : World, (Instr.makeSlice 22 (.int .i64 0) (.int .i64 (0 : Int))).run Tryz.prog W = .ok (.slice (some ⟨W.heap.size, 0, none⟩) 0 0) (W.alloc (.cells (zeroB 0) 5)) := fun W => run_make_room 0 (by omega) W
  refine callsIn_of_wp_marks Tryz.func164 rfl (hall _) ?_ hro
  simp only [Tryz.ntmps164, List.size_toArray, List.length_cons, List.length_nil, Nat.reduceAdd, Nat.reduceSub, Array.replicate_succ, Array.replicate_zero, List.push_toArray, List.append_toArray, List.nil_append, List.cons_append]
  gi_wp2_with (gi_at_call 194; refine (streamFrom_in F (fn0 - 1) (hall _) hro _ _ n _ _ _ _ _ _ _ rfl rfl).mono ?_; rintro e w' ⟨rfl, rfl⟩)
  have hI0 : StrZ w b off c b2 off2 c2 (some ⟨b3, off3, t3⟩) 0 c3 key nonce data n w.heap.size 0 ((((((w.alloc (.cells #[.slice (some ⟨b3, off3, t3⟩) 0 c3] 22)).alloc (.cells (zeroB 0) 5)).alloc (.cells #[.slice (some ⟨w.heap.size + 1, 0, none⟩) 0 0] 22)).alloc (.cells #[.slice (some ⟨b, off, none⟩) 32 c] 22)).alloc (.cells #[.int .u32 n] 158)).alloc (.cells #[.slice (some ⟨b2, off2, none⟩) 12 c2] 22)) ∧ w.heap.size + 6 = (((((((w.alloc (.cells #[.slice (some ⟨b3, off3, t3⟩) 0 c3] 22)).alloc (.cells (zeroB 0) 5)).alloc (.cells #[.slice (some ⟨w.heap.size + 1, 0, none⟩) 0 0] 22)).alloc (.cells #[.slice (some ⟨b, off, none⟩) 32 c] 22)).alloc (.cells #[.int .u32 n] 158)).alloc (.cells #[.slice (some ⟨b2, off2, none⟩) 12 c2] 22))).heap.size := by
    have B6 := ab (ab (ab (ab (ab (ab (Below.refl _ w) (.cells #[.slice (some ⟨b3, off3, t3⟩) 0 c3] 22)) (.cells (zeroB 0) 5)) (.cells #[.slice (some ⟨w.heap.size + 1, 0, none⟩) 0 0] 22)) (.cells #[.slice (some ⟨b, off, none⟩) 32 c] 22)) (.cells #[.int .u32 n] 158)) (.cells #[.slice (some ⟨b2, off2, none⟩) 12 c2] 22)
    have r1 := Row.room (w.alloc (.cells #[.slice (some ⟨b3, off3, t3⟩) 0 c3] 22)) 0 (by omega) _ rfl
    have x2 := Boxed.new ((w.alloc (.cells #[.slice (some ⟨b3, off3, t3⟩) 0 c3] 22)).alloc (.cells (zeroB 0) 5)) 22 (.slice (some ⟨w.heap.size + 1, 0, none⟩) 0 0)
    have x3 := Boxed.new (((w.alloc (.cells #[.slice (some ⟨b3, off3, t3⟩) 0 c3] 22)).alloc (.cells (zeroB 0) 5)).alloc (.cells #[.slice (some ⟨w.heap.size + 1, 0, none⟩) 0 0] 22)) 22 (.slice (some ⟨b, off, none⟩) 32 c)
    have x4 := Boxed.new ((((w.alloc (.cells #[.slice (some ⟨b3, off3, t3⟩) 0 c3] 22)).alloc (.cells (zeroB 0) 5)).alloc (.cells #[.slice (some ⟨w.heap.size + 1, 0, none⟩) 0 0] 22)).alloc (.cells #[.slice (some ⟨b, off, none⟩) 32 c] 22)) 158 (.int .u32 n)
    have x5 := Boxed.new (((((w.alloc (.cells #[.slice (some ⟨b3, off3, t3⟩) 0 c3] 22)).alloc (.cells (zeroB 0) 5)).alloc (.cells #[.slice (some ⟨w.heap.size + 1, 0, none⟩) 0 0] 22)).alloc (.cells #[.slice (some ⟨b, off, none⟩) 32 c] 22)).alloc (.cells #[.int .u32 n] 158)) 22 (.slice (some ⟨b2, off2, none⟩) 12 c2)
    simp only [World.size_alloc] at r1 x2 x3 x4 x5
    exact ⟨⟨.inl rfl, ⟨_, ((x2.alloc _).alloc _).alloc _, ((((r1.alloc _).alloc _).alloc _).alloc _)⟩, ((((((Boxed.new w _ _).alloc _).alloc _).alloc _).alloc _).alloc _), ⟨(x3.alloc _).alloc _, x4.alloc _, x5⟩, by simp, B6⟩, by simp⟩
  obtain ⟨hI0, z6⟩ := hI0
  generalize ((((((w.alloc (.cells #[.slice (some ⟨b3, off3, t3⟩) 0 c3] 22)).alloc (.cells (zeroB 0) 5)).alloc (.cells #[.slice (some ⟨w.heap.size + 1, 0, none⟩) 0 0] 22)).alloc (.cells #[.slice (some ⟨b, off, none⟩) 32 c] 22)).alloc (.cells #[.int .u32 n] 158)).alloc (.cells #[.slice (some ⟨b2, off2, none⟩) 12 c2] 22)) = w6 at *
  obtain ⟨p, hp⟩ : ∃ p, p = w.heap.size := ⟨_, rfl⟩
  rw [← hp] at hI0 z6 ⊢
  have hpw : w.heap.size ≤ p := by omega
  have hdl := hd.len
  have HP := Shut.mk hp
  clear hp hmk
  refine rangeFunc_left hro h1 (gf := 215) (lb := #[.pointer (some ⟨p + 1 + 1 + 1 + 1, 0, none⟩), .pointer (some ⟨p + 1 + 1 + 1, 0, none⟩), .pointer (some ⟨p + 1 + 1 + 1 + 1 + 1, 0, none⟩)]) rfl (hall _) (enters_of Tryz.func215 (by kernel_rfl) rfl) rfl
    (StrZ w b off c b2 off2 c2 (some ⟨b3, off3, t3⟩) 0 c3 key nonce data n p) (fun e W => e = .exit 0 ∧ Mixed W p (streamL key n nonce data) ∧ p + 6 ≤ W.heap.size ∧ Below p w W) (Came64 key n nonce)
    (fun k W W' h hb => h.same hb) (fun k W l o o' hl ho hc h => h.turn (by omega) o' ho hc) (fun e W l o o' hl ho hc h => ⟨h.1, h.2.1.putObj (by omega) o' ho hc, by have := h.2.2.1; simpa [World.putObj] using this, below_put h.2.2.2 (by omega) o' ho⟩)
    (fun k v W l o o' hl ho hc h => by obtain ⟨A, c', e, hb, h64⟩ := h; exact ⟨A, c', e, hb.putObj o' ho hc, h64⟩) hI0
    (fun l J Jx W hJs hJI hY hJ0 => from1_in F (fn0 - 1) hall hlift hro (by omega) (0 / 64 + 1) (by omega) (p + 3) (p + 4) (p + 5) b off c b2 off2 c2 key nonce n hc hc2 h0 (StrZ w b off c b2 off2 c2 (some ⟨b3, off3, t3⟩) 0 c3 key nonce data n p)
      (fun k W h => ⟨by have := h.on; omega, h.from_, hk.below (h.bel.mono hpw), hno.below (h.bel.mono hpw), hT.keep (h.bel.mono hpw)⟩) l J Jx W hJs hJI hY hJ0)
    (fun v => { tmps := #[.slice (some ⟨b, off, none⟩) 32 c, .int .u32 n, .slice (some ⟨b2, off2, none⟩) 12 c2, .slice (some ⟨b3, off3, t3⟩) 0 c3, undef, undef, undef, .pointer (some ⟨p, 0, none⟩), .slice none 0 0, .pointer (some ⟨p + 1 + 1, 0, none⟩), v, undef, .slice (some ⟨b3, off3, t3⟩) 0 c3, .int .i64 (0 : Int), .slice (some ⟨p + 1, 0, none⟩) 0 0, .slice (some ⟨b, off, none⟩) 32 c, .int .u32 n, .slice (some ⟨b2, off2, none⟩) 12 c2, .func (.func 215) #[] #[.pointer (some ⟨p + 1 + 1 + 1 + 1, 0, none⟩), .pointer (some ⟨p + 1 + 1 + 1, 0, none⟩), .pointer (some ⟨p + 1 + 1 + 1 + 1 + 1, 0, none⟩)], v, undef, undef, undef, undef, undef, undef, undef, undef, undef, undef, undef, undef, undef, undef, undef, undef, undef, undef, undef, undef, undef, undef, undef, undef], defers := [] }) ?assign ?body ?stop
  case assign =>
    intro l v W K hK
    gi_wp2
    exact hK
  case body =>
    rintro lp k v W hS ⟨A, c', rfl, hkb, h64⟩
    obtain ⟨hon, ⟨v0, hbx, hrow⟩, hdat, hfrom, hz, hB⟩ := hS
    obtain rfl : k = 0 := by omega
    have hlen : ((streamL key n nonce data).take (64 * 0)).length = 0 := by rw [List.length_take, streamL_len]; omega
    obtain ⟨A5, c5, rfl, _⟩ := hrow.ow hlen
    have q0 := hbx.cell
    have q1 := hdat.cell
    have fz := hbx.frozen
    obtain ⟨A', off', rfl, _⟩ := hkb.at_ (by omega)
    have hd1 : 1 ≤ fn0 - 1 - 1 := by omega
    have i2 : (0 : Int) ≤ (c3 : Int) := by omega
    have hmL := streamL_len key n nonce data
    have hfull : ¬ 0 + 64 < 0 := by omega
    have m1 : ¬ (64 : Int) < (0 : Int) := by omega
    have hkp := hkb.part_ 0 0 (by omega)
    rw [Nat.add_zero, List.drop_zero, List.take_zero] at hkp
    have hd0 : data = [] := List.length_eq_zero_iff.1 hdl
    have hs0 : streamL key n nonce data = [] := List.length_eq_zero_iff.1 (by rw [hmL, hd0]; rfl)
    have hdW := hd.below (hB.mono hpw)
    rw [hd0] at hdW
    have G := Shut.mk (xorOk_any _ _ 0 c3 c' _ _ W.drew (hdW.below (Below.refl _ W).drew) (hkp.below (Below.refl _ W).drew) (by omega))
    have HRo : streamL key n nonce data = (streamL key n nonce data).take (64 * 0) ++ xorL [] [] := by rw [hs0]; rfl
    have hlen0 : (streamL key n nonce data).take (64 * 0) = [] := by rw [hs0]; rfl
    generalize hXL : xorL [] [] = XL at *
    generalize hTL : (streamL key n nonce data).take (64 * 0) = TL at *
    clear hkp hdW hd0 hlen0
    have k64 : (0 : Int) ≤ (c' : Int) := by omega
    gi_wp2
    refine region_round lp hro (by kernel_rfl) (by kernel_rfl) ?_
    have fin : ∀ (w1 : World) (v2 : Value) (w2 : World), Below W.drew.heap.size W.drew w1 → Row w2 (p + 1) v2 (TL ++ XL) → w1.grownBy w2 (Value.slice A5 (0) c5).ownBlock →
        (TL ++ XL).length = 0 ∧ w2.cell? ⟨p + 1 + 1, 0, none⟩ = some (.slice A5 (0) c5) ∧ w2.frozen? ⟨p + 1 + 1, 0, none⟩ = false ∧ (KeepsOthers W (w2.setCell ⟨p + 1 + 1, 0, none⟩ v2) ∧ Mixed (w2.setCell ⟨p + 1 + 1, 0, none⟩ v2) p (TL ++ XL) ∧ Boxed (w2.setCell ⟨p + 1 + 1, 0, none⟩ v2) p 22 (.slice (some ⟨b3, off3, t3⟩) 0 c3) ∧ From (w2.setCell ⟨p + 1 + 1, 0, none⟩ v2) (p + 3) (p + 4) (p + 5) b off c b2 off2 c2 n ∧ p + 6 ≤ (w2.setCell ⟨p + 1 + 1, 0, none⟩ v2).heap.size ∧ Below p w (w2.setCell ⟨p + 1 + 1, 0, none⟩ v2)) := by
      intro w1 v2 w2 b1 hr2 hg2
      have b1' : Below W.heap.size W w1 := (Below.refl W.heap.size W).drew.trans b1
      have s1 := b1'.size
      have hbx1 : Boxed w1 (p + 2) 22 (.slice A5 (0) c5) := (b1'.block _ hbx.lt).trans hbx
      have hr1 := hrow.keep (w' := w1) (fun g _ h2 => b1'.block g h2)
      have db1 : Boxed w1 p 22 (.slice (some ⟨b3, off3, t3⟩) 0 c3) := (b1'.block _ hdat.lt).trans hdat
      have fr1 : From w1 (p + 3) (p + 4) (p + 5) b off c b2 off2 c2 n := hfrom.keep (b1'.block _ (by omega)) (b1'.block _ (by omega)) (b1'.block _ (by omega))
      have nr : ∀ {B : Nat} {t : TypeId} {u : Value}, Boxed w1 B t u → t ≠ 5 → some B ≠ (Value.slice A5 (0) c5).ownBlock := fun h ht => h.not_row ht hr1.own
      have hbx2 := hbx1.kept hg2 (nr hbx1 (by decide))
      have db2 := db1.kept hg2 (nr db1 (by decide))
      have fr2 : From w2 (p + 3) (p + 4) (p + 5) b off c b2 off2 c2 n := ⟨fr1.k.kept hg2 (nr fr1.k (by decide)), fr1.n_.kept hg2 (nr fr1.n_ (by decide)), fr1.o.kept hg2 (nr fr1.o (by decide))⟩
      have ko2 : KeepsOthers w1 w2 := KeepsOthers.of_grownBy hg2 fun j o ej hj => by
        rcases hr1.own.2 with ⟨e0, _⟩ | ⟨g1, cap, cur, e0, _, hgb, _⟩
        · rw [e0] at ej; simp [Value.ownBlock] at ej
        · rw [e0] at ej
          obtain rfl : g1 = j := by simpa [Value.ownBlock] using ej
          rw [hgb] at hj; cases hj; rfl
      have b2 : Below p w w2 := (hB.trans (b1'.mono (by omega))).grown hg2 (by omega) (fun j ej => by have := (hr1.own.lt j ej).1; omega)
      have nr2 : some (p + 2) ≠ v2.ownBlock := hbx2.not_row (by decide) hr2.own
      have s2 := hg2.size
      refine ⟨by rw [← HRo, hmL, hdl], hbx2.cell, hbx2.frozen, ((keepsOthers_bel b1').trans ko2).trans (KeepsOthers.setCell _ _ _), ⟨v2, hbx2.set v2, ⟨hr2.byte, hr2.own.kept (grownBy_setCell' w2 (p + 2) v2) (.inr nr2.symm)⟩⟩, ?_, fr2.keep (Below.heap_setCell w2 ⟨p + 1 + 1, 0, none⟩ _ _ (by simp; try omega)) (Below.heap_setCell w2 ⟨p + 1 + 1, 0, none⟩ _ _ (by simp; try omega)) (Below.heap_setCell w2 ⟨p + 1 + 1, 0, none⟩ _ _ (by simp; try omega)), by simp only [World.size_setCell]; omega, b2.setCell (p := ⟨p + 1 + 1, 0, none⟩) (by simp; try omega) _⟩
      exact (Below.heap_setCell w2 ⟨p + 1 + 1, 0, none⟩ _ _ (by simp; try omega)).trans db2
    refine wpAnyIn_take (i := 1) (v := .slice (some ⟨b3, off3, t3⟩) 0 c3) hro rfl (by kernel_rfl) (by kernel_rfl) (by kernel_rfl) (fun _ _ _ h => h) ?_ ?_
    · exact ⟨Or.inl ⟨by rfl, fun w => by go_simp⟩, fun _ => rfl⟩
    go_simp
    refine wpAnyIn_take (i := 2) (v := .slice (some ⟨A', off', none⟩) 64 c') hro rfl (by kernel_rfl) (by kernel_rfl) (by kernel_rfl) (fun _ _ _ h => h) ?_ ?_
    · exact ⟨Or.inl ⟨by rfl, fun w => by go_simp⟩, fun _ => rfl⟩
    go_simp
    refine wpAnyIn_take (i := 3) (v := .slice (some ⟨b3, off3, t3⟩) 0 c3) hro rfl (by kernel_rfl) (by kernel_rfl) (by kernel_rfl) (fun _ _ _ h => h) ?_ ?_
    · exact ⟨Or.inl ⟨by rfl, fun w => by go_simp⟩, fun _ => rfl⟩
    go_simp
    refine wpAnyIn_take (i := 4) (v := .int .i64 (0 : Int)) hro rfl (by kernel_rfl) (by kernel_rfl) (by kernel_rfl) (fun _ _ _ h => h) ?_ ?_
    · exact ⟨Or.inl ⟨by rfl, fun w => by go_simp⟩, fun _ => rfl⟩
    go_simp
    refine wpAnyIn_take (i := 5) (v := .slice (some ⟨A', off', none⟩) 0 c') hro rfl (by kernel_rfl) (by kernel_rfl) (by kernel_rfl) (fun _ _ _ h => h) ?_ ?_
    · exact ⟨Or.inl ⟨by rfl, fun w => by go_simp⟩, fun _ => rfl⟩
    go_simp
    refine wpAnyIn_ready (rs := [0, 6]) (by kernel_rfl) (by simp) (AllReadyIn.cons rfl (fun K hK => ?_) (AllReadyIn.cons rfl (fun K hK => ?_) AllReadyIn.nil))
    · go_simp
      refine hK _ _ ?_
      clear hK K
      refine wpAnyIn_ready (rs := [6]) (by kernel_rfl) (by simp) (AllReadyIn.cons rfl (fun K hK => ?_) AllReadyIn.nil)
      go_simp
      gi_wp2_with (gi_at_call 195; refine (hlift _ _ _ _ _ G.out).mono ?_; rintro e w1 ⟨⟨gx, rfl, hbx1, hgx⟩, b1⟩)
      try clear hK K
      have hs1 : W.heap.size ≤ w1.heap.size := b1.size
      have q0w := (b1.cell (p := ⟨p + 2, 0, none⟩) (show p + 2 < W.drew.heap.size from hbx.lt)).trans q0
      have hr1 := hrow.drew.keep (w' := w1) (fun g _ h2 => b1.block g h2)
      have hfld := fld_bytes 0 (some ⟨gx, 0, none⟩) 0 0 w1
      refine wpAnyIn_ready (rs := [7]) (by kernel_rfl) (by simp) (AllReadyIn.cons rfl (fun K hK => ?_) AllReadyIn.nil)
      go_simp
      refine hK _ _ ?_
      clear hK K
      refine wpAnyIn_ready (rs := [8]) (by kernel_rfl) (by simp) (AllReadyIn.cons rfl (fun K hK => ?_) AllReadyIn.nil)
      refine stepIn_row_join rfl _ _ rfl _ (p + 1) (.slice A5 (0) c5) TL XL rfl hr1 (by omega) gx 0 0 rfl hbx1 (by rw [hlen]; omega) ?_
      intro v2 w2 hr2 hg2
      have fq := fin w1 v2 w2 b1 hr2 hg2
      obtain ⟨A6, c6, rfl, _⟩ := hr2.ow fq.1
      refine hK _ _ ?_
      clear hK K
      obtain ⟨fq0, fc, ff, fpost⟩ := fq
      refine wpAnyIn_ready (rs := [9]) (by kernel_rfl) (by simp) (AllReadyIn.cons rfl (fun K hK => ?_) AllReadyIn.nil)
      go_simp
      refine hK _ _ ?_
      clear hK K
      refine wpAnyIn_done (by kernel_rfl) ?_ _
      obtain ⟨ko, mx, db, fr, sz, bl⟩ := fpost
      have qd := db.cell
      gi_wp2
      refine ⟨ko, rfl, ?_, sz, bl⟩
      rw [HRo]
      exact mx
    · go_simp
      gi_wp2_with (gi_at_call 195; refine (hlift _ _ _ _ _ G.out).mono ?_; rintro e w1 ⟨⟨gx, rfl, hbx1, hgx⟩, b1⟩)
      try clear hK K
      have hs1 : W.heap.size ≤ w1.heap.size := b1.size
      have q0w := (b1.cell (p := ⟨p + 2, 0, none⟩) (show p + 2 < W.drew.heap.size from hbx.lt)).trans q0
      have hr1 := hrow.drew.keep (w' := w1) (fun g _ h2 => b1.block g h2)
      have hfld := fld_bytes 0 (some ⟨gx, 0, none⟩) 0 0 w1
      refine wpAnyIn_ready (rs := [0, 7]) (by kernel_rfl) (by simp) (AllReadyIn.cons rfl (fun K hK => ?_) (AllReadyIn.cons rfl (fun K hK => ?_) AllReadyIn.nil))
      · go_simp
        refine hK _ _ ?_
        clear hK K
        refine wpAnyIn_ready (rs := [7]) (by kernel_rfl) (by simp) (AllReadyIn.cons rfl (fun K hK => ?_) AllReadyIn.nil)
        go_simp
        refine hK _ _ ?_
        clear hK K
        refine wpAnyIn_ready (rs := [8]) (by kernel_rfl) (by simp) (AllReadyIn.cons rfl (fun K hK => ?_) AllReadyIn.nil)
        refine stepIn_row_join rfl _ _ rfl _ (p + 1) (.slice A5 (0) c5) TL XL rfl hr1 (by omega) gx 0 0 rfl hbx1 (by rw [hlen]; omega) ?_
        intro v2 w2 hr2 hg2
        have fq := fin w1 v2 w2 b1 hr2 hg2
        obtain ⟨A6, c6, rfl, _⟩ := hr2.ow fq.1
        refine hK _ _ ?_
        clear hK K
        obtain ⟨fq0, fc, ff, fpost⟩ := fq
        refine wpAnyIn_ready (rs := [9]) (by kernel_rfl) (by simp) (AllReadyIn.cons rfl (fun K hK => ?_) AllReadyIn.nil)
        go_simp
        refine hK _ _ ?_
        clear hK K
        refine wpAnyIn_done (by kernel_rfl) ?_ _
        obtain ⟨ko, mx, db, fr, sz, bl⟩ := fpost
        have qd := db.cell
        gi_wp2
        refine ⟨ko, rfl, ?_, sz, bl⟩
        rw [HRo]
        exact mx
      · go_simp
        refine hK _ _ ?_
        clear hK K
        refine wpAnyIn_ready (rs := [0]) (by kernel_rfl) (by simp) (AllReadyIn.cons rfl (fun K hK => ?_) AllReadyIn.nil)
        go_simp
        refine hK _ _ ?_
        clear hK K
        refine wpAnyIn_ready (rs := [8]) (by kernel_rfl) (by simp) (AllReadyIn.cons rfl (fun K hK => ?_) AllReadyIn.nil)
        refine stepIn_row_join rfl _ _ rfl _ (p + 1) (.slice A5 (0) c5) TL XL rfl hr1 (by omega) gx 0 0 rfl hbx1 (by rw [hlen]; omega) ?_
        intro v2 w2 hr2 hg2
        have fq := fin w1 v2 w2 b1 hr2 hg2
        obtain ⟨A6, c6, rfl, _⟩ := hr2.ow fq.1
        refine hK _ _ ?_
        clear hK K
        obtain ⟨fq0, fc, ff, fpost⟩ := fq
        refine wpAnyIn_ready (rs := [9]) (by kernel_rfl) (by simp) (AllReadyIn.cons rfl (fun K hK => ?_) AllReadyIn.nil)
        go_simp
        refine hK _ _ ?_
        clear hK K
        refine wpAnyIn_done (by kernel_rfl) ?_ _
        obtain ⟨ko, mx, db, fr, sz, bl⟩ := fpost
        have qd := db.cell
        gi_wp2
        refine ⟨ko, rfl, ?_, sz, bl⟩
        rw [HRo]
        exact mx
  case stop =>
    rintro D e W hD ⟨rfl, ⟨v, hbx, hrow⟩, hz, hB⟩ hK
    have q0 := hbx.cell
    obtain ⟨A, c', rfl, _⟩ := hrow.ow ((streamL_len key n nonce data).trans hdl)
    gi_wp2
    refine ⟨by simp, .inl ⟨_, _, rfl, run_takeDeferred hK, ?_⟩⟩
    refine ⟨_, results_tmp rfl _ _ _, ⟨A, c', rfl, ?_⟩, (hB.mono hpw).trans (belowK_b (w := w) (Nat.le_refl _) W D _ _ (by omega) hK rfl rfl)⟩
    have hr : Row (W.putObj D (.deferred none)) (p + 1) (.slice A 0 c') (streamL key n nonce data) := ⟨hrow.byte, ownsRow_putObj hrow.own _ hK rfl⟩
    exact hr.mono (by omega)
end Go.Proofs.YtabhcolfkkfonaaGreatDoor

/-! FitP -/
/- StreamBlock of the program. -/
namespace Go.Proofs.YtabhcolfkkfonaaGreatDoor
open Go.RowKit

theorem fitsStream_any (A : Option Addr) (n1 c1 : Nat) (k : Int) (A2 : Option Addr) (n2 c2 : Nat) (w : World) :
    Calls Tryz.prog 163 #[.slice A n1 c1, .int .i64 k, .slice A2 n2 c2] w fun e w' => e = .returned (.bool (askOk n1 k n2)) ∧ w' = w := by
  by_cases h1 : n1 = 32
  · by_cases h2 : n2 = 12
    · subst h1 h2
      by_cases h3 : 0 ≤ k
      · by_cases h4 : k ≤ 1000000
        · have e : askOk 32 k 12 = true := by simp [askOk, inB, h3, h4]
          rw [e]
          go_enter Tryz.func163, Tryz.ntmps163
          go_wp2
          go_ret
          exact ⟨rfl, rfl⟩
        · have e : askOk 32 k 12 = false := by simp [askOk, inB, h4]
          rw [e]
          go_enter Tryz.func163, Tryz.ntmps163
          go_wp2
          go_ret
          exact ⟨rfl, rfl⟩
      · have e : askOk 32 k 12 = false := by simp [askOk, inB, h3]
        rw [e]
        go_enter Tryz.func163, Tryz.ntmps163
        go_wp2
        go_ret
        exact ⟨rfl, rfl⟩
    · have e : askOk n1 k n2 = false := by simp [askOk, h2]
      rw [e]
      subst h1
      have hi : ¬ (n2 : Int) = 12 := by omega
      go_enter Tryz.func163, Tryz.ntmps163
      go_wp2
      go_ret
      exact ⟨rfl, rfl⟩
  · have e : askOk n1 k n2 = false := by simp [askOk, h1]
    rw [e]
    have hi : ¬ (n1 : Int) = 32 := by omega
    go_enter Tryz.func163, Tryz.ntmps163
    go_wp2
    go_ret
    exact ⟨rfl, rfl⟩

theorem ask_three {n1 : Nat} {k : Int} {n2 : Nat} (h : askOk n1 k n2 = false) (s : Int) : askCode n1 k n2 s = 3 := by simp [askCode, h]
theorem ask_ok {n1 : Nat} {k : Int} {n2 : Nat} (h : askOk n1 k n2 = true) : n1 = 32 ∧ n2 = 12 ∧ 0 ≤ k ∧ k ≤ 1000000 := by
  simp [askOk, inB] at h
  exact ⟨h.1.1, h.1.2, h.2.1, h.2.2⟩

end Go.Proofs.YtabhcolfkkfonaaGreatDoor

/-! StxP -/
/- StreamXor of the program. -/
namespace Go.Proofs.YtabhcolfkkfonaaGreatDoor
open Go.RowKit

theorem streamed_any (b off c b2 off2 c2 : Nat) (A3 : Option Addr) (m c3 : Nat) (key nonce data : List Int) (n : Int) (w : World) (hT : Quar w) (hk : Bs w (some ⟨b, off, none⟩) 32 key) (hc : 32 ≤ c) (hno : Bs w (some ⟨b2, off2, none⟩) 12 nonce) (hc2 : 12 ≤ c2) (hd : Bs w A3 m data) (hc3 : m ≤ c3) (hcn : A3 = none → c3 = 0) (hm : m ≤ 2000) (h0 : 0 ≤ n ∧ n ≤ 1000000) :
    Calls Tryz.prog 164 #[.slice (some ⟨b, off, none⟩) 32 c, .int .u32 n, .slice (some ⟨b2, off2, none⟩) 12 c2, .slice A3 m c3] w fun e w' =>
      (∃ A c', e = .returned (.slice A m c') ∧ Row w' w.heap.size (.slice A m c') (streamL key n nonce data)) ∧ Below w.heap.size w w' := by
  by_cases hz : c3 = 0
  · subst hz
    obtain rfl : m = 0 := by omega
    exact (callsIn_wide (n := 6)).1 (streamedz_in Fence.wide 6 (fun _ => trivial) (fun _ _ _ _ _ hc => callsIn_wide.2 hc) rfl (by omega) b off c b2 off2 c2 A3 key nonce data n w hT hk hc hno hc2 hd h0)
  · by_cases hm0 : m = 0
    · subst hm0
      rcases A3 with _ | ⟨b3, off3, t3⟩
      · exact absurd (hcn rfl) hz
      · exact (callsIn_wide (n := 6)).1 (streamedy_in Fence.wide 6 (fun _ => trivial) (fun _ _ _ _ _ hc => callsIn_wide.2 hc) rfl (by omega) b off c b2 off2 c2 b3 off3 t3 c3 key nonce data n w hT hk hc hno hc2 hz hd h0)
    · obtain ⟨b3, off3, rfl, _⟩ := hd.at_ (by omega)
      exact (callsIn_wide (n := 6)).1 (streamed_in Fence.wide 6 (fun _ => trivial) (fun _ _ _ _ _ hc => callsIn_wide.2 hc) rfl (by omega) b off c b2 off2 c2 b3 off3 m c3 key nonce data n w hT hk hc hno hc2 hd hc3 (by omega) hm h0)

theorem ask_two {n1 : Nat} {k : Int} {n2 : Nat} {s : Int} (h : askOk n1 k n2 = true) (hs : 1000 < s) : askCode n1 k n2 s = 2 := by simp [askCode, h]; omega

end Go.Proofs.YtabhcolfkkfonaaGreatDoor
