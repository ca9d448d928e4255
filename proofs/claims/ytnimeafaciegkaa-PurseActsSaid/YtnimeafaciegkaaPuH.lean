/- A purse's functions: Held, Total: loops over a map. -/
import Derived.Test.YtnimeafaciegkaaPuP
namespace Go.Proofs.Ytnimeafaciegkaa
open Go.RowKit Go.Maps
set_option linter.unusedVariables false
set_option maxRecDepth 100000

/-- What has been met of it so far. -/
def met (f : Nat × Nat → Nat) (h : Nat → Nat × Nat) (left : Lit → Bool) : Nat := sumN (fun i => if left (.int .i64 (i : Int)) then 0 else f (h i)) 32
theorem met_start {f : Nat × Nat → Nat} {h : Nat → Nat × Nat} {left : Lit → Bool} (hl : ∀ i : Nat, i < 32 → left (.int .i64 (i : Int)) = decide (0 < (h i).2)) (h0 : ∀ i : Nat, i < 32 → (h i).2 = 0 → f (h i) = 0) : met f h left = 0 :=
  sumN_zero fun i hi => by
    simp only [hl i hi]
    by_cases e : 0 < (h i).2
    · simp [e]
    · simp only [decide_eq_false e, Bool.false_eq_true, if_false]
      exact h0 i hi (by omega)
theorem met_step {f : Nat × Nat → Nat} {h : Nat → Nat × Nat} {left left' : Lit → Bool} {i : Nat} (hi : i < 32) (h1 : left (.int .i64 (i : Int)) = true) (h2 : left' (.int .i64 (i : Int)) = false) (h3 : ∀ j : Nat, j ≠ i → left' (.int .i64 (j : Int)) = left (.int .i64 (j : Int))) : met f h left' = met f h left + f (h i) := by
  have := sumN_at (xs := fun j => if left' (.int .i64 (j : Int)) then 0 else f (h j)) (ys := fun j => if left (.int .i64 (j : Int)) then 0 else f (h j)) hi (fun j _ hj => by simp only [h3 j hj])
  simp only [h1, h2, if_true, Bool.false_eq_true, if_false] at this
  unfold met
  omega
theorem met_end {f : Nat × Nat → Nat} {h : Nat → Nat × Nat} {left : Lit → Bool} (hl : ∀ kl, left kl = false) : met f h left = sumN (fun i => f (h i)) 32 :=
  sumN_congr fun i _ => by simp only [hl, Bool.false_eq_true, if_false]
theorem met_le (f : Nat × Nat → Nat) (h : Nat → Nat × Nat) (left : Lit → Bool) : met f h left ≤ sumN (fun i => f (h i)) 32 := by
  have key : ∀ n, sumN (fun i => if left (.int .i64 (i : Int)) then 0 else f (h i)) n ≤ sumN (fun i => f (h i)) n := by
    intro n
    induction n with
    | zero => exact Nat.le_refl _
    | succ n ih =>
      show _ + (if left (.int .i64 (n : Int)) then 0 else f (h n)) ≤ _ + f (h n)
      split <;> omega
  exact key 32

set_option maxHeartbeats 2000000 in
theorem held_any {p g m cap : Nat} {s : Ps} {w : World} (W : s.Wf) (h : PuAt p g m cap s w) (a : Int) : Calls Try.prog 21 #[.pointer (some ⟨p, 0, none⟩), .int .i64 a] w fun e w' =>
    e = .returned (.tuple #[.int .u64 ((if s.has a then s.held a else 0 : Nat) : Int), .int .i64 (if s.has a then 0 else 3)]) ∧ Fr No w w' := by
  have HC := Lib.hid (has_any h W.b2 a)
  obtain ⟨y, hy⟩ : ∃ y, y = s.has a := ⟨_, rfl⟩
  rw [← hy] at HC ⊢
  cases y with
  | false =>
    clear h W hy
    go_enter Try.func21, Try.ntmps21
    go_wp2_with fail
    refine HC.out.mono ?_
    rintro e w1 ⟨rfl, rfl⟩
    go_wp2
    go_ret2
    exact ⟨rfl, Fr.refl _ _⟩
  | true =>
    have c1 := h.cell1
    have HM := Lib.hid h.map
    have HT : Hid (s.held a ≤ 1125899906842624) := Lib.hid (Nat.le_trans (Ps.held_le s a) W.top)
    obtain ⟨T, hT⟩ : ∃ T, T = s.held a := ⟨_, rfl⟩
    have HTT : Hid (T = sumN (fun i => Ps.heldF a (s.hold i)) 32) := Lib.hid hT
    rw [← hT] at HT
    rw [if_pos rfl, if_pos rfl, ← hT]
    clear h W hy hT
    go_enter Try.func21, Try.ntmps21
    go_wp2_with fail
    refine HC.out.mono ?_
    rintro e w1 ⟨rfl, rfl⟩
    obtain ⟨r, hr⟩ : ∃ r, r = w.heap.size := ⟨_, rfl⟩
    have HR := Lib.hid hr
    go_wp2_with (first | (at_range; refine wpList_range_PM _ rfl _ rfl m s.hold rfl HM.out ?_; intro w0 left cnt hl hrg hF0; have HL := Lib.hid hl; have HG := Lib.hid hrg; have HF0 := Lib.hid hF0; clear hl hrg hF0) | go_in)
    go_frame
    rw [← HR.out] at HG ⊢
    clear hr c1
    go_loopw [6] (fun v wr => ∃ (V : Nat) (left : Lit → Bool) (cnt : Nat), v = .int .u64 V ∧ V = met (Ps.heldF a) s.hold left ∧ PMR wr m r s.hold left cnt ∧ Fr No w wr) (fun _ wr => wr.rangeLeft m r)
    case atStart => exact ⟨0, left, cnt, rfl, (met_start HL.out (fun i _ h0 => by unfold Ps.heldF; split <;> omega)).symm, HG.out, HF0.out⟩
    case round =>
      obtain ⟨V, left, cnt, rfl, hV, hrg, hFr⟩ := hrel
      have HV := Lib.hid hV
      have HG := Lib.hid hrg
      have HFr := Lib.hid hFr
      clear hV hrg hFr HL
      go_wp2_with (first | (at_next; refine wpList_next_PM _ rfl _ rfl m r s.hold _ _ rfl HG.out ?_ ?_) | go_in)
      · intro hl0
        have HE : Hid (V = T) := Lib.hid (by rw [HV.out, met_end hl0, HTT.out])
        clear hl0
        go_wp2
        go_ret2
        exact ⟨by rw [HE.out]; rfl, HFr.out⟩
      · intro i w1 left' cnt' hi hp h1 h2 h3 hrg' hlt hF1 hen
        obtain ⟨x, hx⟩ : ∃ x, x = s.hold i := ⟨_, rfl⟩
        have hstep := met_step (f := Ps.heldF a) (h := s.hold) hi h1 h2 h3
        have hle := met_le (Ps.heldF a) s.hold left'
        rw [← HV.out] at hstep
        rw [← HTT.out] at hle
        rw [← hx] at hen hstep ⊢
        have HG' := Lib.hid hrg'
        have HF1 : Hid (Fr No w w1) := Lib.hid (HFr.out.trans' hF1 (fun k hk e => by have := HR.out; omega))
        have HRm : Hid (r < w1.heap.size ∧ m < w1.heap.size) := Lib.hid (by
          obtain ⟨D, o, _⟩ := hrg'
          exact ⟨o.lt, o.owns.lt⟩)
        have HLT := Lib.hid hlt
        obtain ⟨x1, x2⟩ := x
        clear hi hp h1 h2 h3 hrg' hlt hF1 hx
        by_cases ha : (x1 : Int) = a
        · have t0 : ((x1 : Int) == a) = true := by rw [ha]; simp
          have e1 : Ps.heldF a (x1, x2) = x2 := if_pos ha
          rw [e1] at hstep
          obtain ⟨V', hV'⟩ : ∃ v, v = met (Ps.heldF a) s.hold left' := ⟨_, rfl⟩
          rw [← hV'] at hstep hle
          have HV' := Lib.hid hV'
          have s1 : (V : Int) + (x2 : Int) = (V' : Int) := by omega
          have l1 := wrapU V' (by have := HT.out; omega)
          clear ha e1 hstep hle hV' HV
          go_wp2
          exact ⟨⟨V', left', cnt', rfl, HV'.out, HG'.out.fr ((Fr.refl No _).alloc _) id id, HF1.out.alloc _⟩, by
            have e2 := (HG'.out.fr ((Fr.refl No w1).alloc (.cells #[.int .i64 (x1 : Int), .int .u64 (x2 : Int)] 69)) id id).left_eq
            rw [HG.out.left_eq, e2]
            exact HLT.out⟩
        · have t0 : ((x1 : Int) == a) = false := by rw [beq_eq_false_iff_ne]; exact ha
          have e1 : Ps.heldF a (x1, x2) = 0 := if_neg ha
          rw [e1] at hstep
          have HV' : Hid (V = met (Ps.heldF a) s.hold left') := Lib.hid (by omega)
          clear ha e1 hstep hle HV
          go_wp2
          exact ⟨⟨V, left', cnt', rfl, HV'.out, HG'.out.fr ((Fr.refl No _).alloc _) id id, HF1.out.alloc _⟩, by
            have e2 := (HG'.out.fr ((Fr.refl No w1).alloc (.cells #[.int .i64 (x1 : Int), .int .u64 (x2 : Int)] 69)) id id).left_eq
            rw [HG.out.left_eq, e2]
            exact HLT.out⟩

set_option maxHeartbeats 2000000 in
theorem total_any {p g m cap : Nat} {s : Ps} {w : World} (W : s.Wf) (h : PuAt p g m cap s w) : Calls Try.prog 18 #[.pointer (some ⟨p, 0, none⟩)] w fun e w' => e = .returned (.int .u64 (s.total : Int)) ∧ Fr No w w' := by
  have c0 := h.cell0
  have HA := Lib.hid h
  obtain ⟨S, hS⟩ : ∃ S, S = sumN s.bal s.b.length := ⟨_, rfl⟩
  have hS50 : S ≤ 1125899906842624 := by have := W.top; unfold Ps.total at this; omega
  have HC := Lib.hid (add_any (some ⟨g, 0, none⟩) s.b.length cap s.bal w (by have := W.b2; unfold maxLen; omega) (fun i hi => ⟨⟨g, 0, none⟩, rfl, by rw [Addr.add_lit, Nat.zero_add]; exact (h.row i hi).1, by have := Ps.bal_le hi; have := W.top; omega⟩))
  rw [← hS, addV_le hS50, addE_le hS50] at HC
  obtain ⟨T, hT⟩ : ∃ T, T = s.total := ⟨_, rfl⟩
  have HTT : Hid (T = S + sumN (fun i => (s.hold i).2) 32) := Lib.hid (by rw [hT, hS]; rfl)
  have HT : Hid (T ≤ 1125899906842624) := Lib.hid (by rw [hT]; exact W.top)
  rw [← hT]
  obtain ⟨L, hL⟩ : ∃ L, L = s.b.length := ⟨_, rfl⟩
  rw [← hL] at HC c0
  clear h W hT hS hS50 hL
  go_enter Try.func18, Try.ntmps18
  go_wp2_with fail
  refine HC.out.mono ?_
  rintro e w1 ⟨rfl, hF1⟩
  have HA1 := Lib.hid (HA.out.no hF1)
  have HF1 := Lib.hid hF1
  have c1 := HA1.out.cell1
  have HM := Lib.hid HA1.out.map
  obtain ⟨r, hr⟩ : ∃ r, r = w1.heap.size := ⟨_, rfl⟩
  have HR := Lib.hid hr
  clear hF1 c0 hr HC HA
  go_wp2_with (first | (at_range; refine wpList_range_PM _ rfl _ rfl m s.hold rfl HM.out ?_; intro w0 left cnt hl hrg hF0; have HL := Lib.hid hl; have HG := Lib.hid hrg; have HF0 := Lib.hid (HF1.out.trans hF0); clear hl hrg hF0) | go_in)
  go_frame
  rw [← HR.out] at HG ⊢
  clear c1
  go_loopw [3] (fun v wr => ∃ (V : Nat) (left : Lit → Bool) (cnt : Nat), v = .int .u64 V ∧ V = S + met (·.2) s.hold left ∧ PMR wr m r s.hold left cnt ∧ Fr No w wr) (fun _ wr => wr.rangeLeft m r)
  case atStart => exact ⟨S, left, cnt, rfl, by rw [met_start HL.out (fun i _ h0 => h0)]; rfl, HG.out, HF0.out⟩
  case round =>
    obtain ⟨V, left, cnt, rfl, hV, hrg, hFr⟩ := hrel
    have HV := Lib.hid hV
    have HG := Lib.hid hrg
    have HFr := Lib.hid hFr
    clear hV hrg hFr HL
    go_wp2_with (first | (at_next; refine wpList_next_PM _ rfl _ rfl m r s.hold _ _ rfl HG.out ?_ ?_) | go_in)
    · intro hl0
      have HE : Hid (V = T) := Lib.hid (by rw [HV.out, met_end hl0, HTT.out])
      clear hl0
      go_wp2
      go_ret
      exact ⟨by rw [HE.out]; rfl, HFr.out⟩
    · intro i w2 left' cnt' hi hp h1 h2 h3 hrg' hlt hF1' hen
      obtain ⟨x, hx⟩ : ∃ x, x = s.hold i := ⟨_, rfl⟩
      have hstep := met_step (f := (·.2)) (h := s.hold) hi h1 h2 h3
      have hle := met_le (·.2) s.hold left'
      rw [← hx] at hen hstep ⊢
      have HG' := Lib.hid hrg'
      have HF2 : Hid (Fr No w w2) := Lib.hid (HFr.out.trans' hF1' (fun k hk e => by have := HR.out; have := HF1.out.size; omega))
      have HRm : Hid (r < w2.heap.size ∧ m < w2.heap.size) := Lib.hid (by
        obtain ⟨D, o, _⟩ := hrg'
        exact ⟨o.lt, o.owns.lt⟩)
      have HLT := Lib.hid hlt
      obtain ⟨x1, x2⟩ := x
      obtain ⟨V', hV'⟩ : ∃ v, v = S + met (·.2) s.hold left' := ⟨_, rfl⟩
      have HV' := Lib.hid hV'
      have s1 : (V : Int) + (x2 : Int) = (V' : Int) := by
        have := HV.out
        simp only at hstep
        omega
      have l1 := wrapU V' (by have := HT.out; have := HTT.out; omega)
      clear hi hp h1 h2 h3 hrg' hlt hF1' hx hstep hle hV' HV
      go_wp2
      exact ⟨⟨V', left', cnt', rfl, HV'.out, HG'.out.fr ((Fr.refl No _).alloc _) id id, HF2.out.alloc _⟩, by
        have e2 := (HG'.out.fr ((Fr.refl No w2).alloc (.cells #[.int .i64 (x1 : Int), .int .u64 (x2 : Int)] 69)) id id).left_eq
        rw [HG.out.left_eq, e2]
        exact HLT.out⟩
end Go.Proofs.Ytnimeafaciegkaa
