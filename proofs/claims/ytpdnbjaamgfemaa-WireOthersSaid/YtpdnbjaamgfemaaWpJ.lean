/- Whether a message may be: the program's. -/
import Derived.Test.YtpdnbjaamgfemaaWpI
namespace Go.Proofs.Ytpdnbjaamgfemaa
open Go.RowKit
set_option linter.unusedVariables false
set_option maxRecDepth 100000

set_option maxHeartbeats 1000000 in
theorem wmay_b0 (k : Int) (c i a : Nat) (h : List UInt8) (e n : Int) (w : World) (hl : h.length = 32) (hj : ¬ 0 ≤ e) :
    Calls Try.prog 10 #[vM ⟨k, c, i, a, h, e, n⟩] w fun ex w' => ex = .returned (.bool false) ∧ Fr No w w' := by
  have hB := Blk.new w 27 (cellsM ⟨k, c, i, a, h, e, n⟩)
  have c3 := msg_a hB
  have c36 := msg_e hB hl
  have c37 := msg_n hB hl
  dsimp only at c3 c36 c37
  have t0 : decide (0 ≤ e) = false := decide_eq_false hj
  clear hj hB hl
  go_enter Try.func10, Try.ntmps10
  go_wp2
  go_ret
  exact ⟨rfl, (Fr.refl No w).alloc _⟩

set_option maxHeartbeats 1000000 in
theorem wmay_b1 (k : Int) (c i a : Nat) (h : List UInt8) (e n : Int) (w : World) (hl : h.length = 32) (g0 : 0 ≤ e) (hj : ¬ e ≤ 1073741824) :
    Calls Try.prog 10 #[vM ⟨k, c, i, a, h, e, n⟩] w fun ex w' => ex = .returned (.bool false) ∧ Fr No w w' := by
  have hB := Blk.new w 27 (cellsM ⟨k, c, i, a, h, e, n⟩)
  have c3 := msg_a hB
  have c36 := msg_e hB hl
  have c37 := msg_n hB hl
  dsimp only at c3 c36 c37
  have t0 : decide (0 ≤ e) = true := decide_eq_true g0
  have t1 : decide (e ≤ 1073741824) = false := decide_eq_false hj
  clear hj hB hl g0
  go_enter Try.func10, Try.ntmps10
  go_wp2
  go_ret
  exact ⟨rfl, (Fr.refl No w).alloc _⟩

set_option maxHeartbeats 1000000 in
theorem wmay_b2 (k : Int) (c i a : Nat) (h : List UInt8) (e n : Int) (w : World) (hl : h.length = 32) (g0 : 0 ≤ e) (g1 : e ≤ 1073741824) (hj : ¬ 0 ≤ n) :
    Calls Try.prog 10 #[vM ⟨k, c, i, a, h, e, n⟩] w fun ex w' => ex = .returned (.bool false) ∧ Fr No w w' := by
  have hB := Blk.new w 27 (cellsM ⟨k, c, i, a, h, e, n⟩)
  have c3 := msg_a hB
  have c36 := msg_e hB hl
  have c37 := msg_n hB hl
  dsimp only at c3 c36 c37
  have t0 : decide (0 ≤ e) = true := decide_eq_true g0
  have t1 : decide (e ≤ 1073741824) = true := decide_eq_true g1
  have t2 : decide (0 ≤ n) = false := decide_eq_false hj
  clear hj hB hl g0 g1
  go_enter Try.func10, Try.ntmps10
  go_wp2
  go_ret
  exact ⟨rfl, (Fr.refl No w).alloc _⟩

set_option maxHeartbeats 1000000 in
theorem wmay_b3 (k : Int) (c i a : Nat) (h : List UInt8) (e n : Int) (w : World) (hl : h.length = 32) (g0 : 0 ≤ e) (g1 : e ≤ 1073741824) (g2 : 0 ≤ n) (hj : ¬ n ≤ 65535) :
    Calls Try.prog 10 #[vM ⟨k, c, i, a, h, e, n⟩] w fun ex w' => ex = .returned (.bool false) ∧ Fr No w w' := by
  have hB := Blk.new w 27 (cellsM ⟨k, c, i, a, h, e, n⟩)
  have c3 := msg_a hB
  have c36 := msg_e hB hl
  have c37 := msg_n hB hl
  dsimp only at c3 c36 c37
  have t0 : decide (0 ≤ e) = true := decide_eq_true g0
  have t1 : decide (e ≤ 1073741824) = true := decide_eq_true g1
  have t2 : decide (0 ≤ n) = true := decide_eq_true g2
  have t3 : decide (n ≤ 65535) = false := decide_eq_false hj
  clear hj hB hl g0 g1 g2
  go_enter Try.func10, Try.ntmps10
  go_wp2
  go_ret
  exact ⟨rfl, (Fr.refl No w).alloc _⟩

set_option maxHeartbeats 1000000 in
theorem wmay_b4 (k : Int) (c i a : Nat) (h : List UInt8) (e n : Int) (w : World) (hl : h.length = 32) (g0 : 0 ≤ e) (g1 : e ≤ 1073741824) (g2 : 0 ≤ n) (g3 : n ≤ 65535) (hj : ¬ (a : Int) ≤ 1125899906842624) :
    Calls Try.prog 10 #[vM ⟨k, c, i, a, h, e, n⟩] w fun ex w' => ex = .returned (.bool false) ∧ Fr No w w' := by
  have hB := Blk.new w 27 (cellsM ⟨k, c, i, a, h, e, n⟩)
  have c3 := msg_a hB
  have c36 := msg_e hB hl
  have c37 := msg_n hB hl
  dsimp only at c3 c36 c37
  have t0 : decide (0 ≤ e) = true := decide_eq_true g0
  have t1 : decide (e ≤ 1073741824) = true := decide_eq_true g1
  have t2 : decide (0 ≤ n) = true := decide_eq_true g2
  have t3 : decide (n ≤ 65535) = true := decide_eq_true g3
  have t4 : decide ((a : Int) ≤ 1125899906842624) = false := decide_eq_false hj
  clear hj hB hl g0 g1 g2 g3
  go_enter Try.func10, Try.ntmps10
  go_wp2
  go_ret
  exact ⟨rfl, (Fr.refl No w).alloc _⟩

set_option maxHeartbeats 1000000 in
theorem wmay_b5 (k : Int) (c i a : Nat) (h : List UInt8) (e n : Int) (w : World) (hl : h.length = 32) (g0 : 0 ≤ e) (g1 : e ≤ 1073741824) (g2 : 0 ≤ n) (g3 : n ≤ 65535) (g4 : (a : Int) ≤ 1125899906842624) (y : Bool) (hy : ∀ X, Calls Try.prog 25 #[vM ⟨k, c, i, a, h, e, n⟩] X fun ex w' => ex = .returned (.bool y) ∧ Fr No X w') :
    Calls Try.prog 10 #[vM ⟨k, c, i, a, h, e, n⟩] w fun ex w' => ex = .returned (.bool y) ∧ Fr No w w' := by
  have hB := Blk.new w 27 (cellsM ⟨k, c, i, a, h, e, n⟩)
  have c3 := msg_a hB
  have c36 := msg_e hB hl
  have c37 := msg_n hB hl
  have HX := Lib.hid (msg_load hB hl mt_msg)
  have HY := Lib.hid hy
  dsimp only at c3 c36 c37
  have t0 : decide (0 ≤ e) = true := decide_eq_true g0
  have t1 : decide (e ≤ 1073741824) = true := decide_eq_true g1
  have t2 : decide (0 ≤ n) = true := decide_eq_true g2
  have t3 : decide (n ≤ 65535) = true := decide_eq_true g3
  have t4 : decide ((a : Int) ≤ 1125899906842624) = true := decide_eq_true g4
  clear hy hB hl g0 g1 g2 g3 g4
  go_enter Try.func10, Try.ntmps10
  go_wp2_with (refine wpList_load_eqG 27 _ rfl (.pointer (some ⟨w.heap.size, 0, none⟩)) (vM ⟨k, c, i, a, h, e, n⟩) rfl HX.out rfl ?_)
  refine (HY.out _).mono ?_
  rintro ex w1 ⟨rfl, hF⟩
  have HF := Lib.hid (((Fr.refl No w).alloc _).trans hF)
  clear hF HY
  go_wp2
  go_ret
  exact ⟨rfl, HF.out⟩

theorem wmay_any (m : Msg) (ok : m.Ok) (w : World) : Calls Try.prog 10 #[vM m] w fun ex w' => ex = .returned (.bool (may m)) ∧ Fr No w w' := by
  have ho := fun X => own_any m ok X
  obtain ⟨k, c, i, a, h, e, n⟩ := m
  have hl := ok.h
  dsimp only at hl
  have hb : may ⟨k, c, i, a, h, e, n⟩ = (decide (0 ≤ e ∧ e ≤ 1073741824 ∧ 0 ≤ n ∧ n ≤ 65535 ∧ (a : Int) ≤ 1125899906842624) && ownM ⟨k, c, i, a, h, e, n⟩) := by
    unfold may ownM boundOk
    rw [← Bool.and_assoc]
    congr 1
    rw [Bool.eq_iff_iff, Bool.and_eq_true, decide_eq_true_iff, decide_eq_true_iff, decide_eq_true_iff]
    constructor
    · rintro ⟨h1, h2, h3, h4, h5, h6, h7⟩
      dsimp only at h7
      exact ⟨⟨h3, h4, h5, h6, by omega⟩, h1, h2⟩
    · rintro ⟨⟨h3, h4, h5, h6, h7⟩, h1, h2⟩
      exact ⟨h1, h2, h3, h4, h5, h6, by dsimp only; omega⟩
  by_cases g0 : 0 ≤ e
  case neg =>
    rw [hb, decide_eq_false (by omega), Bool.false_and]
    exact wmay_b0 k c i a h e n w hl g0
  by_cases g1 : e ≤ 1073741824
  case neg =>
    rw [hb, decide_eq_false (by omega), Bool.false_and]
    exact wmay_b1 k c i a h e n w hl g0 g1
  by_cases g2 : 0 ≤ n
  case neg =>
    rw [hb, decide_eq_false (by omega), Bool.false_and]
    exact wmay_b2 k c i a h e n w hl g0 g1 g2
  by_cases g3 : n ≤ 65535
  case neg =>
    rw [hb, decide_eq_false (by omega), Bool.false_and]
    exact wmay_b3 k c i a h e n w hl g0 g1 g2 g3
  by_cases g4 : (a : Int) ≤ 1125899906842624
  case neg =>
    rw [hb, decide_eq_false (by omega), Bool.false_and]
    exact wmay_b4 k c i a h e n w hl g0 g1 g2 g3 g4
  rw [hb, decide_eq_true (by omega), Bool.true_and]
  exact wmay_b5 k c i a h e n w hl g0 g1 g2 g3 g4 _ ho
end Go.Proofs.Ytpdnbjaamgfemaa
