/- Whether a message may be: the document's. -/
import Derived.Test.YtpdnbjaamgfemaaWiF
namespace Go.Proofs.Ytpdnbjaamgfemaa
open Go.RowKit
set_option linter.unusedVariables false
set_option maxRecDepth 100000

theorem fields_len (k : Int) : (fieldsB k).length ≤ 4 := by
  unfold fieldsB
  repeat' split
  all_goals decide

theorem rmay_b0 (k : Int) (c i a : Nat) (h : List UInt8) (e n : Int) (w : World) (hl : h.length = 32) (hj : k < 1) :
    Calls Try.prog 11 #[vM ⟨k, c, i, a, h, e, n⟩] w fun ex w' => ex = .returned (.bool false) ∧ Fr No w w' := by
  have hB := Blk.new w 32 (cellsM ⟨k, c, i, a, h, e, n⟩)
  have c0 := msg_k hB
  have c2 := msg_i hB
  have c3 := msg_a hB
  have c36 := msg_e hB hl
  have c37 := msg_n hB hl
  have HLH := Lib.hid (msg_h hB hl)
  have HB := Lib.hid hB
  dsimp only at c0 c2 c3 c36 c37
  have t0 : decide (k < 1) = true := decide_eq_true hj
  clear hj hB hl
  go_enter Try.func11, Try.ntmps11
  go_wp2_with fail
  refine (rfields_any _ _).mono ?_
  rintro ex w1 ⟨rfl, hw⟩
  rw [hw]
  clear hw
  go_wp2
  go_ret
  exact ⟨rfl, (Fr.refl No w).alloc _⟩

theorem rmay_b1 (k : Int) (c i a : Nat) (h : List UInt8) (e n : Int) (w : World) (hl : h.length = 32) (g0 : ¬ k < 1) (hj : 9 < k) :
    Calls Try.prog 11 #[vM ⟨k, c, i, a, h, e, n⟩] w fun ex w' => ex = .returned (.bool false) ∧ Fr No w w' := by
  have hB := Blk.new w 32 (cellsM ⟨k, c, i, a, h, e, n⟩)
  have c0 := msg_k hB
  have c2 := msg_i hB
  have c3 := msg_a hB
  have c36 := msg_e hB hl
  have c37 := msg_n hB hl
  have HLH := Lib.hid (msg_h hB hl)
  have HB := Lib.hid hB
  dsimp only at c0 c2 c3 c36 c37
  have t0 : decide (k < 1) = false := decide_eq_false g0
  have t1 : decide (9 < k) = true := decide_eq_true hj
  clear hj hB hl g0
  go_enter Try.func11, Try.ntmps11
  go_wp2_with fail
  refine (rfields_any _ _).mono ?_
  rintro ex w1 ⟨rfl, hw⟩
  rw [hw]
  clear hw
  go_wp2
  go_ret
  exact ⟨rfl, (Fr.refl No w).alloc _⟩

theorem rmay_b2 (k : Int) (c i a : Nat) (h : List UInt8) (e n : Int) (w : World) (hl : h.length = 32) (g0 : ¬ k < 1) (g1 : ¬ 9 < k) (hj : e < 0) :
    Calls Try.prog 11 #[vM ⟨k, c, i, a, h, e, n⟩] w fun ex w' => ex = .returned (.bool false) ∧ Fr No w w' := by
  have hB := Blk.new w 32 (cellsM ⟨k, c, i, a, h, e, n⟩)
  have c0 := msg_k hB
  have c2 := msg_i hB
  have c3 := msg_a hB
  have c36 := msg_e hB hl
  have c37 := msg_n hB hl
  have HLH := Lib.hid (msg_h hB hl)
  have HB := Lib.hid hB
  dsimp only at c0 c2 c3 c36 c37
  have t0 : decide (k < 1) = false := decide_eq_false g0
  have t1 : decide (9 < k) = false := decide_eq_false g1
  have t2 : decide (e < 0) = true := decide_eq_true hj
  clear hj hB hl g0 g1
  go_enter Try.func11, Try.ntmps11
  go_wp2_with fail
  refine (rfields_any _ _).mono ?_
  rintro ex w1 ⟨rfl, hw⟩
  rw [hw]
  clear hw
  go_wp2
  go_ret
  exact ⟨rfl, (Fr.refl No w).alloc _⟩

theorem rmay_b3 (k : Int) (c i a : Nat) (h : List UInt8) (e n : Int) (w : World) (hl : h.length = 32) (g0 : ¬ k < 1) (g1 : ¬ 9 < k) (g2 : ¬ e < 0) (hj : 1073741824 < e) :
    Calls Try.prog 11 #[vM ⟨k, c, i, a, h, e, n⟩] w fun ex w' => ex = .returned (.bool false) ∧ Fr No w w' := by
  have hB := Blk.new w 32 (cellsM ⟨k, c, i, a, h, e, n⟩)
  have c0 := msg_k hB
  have c2 := msg_i hB
  have c3 := msg_a hB
  have c36 := msg_e hB hl
  have c37 := msg_n hB hl
  have HLH := Lib.hid (msg_h hB hl)
  have HB := Lib.hid hB
  dsimp only at c0 c2 c3 c36 c37
  have t0 : decide (k < 1) = false := decide_eq_false g0
  have t1 : decide (9 < k) = false := decide_eq_false g1
  have t2 : decide (e < 0) = false := decide_eq_false g2
  have t3 : decide (1073741824 < e) = true := decide_eq_true hj
  clear hj hB hl g0 g1 g2
  go_enter Try.func11, Try.ntmps11
  go_wp2_with fail
  refine (rfields_any _ _).mono ?_
  rintro ex w1 ⟨rfl, hw⟩
  rw [hw]
  clear hw
  go_wp2
  go_ret
  exact ⟨rfl, (Fr.refl No w).alloc _⟩

theorem rmay_b4 (k : Int) (c i a : Nat) (h : List UInt8) (e n : Int) (w : World) (hl : h.length = 32) (g0 : ¬ k < 1) (g1 : ¬ 9 < k) (g2 : ¬ e < 0) (g3 : ¬ 1073741824 < e) (hj : n < 0) :
    Calls Try.prog 11 #[vM ⟨k, c, i, a, h, e, n⟩] w fun ex w' => ex = .returned (.bool false) ∧ Fr No w w' := by
  have hB := Blk.new w 32 (cellsM ⟨k, c, i, a, h, e, n⟩)
  have c0 := msg_k hB
  have c2 := msg_i hB
  have c3 := msg_a hB
  have c36 := msg_e hB hl
  have c37 := msg_n hB hl
  have HLH := Lib.hid (msg_h hB hl)
  have HB := Lib.hid hB
  dsimp only at c0 c2 c3 c36 c37
  have t0 : decide (k < 1) = false := decide_eq_false g0
  have t1 : decide (9 < k) = false := decide_eq_false g1
  have t2 : decide (e < 0) = false := decide_eq_false g2
  have t3 : decide (1073741824 < e) = false := decide_eq_false g3
  have t4 : decide (n < 0) = true := decide_eq_true hj
  clear hj hB hl g0 g1 g2 g3
  go_enter Try.func11, Try.ntmps11
  go_wp2_with fail
  refine (rfields_any _ _).mono ?_
  rintro ex w1 ⟨rfl, hw⟩
  rw [hw]
  clear hw
  go_wp2
  go_ret
  exact ⟨rfl, (Fr.refl No w).alloc _⟩

theorem rmay_b5 (k : Int) (c i a : Nat) (h : List UInt8) (e n : Int) (w : World) (hl : h.length = 32) (g0 : ¬ k < 1) (g1 : ¬ 9 < k) (g2 : ¬ e < 0) (g3 : ¬ 1073741824 < e) (g4 : ¬ n < 0) (hj : 65535 < n) :
    Calls Try.prog 11 #[vM ⟨k, c, i, a, h, e, n⟩] w fun ex w' => ex = .returned (.bool false) ∧ Fr No w w' := by
  have hB := Blk.new w 32 (cellsM ⟨k, c, i, a, h, e, n⟩)
  have c0 := msg_k hB
  have c2 := msg_i hB
  have c3 := msg_a hB
  have c36 := msg_e hB hl
  have c37 := msg_n hB hl
  have HLH := Lib.hid (msg_h hB hl)
  have HB := Lib.hid hB
  dsimp only at c0 c2 c3 c36 c37
  have t0 : decide (k < 1) = false := decide_eq_false g0
  have t1 : decide (9 < k) = false := decide_eq_false g1
  have t2 : decide (e < 0) = false := decide_eq_false g2
  have t3 : decide (1073741824 < e) = false := decide_eq_false g3
  have t4 : decide (n < 0) = false := decide_eq_false g4
  have t5 : decide (65535 < n) = true := decide_eq_true hj
  clear hj hB hl g0 g1 g2 g3 g4
  go_enter Try.func11, Try.ntmps11
  go_wp2_with fail
  refine (rfields_any _ _).mono ?_
  rintro ex w1 ⟨rfl, hw⟩
  rw [hw]
  clear hw
  go_wp2
  go_ret
  exact ⟨rfl, (Fr.refl No w).alloc _⟩

theorem rmay_b6 (k : Int) (c i a : Nat) (h : List UInt8) (e n : Int) (w : World) (hl : h.length = 32) (g0 : ¬ k < 1) (g1 : ¬ 9 < k) (g2 : ¬ e < 0) (g3 : ¬ 1073741824 < e) (g4 : ¬ n < 0) (g5 : ¬ 65535 < n) (hj : (1125899906842624 : Int) < (a : Int)) :
    Calls Try.prog 11 #[vM ⟨k, c, i, a, h, e, n⟩] w fun ex w' => ex = .returned (.bool false) ∧ Fr No w w' := by
  have hB := Blk.new w 32 (cellsM ⟨k, c, i, a, h, e, n⟩)
  have c0 := msg_k hB
  have c2 := msg_i hB
  have c3 := msg_a hB
  have c36 := msg_e hB hl
  have c37 := msg_n hB hl
  have HLH := Lib.hid (msg_h hB hl)
  have HB := Lib.hid hB
  dsimp only at c0 c2 c3 c36 c37
  have t0 : decide (k < 1) = false := decide_eq_false g0
  have t1 : decide (9 < k) = false := decide_eq_false g1
  have t2 : decide (e < 0) = false := decide_eq_false g2
  have t3 : decide (1073741824 < e) = false := decide_eq_false g3
  have t4 : decide (n < 0) = false := decide_eq_false g4
  have t5 : decide (65535 < n) = false := decide_eq_false g5
  have t6 : decide ((1125899906842624 : Int) < (a : Int)) = true := decide_eq_true hj
  clear hj hB hl g0 g1 g2 g3 g4 g5
  go_enter Try.func11, Try.ntmps11
  go_wp2_with fail
  refine (rfields_any _ _).mono ?_
  rintro ex w1 ⟨rfl, hw⟩
  rw [hw]
  clear hw
  go_wp2
  go_ret
  exact ⟨rfl, (Fr.refl No w).alloc _⟩

set_option maxHeartbeats 4000000 in
theorem rmay_rest (k : Int) (c i a : Nat) (h : List UInt8) (e n : Int) (w : World) (hl : h.length = 32) (g0 : ¬ k < 1) (g1 : ¬ 9 < k) (g2 : ¬ e < 0) (g3 : ¬ 1073741824 < e) (g4 : ¬ n < 0) (g5 : ¬ 65535 < n) (g6 : ¬ (1125899906842624 : Int) < (a : Int)) (f1 f2 f3 f4 f5 z1 z2 z3 z4 z5 : Bool)
    (hf1 : inB (fieldsB k) 105 = f1) (hf2 : inB (fieldsB k) 97 = f2) (hf3 : inB (fieldsB k) 104 = f3) (hf4 : inB (fieldsB k) 101 = f4) (hf5 : inB (fieldsB k) 110 = f5)
    (t1 : ((i : Int) == 0) = z1) (t2 : ((a : Int) == 0) = z2) (t3 : (h == zeroH) = z3) (t4 : (e == 0) = z4) (t5 : (n == 0) = z5) :
    Calls Try.prog 11 #[vM ⟨k, c, i, a, h, e, n⟩] w fun ex w' => ex = .returned (.bool ((f1 || z1) && (f2 || z2) && (f3 || z3) && (f4 || z4) && (f5 || z5))) ∧ Fr No w w' := by
  have hB := Blk.new w 32 (cellsM ⟨k, c, i, a, h, e, n⟩)
  have c0 := msg_k hB
  have c2 := msg_i hB
  have c3 := msg_a hB
  have c36 := msg_e hB hl
  have c37 := msg_n hB hl
  have HLH := Lib.hid (msg_h hB hl)
  have HB := Lib.hid hB
  dsimp only at c0 c2 c3 c36 c37
  have b0 : decide (k < 1) = false := decide_eq_false g0
  have b1 : decide (9 < k) = false := decide_eq_false g1
  have b2 : decide (e < 0) = false := decide_eq_false g2
  have b3 : decide (1073741824 < e) = false := decide_eq_false g3
  have b4 : decide (n < 0) = false := decide_eq_false g4
  have b5 : decide (65535 < n) = false := decide_eq_false g5
  have b6 : decide ((1125899906842624 : Int) < (a : Int)) = false := decide_eq_false g6
  obtain ⟨s, hs⟩ : ∃ s, s = str (fieldsB k) := ⟨_, rfl⟩
  have HF := Lib.hid (fun X => rfields_any k X)
  rw [← hs] at HF
  have H1 : Hid (∀ X, Calls Try.prog 26 #[.string s, .int .u8 105] X fun ex w' => ex = .returned (.bool f1) ∧ w' = X) := Lib.hid (fun X => by
    have := rin_any (fieldsB k) 105 X (by have := fields_len k; omega)
    rwa [hf1, ← hs] at this)
  have H2 : Hid (∀ X, Calls Try.prog 26 #[.string s, .int .u8 97] X fun ex w' => ex = .returned (.bool f2) ∧ w' = X) := Lib.hid (fun X => by
    have := rin_any (fieldsB k) 97 X (by have := fields_len k; omega)
    rwa [hf2, ← hs] at this)
  have H3 : Hid (∀ X, Calls Try.prog 26 #[.string s, .int .u8 104] X fun ex w' => ex = .returned (.bool f3) ∧ w' = X) := Lib.hid (fun X => by
    have := rin_any (fieldsB k) 104 X (by have := fields_len k; omega)
    rwa [hf3, ← hs] at this)
  have H4 : Hid (∀ X, Calls Try.prog 26 #[.string s, .int .u8 101] X fun ex w' => ex = .returned (.bool f4) ∧ w' = X) := Lib.hid (fun X => by
    have := rin_any (fieldsB k) 101 X (by have := fields_len k; omega)
    rwa [hf4, ← hs] at this)
  have H5 : Hid (∀ X, Calls Try.prog 26 #[.string s, .int .u8 110] X fun ex w' => ex = .returned (.bool f5) ∧ w' = X) := Lib.hid (fun X => by
    have := rin_any (fieldsB k) 110 X (by have := fields_len k; omega)
    rwa [hf5, ← hs] at this)
  have HE : Hid (∀ X : World, (binOp .eql 25 (.agg (h.map u8v).toArray) (.agg (zeroH.map u8v).toArray)).run Try.prog X = .ok (.bool z3) X) := Lib.hid (fun X => by rw [eql_hashM h zeroH hl (by rfl), t3])
  obtain ⟨y, hy⟩ : ∃ y, y = ((f1 || z1) && (f2 || z2) && (f3 || z3) && (f4 || z4) && (f5 || z5)) := ⟨_, rfl⟩
  rw [← hy]
  have HY := Lib.hid hy
  clear hy hs hB hl t3 hf1 hf2 hf3 hf4 hf5 g0 g1 g2 g3 g4 g5 g6
  go_enter Try.func11, Try.ntmps11
  go_wp2_with fail
  refine (HF.out _).mono ?_
  rintro ex w1 ⟨rfl, hw⟩
  rw [hw]
  clear hw HF
  go_wp2_with fail
  refine (H1.out _).mono ?_
  rintro ex w1 ⟨rfl, hw⟩
  rw [hw]
  clear hw
  cases f1 with
  | true =>
    go_wp2_with fail
    refine (H2.out _).mono ?_
    rintro ex w1 ⟨rfl, hw⟩
    rw [hw]
    clear hw
    cases f2 with
    | true =>
      go_wp2_with fail
      refine (H3.out _).mono ?_
      rintro ex w1 ⟨rfl, hw⟩
      rw [hw]
      clear hw
      cases f3 with
      | true =>
        go_wp2_with (first
    | (refine wpList_load_eqG 25 _ rfl (.pointer (some ⟨w.heap.size, 4, none⟩)) (.agg (h.map u8v).toArray) rfl HLH.out rfl ?_)
    | (refine wpList_execG (.bool z3) (exec_bin .eql 25 (.tmp 61) (.tmp 62) 25 rfl (.agg (h.map u8v).toArray) (.agg (zeroH.map u8v).toArray) _ rfl rfl (by kernel_rfl) (HE.out _)) rfl ?_))
        refine (H4.out _).mono ?_
        rintro ex w1 ⟨rfl, hw⟩
        rw [hw]
        clear hw
        cases f4 with
        | true =>
          go_wp2_with fail
          refine (H5.out _).mono ?_
          rintro ex w1 ⟨rfl, hw⟩
          rw [hw]
          clear hw
          cases f5 with
          | true =>
            go_wp2
            go_ret
            exact ⟨by rw [HY.out]; simp, (Fr.refl No w).alloc _⟩
          | false =>
            cases z5 with
            | true =>
              go_wp2
              go_ret
              exact ⟨by rw [HY.out]; simp, (Fr.refl No w).alloc _⟩
            | false =>
              go_wp2
              go_ret
              exact ⟨by rw [HY.out]; simp, (Fr.refl No w).alloc _⟩
        | false =>
          cases z4 with
          | true =>
            go_wp2_with fail
            refine (H5.out _).mono ?_
            rintro ex w1 ⟨rfl, hw⟩
            rw [hw]
            clear hw
            cases f5 with
            | true =>
              go_wp2
              go_ret
              exact ⟨by rw [HY.out]; simp, (Fr.refl No w).alloc _⟩
            | false =>
              cases z5 with
              | true =>
                go_wp2
                go_ret
                exact ⟨by rw [HY.out]; simp, (Fr.refl No w).alloc _⟩
              | false =>
                go_wp2
                go_ret
                exact ⟨by rw [HY.out]; simp, (Fr.refl No w).alloc _⟩
          | false =>
            go_wp2
            go_ret
            exact ⟨by rw [HY.out]; simp, (Fr.refl No w).alloc _⟩
      | false =>
        cases z3 with
        | true =>
          go_wp2_with (first
    | (refine wpList_load_eqG 25 _ rfl (.pointer (some ⟨w.heap.size, 4, none⟩)) (.agg (h.map u8v).toArray) rfl HLH.out rfl ?_)
    | (refine wpList_execG (.bool true) (exec_bin .eql 25 (.tmp 61) (.tmp 62) 25 rfl (.agg (h.map u8v).toArray) (.agg (zeroH.map u8v).toArray) _ rfl rfl (by kernel_rfl) (HE.out _)) rfl ?_))
          refine (H4.out _).mono ?_
          rintro ex w1 ⟨rfl, hw⟩
          rw [hw]
          clear hw
          cases f4 with
          | true =>
            go_wp2_with fail
            refine (H5.out _).mono ?_
            rintro ex w1 ⟨rfl, hw⟩
            rw [hw]
            clear hw
            cases f5 with
            | true =>
              go_wp2
              go_ret
              exact ⟨by rw [HY.out]; simp, (Fr.refl No w).alloc _⟩
            | false =>
              cases z5 with
              | true =>
                go_wp2
                go_ret
                exact ⟨by rw [HY.out]; simp, (Fr.refl No w).alloc _⟩
              | false =>
                go_wp2
                go_ret
                exact ⟨by rw [HY.out]; simp, (Fr.refl No w).alloc _⟩
          | false =>
            cases z4 with
            | true =>
              go_wp2_with fail
              refine (H5.out _).mono ?_
              rintro ex w1 ⟨rfl, hw⟩
              rw [hw]
              clear hw
              cases f5 with
              | true =>
                go_wp2
                go_ret
                exact ⟨by rw [HY.out]; simp, (Fr.refl No w).alloc _⟩
              | false =>
                cases z5 with
                | true =>
                  go_wp2
                  go_ret
                  exact ⟨by rw [HY.out]; simp, (Fr.refl No w).alloc _⟩
                | false =>
                  go_wp2
                  go_ret
                  exact ⟨by rw [HY.out]; simp, (Fr.refl No w).alloc _⟩
            | false =>
              go_wp2
              go_ret
              exact ⟨by rw [HY.out]; simp, (Fr.refl No w).alloc _⟩
        | false =>
          go_wp2_with (first
    | (refine wpList_load_eqG 25 _ rfl (.pointer (some ⟨w.heap.size, 4, none⟩)) (.agg (h.map u8v).toArray) rfl HLH.out rfl ?_)
    | (refine wpList_execG (.bool false) (exec_bin .eql 25 (.tmp 61) (.tmp 62) 25 rfl (.agg (h.map u8v).toArray) (.agg (zeroH.map u8v).toArray) _ rfl rfl (by kernel_rfl) (HE.out _)) rfl ?_))
          go_ret
          exact ⟨by rw [HY.out]; simp, (Fr.refl No w).alloc _⟩
    | false =>
      cases z2 with
      | true =>
        go_wp2_with fail
        refine (H3.out _).mono ?_
        rintro ex w1 ⟨rfl, hw⟩
        rw [hw]
        clear hw
        cases f3 with
        | true =>
          go_wp2_with (first
    | (refine wpList_load_eqG 25 _ rfl (.pointer (some ⟨w.heap.size, 4, none⟩)) (.agg (h.map u8v).toArray) rfl HLH.out rfl ?_)
    | (refine wpList_execG (.bool z3) (exec_bin .eql 25 (.tmp 61) (.tmp 62) 25 rfl (.agg (h.map u8v).toArray) (.agg (zeroH.map u8v).toArray) _ rfl rfl (by kernel_rfl) (HE.out _)) rfl ?_))
          refine (H4.out _).mono ?_
          rintro ex w1 ⟨rfl, hw⟩
          rw [hw]
          clear hw
          cases f4 with
          | true =>
            go_wp2_with fail
            refine (H5.out _).mono ?_
            rintro ex w1 ⟨rfl, hw⟩
            rw [hw]
            clear hw
            cases f5 with
            | true =>
              go_wp2
              go_ret
              exact ⟨by rw [HY.out]; simp, (Fr.refl No w).alloc _⟩
            | false =>
              cases z5 with
              | true =>
                go_wp2
                go_ret
                exact ⟨by rw [HY.out]; simp, (Fr.refl No w).alloc _⟩
              | false =>
                go_wp2
                go_ret
                exact ⟨by rw [HY.out]; simp, (Fr.refl No w).alloc _⟩
          | false =>
            cases z4 with
            | true =>
              go_wp2_with fail
              refine (H5.out _).mono ?_
              rintro ex w1 ⟨rfl, hw⟩
              rw [hw]
              clear hw
              cases f5 with
              | true =>
                go_wp2
                go_ret
                exact ⟨by rw [HY.out]; simp, (Fr.refl No w).alloc _⟩
              | false =>
                cases z5 with
                | true =>
                  go_wp2
                  go_ret
                  exact ⟨by rw [HY.out]; simp, (Fr.refl No w).alloc _⟩
                | false =>
                  go_wp2
                  go_ret
                  exact ⟨by rw [HY.out]; simp, (Fr.refl No w).alloc _⟩
            | false =>
              go_wp2
              go_ret
              exact ⟨by rw [HY.out]; simp, (Fr.refl No w).alloc _⟩
        | false =>
          cases z3 with
          | true =>
            go_wp2_with (first
    | (refine wpList_load_eqG 25 _ rfl (.pointer (some ⟨w.heap.size, 4, none⟩)) (.agg (h.map u8v).toArray) rfl HLH.out rfl ?_)
    | (refine wpList_execG (.bool true) (exec_bin .eql 25 (.tmp 61) (.tmp 62) 25 rfl (.agg (h.map u8v).toArray) (.agg (zeroH.map u8v).toArray) _ rfl rfl (by kernel_rfl) (HE.out _)) rfl ?_))
            refine (H4.out _).mono ?_
            rintro ex w1 ⟨rfl, hw⟩
            rw [hw]
            clear hw
            cases f4 with
            | true =>
              go_wp2_with fail
              refine (H5.out _).mono ?_
              rintro ex w1 ⟨rfl, hw⟩
              rw [hw]
              clear hw
              cases f5 with
              | true =>
                go_wp2
                go_ret
                exact ⟨by rw [HY.out]; simp, (Fr.refl No w).alloc _⟩
              | false =>
                cases z5 with
                | true =>
                  go_wp2
                  go_ret
                  exact ⟨by rw [HY.out]; simp, (Fr.refl No w).alloc _⟩
                | false =>
                  go_wp2
                  go_ret
                  exact ⟨by rw [HY.out]; simp, (Fr.refl No w).alloc _⟩
            | false =>
              cases z4 with
              | true =>
                go_wp2_with fail
                refine (H5.out _).mono ?_
                rintro ex w1 ⟨rfl, hw⟩
                rw [hw]
                clear hw
                cases f5 with
                | true =>
                  go_wp2
                  go_ret
                  exact ⟨by rw [HY.out]; simp, (Fr.refl No w).alloc _⟩
                | false =>
                  cases z5 with
                  | true =>
                    go_wp2
                    go_ret
                    exact ⟨by rw [HY.out]; simp, (Fr.refl No w).alloc _⟩
                  | false =>
                    go_wp2
                    go_ret
                    exact ⟨by rw [HY.out]; simp, (Fr.refl No w).alloc _⟩
              | false =>
                go_wp2
                go_ret
                exact ⟨by rw [HY.out]; simp, (Fr.refl No w).alloc _⟩
          | false =>
            go_wp2_with (first
    | (refine wpList_load_eqG 25 _ rfl (.pointer (some ⟨w.heap.size, 4, none⟩)) (.agg (h.map u8v).toArray) rfl HLH.out rfl ?_)
    | (refine wpList_execG (.bool false) (exec_bin .eql 25 (.tmp 61) (.tmp 62) 25 rfl (.agg (h.map u8v).toArray) (.agg (zeroH.map u8v).toArray) _ rfl rfl (by kernel_rfl) (HE.out _)) rfl ?_))
            go_ret
            exact ⟨by rw [HY.out]; simp, (Fr.refl No w).alloc _⟩
      | false =>
        go_wp2
        go_ret
        exact ⟨by rw [HY.out]; simp, (Fr.refl No w).alloc _⟩
  | false =>
    cases z1 with
    | true =>
      go_wp2_with fail
      refine (H2.out _).mono ?_
      rintro ex w1 ⟨rfl, hw⟩
      rw [hw]
      clear hw
      cases f2 with
      | true =>
        go_wp2_with fail
        refine (H3.out _).mono ?_
        rintro ex w1 ⟨rfl, hw⟩
        rw [hw]
        clear hw
        cases f3 with
        | true =>
          go_wp2_with (first
    | (refine wpList_load_eqG 25 _ rfl (.pointer (some ⟨w.heap.size, 4, none⟩)) (.agg (h.map u8v).toArray) rfl HLH.out rfl ?_)
    | (refine wpList_execG (.bool z3) (exec_bin .eql 25 (.tmp 61) (.tmp 62) 25 rfl (.agg (h.map u8v).toArray) (.agg (zeroH.map u8v).toArray) _ rfl rfl (by kernel_rfl) (HE.out _)) rfl ?_))
          refine (H4.out _).mono ?_
          rintro ex w1 ⟨rfl, hw⟩
          rw [hw]
          clear hw
          cases f4 with
          | true =>
            go_wp2_with fail
            refine (H5.out _).mono ?_
            rintro ex w1 ⟨rfl, hw⟩
            rw [hw]
            clear hw
            cases f5 with
            | true =>
              go_wp2
              go_ret
              exact ⟨by rw [HY.out]; simp, (Fr.refl No w).alloc _⟩
            | false =>
              cases z5 with
              | true =>
                go_wp2
                go_ret
                exact ⟨by rw [HY.out]; simp, (Fr.refl No w).alloc _⟩
              | false =>
                go_wp2
                go_ret
                exact ⟨by rw [HY.out]; simp, (Fr.refl No w).alloc _⟩
          | false =>
            cases z4 with
            | true =>
              go_wp2_with fail
              refine (H5.out _).mono ?_
              rintro ex w1 ⟨rfl, hw⟩
              rw [hw]
              clear hw
              cases f5 with
              | true =>
                go_wp2
                go_ret
                exact ⟨by rw [HY.out]; simp, (Fr.refl No w).alloc _⟩
              | false =>
                cases z5 with
                | true =>
                  go_wp2
                  go_ret
                  exact ⟨by rw [HY.out]; simp, (Fr.refl No w).alloc _⟩
                | false =>
                  go_wp2
                  go_ret
                  exact ⟨by rw [HY.out]; simp, (Fr.refl No w).alloc _⟩
            | false =>
              go_wp2
              go_ret
              exact ⟨by rw [HY.out]; simp, (Fr.refl No w).alloc _⟩
        | false =>
          cases z3 with
          | true =>
            go_wp2_with (first
    | (refine wpList_load_eqG 25 _ rfl (.pointer (some ⟨w.heap.size, 4, none⟩)) (.agg (h.map u8v).toArray) rfl HLH.out rfl ?_)
    | (refine wpList_execG (.bool true) (exec_bin .eql 25 (.tmp 61) (.tmp 62) 25 rfl (.agg (h.map u8v).toArray) (.agg (zeroH.map u8v).toArray) _ rfl rfl (by kernel_rfl) (HE.out _)) rfl ?_))
            refine (H4.out _).mono ?_
            rintro ex w1 ⟨rfl, hw⟩
            rw [hw]
            clear hw
            cases f4 with
            | true =>
              go_wp2_with fail
              refine (H5.out _).mono ?_
              rintro ex w1 ⟨rfl, hw⟩
              rw [hw]
              clear hw
              cases f5 with
              | true =>
                go_wp2
                go_ret
                exact ⟨by rw [HY.out]; simp, (Fr.refl No w).alloc _⟩
              | false =>
                cases z5 with
                | true =>
                  go_wp2
                  go_ret
                  exact ⟨by rw [HY.out]; simp, (Fr.refl No w).alloc _⟩
                | false =>
                  go_wp2
                  go_ret
                  exact ⟨by rw [HY.out]; simp, (Fr.refl No w).alloc _⟩
            | false =>
              cases z4 with
              | true =>
                go_wp2_with fail
                refine (H5.out _).mono ?_
                rintro ex w1 ⟨rfl, hw⟩
                rw [hw]
                clear hw
                cases f5 with
                | true =>
                  go_wp2
                  go_ret
                  exact ⟨by rw [HY.out]; simp, (Fr.refl No w).alloc _⟩
                | false =>
                  cases z5 with
                  | true =>
                    go_wp2
                    go_ret
                    exact ⟨by rw [HY.out]; simp, (Fr.refl No w).alloc _⟩
                  | false =>
                    go_wp2
                    go_ret
                    exact ⟨by rw [HY.out]; simp, (Fr.refl No w).alloc _⟩
              | false =>
                go_wp2
                go_ret
                exact ⟨by rw [HY.out]; simp, (Fr.refl No w).alloc _⟩
          | false =>
            go_wp2_with (first
    | (refine wpList_load_eqG 25 _ rfl (.pointer (some ⟨w.heap.size, 4, none⟩)) (.agg (h.map u8v).toArray) rfl HLH.out rfl ?_)
    | (refine wpList_execG (.bool false) (exec_bin .eql 25 (.tmp 61) (.tmp 62) 25 rfl (.agg (h.map u8v).toArray) (.agg (zeroH.map u8v).toArray) _ rfl rfl (by kernel_rfl) (HE.out _)) rfl ?_))
            go_ret
            exact ⟨by rw [HY.out]; simp, (Fr.refl No w).alloc _⟩
      | false =>
        cases z2 with
        | true =>
          go_wp2_with fail
          refine (H3.out _).mono ?_
          rintro ex w1 ⟨rfl, hw⟩
          rw [hw]
          clear hw
          cases f3 with
          | true =>
            go_wp2_with (first
    | (refine wpList_load_eqG 25 _ rfl (.pointer (some ⟨w.heap.size, 4, none⟩)) (.agg (h.map u8v).toArray) rfl HLH.out rfl ?_)
    | (refine wpList_execG (.bool z3) (exec_bin .eql 25 (.tmp 61) (.tmp 62) 25 rfl (.agg (h.map u8v).toArray) (.agg (zeroH.map u8v).toArray) _ rfl rfl (by kernel_rfl) (HE.out _)) rfl ?_))
            refine (H4.out _).mono ?_
            rintro ex w1 ⟨rfl, hw⟩
            rw [hw]
            clear hw
            cases f4 with
            | true =>
              go_wp2_with fail
              refine (H5.out _).mono ?_
              rintro ex w1 ⟨rfl, hw⟩
              rw [hw]
              clear hw
              cases f5 with
              | true =>
                go_wp2
                go_ret
                exact ⟨by rw [HY.out]; simp, (Fr.refl No w).alloc _⟩
              | false =>
                cases z5 with
                | true =>
                  go_wp2
                  go_ret
                  exact ⟨by rw [HY.out]; simp, (Fr.refl No w).alloc _⟩
                | false =>
                  go_wp2
                  go_ret
                  exact ⟨by rw [HY.out]; simp, (Fr.refl No w).alloc _⟩
            | false =>
              cases z4 with
              | true =>
                go_wp2_with fail
                refine (H5.out _).mono ?_
                rintro ex w1 ⟨rfl, hw⟩
                rw [hw]
                clear hw
                cases f5 with
                | true =>
                  go_wp2
                  go_ret
                  exact ⟨by rw [HY.out]; simp, (Fr.refl No w).alloc _⟩
                | false =>
                  cases z5 with
                  | true =>
                    go_wp2
                    go_ret
                    exact ⟨by rw [HY.out]; simp, (Fr.refl No w).alloc _⟩
                  | false =>
                    go_wp2
                    go_ret
                    exact ⟨by rw [HY.out]; simp, (Fr.refl No w).alloc _⟩
              | false =>
                go_wp2
                go_ret
                exact ⟨by rw [HY.out]; simp, (Fr.refl No w).alloc _⟩
          | false =>
            cases z3 with
            | true =>
              go_wp2_with (first
    | (refine wpList_load_eqG 25 _ rfl (.pointer (some ⟨w.heap.size, 4, none⟩)) (.agg (h.map u8v).toArray) rfl HLH.out rfl ?_)
    | (refine wpList_execG (.bool true) (exec_bin .eql 25 (.tmp 61) (.tmp 62) 25 rfl (.agg (h.map u8v).toArray) (.agg (zeroH.map u8v).toArray) _ rfl rfl (by kernel_rfl) (HE.out _)) rfl ?_))
              refine (H4.out _).mono ?_
              rintro ex w1 ⟨rfl, hw⟩
              rw [hw]
              clear hw
              cases f4 with
              | true =>
                go_wp2_with fail
                refine (H5.out _).mono ?_
                rintro ex w1 ⟨rfl, hw⟩
                rw [hw]
                clear hw
                cases f5 with
                | true =>
                  go_wp2
                  go_ret
                  exact ⟨by rw [HY.out]; simp, (Fr.refl No w).alloc _⟩
                | false =>
                  cases z5 with
                  | true =>
                    go_wp2
                    go_ret
                    exact ⟨by rw [HY.out]; simp, (Fr.refl No w).alloc _⟩
                  | false =>
                    go_wp2
                    go_ret
                    exact ⟨by rw [HY.out]; simp, (Fr.refl No w).alloc _⟩
              | false =>
                cases z4 with
                | true =>
                  go_wp2_with fail
                  refine (H5.out _).mono ?_
                  rintro ex w1 ⟨rfl, hw⟩
                  rw [hw]
                  clear hw
                  cases f5 with
                  | true =>
                    go_wp2
                    go_ret
                    exact ⟨by rw [HY.out]; simp, (Fr.refl No w).alloc _⟩
                  | false =>
                    cases z5 with
                    | true =>
                      go_wp2
                      go_ret
                      exact ⟨by rw [HY.out]; simp, (Fr.refl No w).alloc _⟩
                    | false =>
                      go_wp2
                      go_ret
                      exact ⟨by rw [HY.out]; simp, (Fr.refl No w).alloc _⟩
                | false =>
                  go_wp2
                  go_ret
                  exact ⟨by rw [HY.out]; simp, (Fr.refl No w).alloc _⟩
            | false =>
              go_wp2_with (first
    | (refine wpList_load_eqG 25 _ rfl (.pointer (some ⟨w.heap.size, 4, none⟩)) (.agg (h.map u8v).toArray) rfl HLH.out rfl ?_)
    | (refine wpList_execG (.bool false) (exec_bin .eql 25 (.tmp 61) (.tmp 62) 25 rfl (.agg (h.map u8v).toArray) (.agg (zeroH.map u8v).toArray) _ rfl rfl (by kernel_rfl) (HE.out _)) rfl ?_))
              go_ret
              exact ⟨by rw [HY.out]; simp, (Fr.refl No w).alloc _⟩
        | false =>
          go_wp2
          go_ret
          exact ⟨by rw [HY.out]; simp, (Fr.refl No w).alloc _⟩
    | false =>
      go_wp2
      go_ret
      exact ⟨by rw [HY.out]; simp, (Fr.refl No w).alloc _⟩

theorem rmay_any (m : Msg) (hl : m.h.length = 32) (w : World) : Calls Try.prog 11 #[vM m] w fun ex w' => ex = .returned (.bool (may m)) ∧ Fr No w w' := by
  obtain ⟨k, c, i, a, h, e, n⟩ := m
  have hb : boundOk ⟨k, c, i, a, h, e, n⟩ = decide (1 ≤ k ∧ k ≤ 9 ∧ 0 ≤ e ∧ e ≤ 1073741824 ∧ 0 ≤ n ∧ n ≤ 65535 ∧ a ≤ 1125899906842624) := rfl
  by_cases g0 : k < 1
  · rw [may, hb, decide_eq_false (by omega), Bool.false_and]
    exact rmay_b0 k c i a h e n w hl g0
  by_cases g1 : 9 < k
  · rw [may, hb, decide_eq_false (by omega), Bool.false_and]
    exact rmay_b1 k c i a h e n w hl g0 g1
  by_cases g2 : e < 0
  · rw [may, hb, decide_eq_false (by omega), Bool.false_and]
    exact rmay_b2 k c i a h e n w hl g0 g1 g2
  by_cases g3 : 1073741824 < e
  · rw [may, hb, decide_eq_false (by omega), Bool.false_and]
    exact rmay_b3 k c i a h e n w hl g0 g1 g2 g3
  by_cases g4 : n < 0
  · rw [may, hb, decide_eq_false (by omega), Bool.false_and]
    exact rmay_b4 k c i a h e n w hl g0 g1 g2 g3 g4
  by_cases g5 : 65535 < n
  · rw [may, hb, decide_eq_false (by omega), Bool.false_and]
    exact rmay_b5 k c i a h e n w hl g0 g1 g2 g3 g4 g5
  by_cases g6 : (1125899906842624 : Int) < (a : Int)
  · rw [may, hb, decide_eq_false (by omega), Bool.false_and]
    exact rmay_b6 k c i a h e n w hl g0 g1 g2 g3 g4 g5 g6
  rw [may, hb, decide_eq_true (by omega), Bool.true_and]
  exact rmay_rest k c i a h e n w hl g0 g1 g2 g3 g4 g5 g6 _ _ _ _ _ _ _ _ _ _ rfl rfl rfl rfl rfl (by rw [Bool.eq_iff_iff]; simp) (by rw [Bool.eq_iff_iff]; simp) rfl rfl rfl
end Go.Proofs.Ytpdnbjaamgfemaa
