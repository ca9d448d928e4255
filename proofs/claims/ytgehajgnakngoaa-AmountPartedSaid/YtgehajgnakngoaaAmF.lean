/- A fee, and what is enough: the program's. -/
import Derived.Test.YtgehajgnakngoaaAmA
import Derived.Laws.Rows
import Derived.Laws.Tables
namespace Go.Proofs.Ytgehajgnakngoaa
open Go.RowKit
set_option linter.unusedVariables false

/-- A share, and whether a number holds it. -/
def shB (r n : Nat) : Bool := decide (partN r n < 18446744073709551616)
def shV (r n : Nat) : Nat := if partN r n < 18446744073709551616 then partN r n else 0

theorem div_any (hi lo : Nat) (w : World) (h1 : hi < 1000000) (hlo : lo < 18446744073709551616) :
    Calls Try.prog 24 #[.int .u64 (hi : Int), .int .u64 (lo : Int), .int .u64 1000000] w fun e w' => (∃ r, e = .returned (.tuple #[.int .u64 (((hi * 18446744073709551616 + lo) / 1000000 : Nat) : Int), r])) ∧ Fr No w w' := by
  by_cases h0 : hi = 0
  · subst h0
    have := div64_low lo w hlo
    simpa using this
  · exact div64_high hi lo w (by omega) h1 hlo

set_option maxRecDepth 100000 in
set_option maxHeartbeats 1000000 in
theorem share_any (r n : Nat) (w : World) (hr : r < 18446744073709551616) (hn : n < 18446744073709551616) :
    Calls Try.prog 19 #[.int .u64 (r : Int), .int .u64 (n : Int)] w fun e w' => e = .returned (.tuple #[.int .u64 (shV r n : Int), .bool (shB r n)]) ∧ Fr No w w' := by
  have hm := mul64_any r n w hr hn
  obtain ⟨p, hp⟩ : ∃ p, p = r * n := ⟨_, rfl⟩
  rw [← hp] at hm
  obtain ⟨hi, hhi⟩ : ∃ v, v = p / 18446744073709551616 := ⟨_, rfl⟩
  obtain ⟨lo, hlo⟩ : ∃ v, v = p % 18446744073709551616 := ⟨_, rfl⟩
  rw [← hhi, ← hlo] at hm
  have HM := Lib.hid hm
  have hq : partN r n = p / 1000000 := by rw [partN, ← hp]
  unfold shV shB
  rw [hq]
  obtain ⟨q, hq2⟩ : ∃ v, v = p / 1000000 := ⟨_, rfl⟩
  rw [← hq2]
  by_cases h : hi < 1000000
  · have t : decide ((1000000 : Int) ≤ (hi : Int)) = false := decide_eq_false (by omega)
    have hb : q < 18446744073709551616 := by omega
    rw [if_pos hb, decide_eq_true hb]
    have HD : Hid (∀ X, Calls Try.prog 24 #[.int .u64 (hi : Int), .int .u64 (lo : Int), .int .u64 1000000] X fun e w' => (∃ r, e = .returned (.tuple #[.int .u64 (q : Int), r])) ∧ Fr No X w') := Lib.hid (fun X => by
      have := div_any hi lo X h (by omega)
      rwa [show (hi * 18446744073709551616 + lo) / 1000000 = q by omega] at this)
    clear hm hhi hlo hp hq hq2 h hb hr hn
    go_enter Try.func19, Try.ntmps19
    go_wp2_with fail
    refine HM.out.mono ?_
    rintro e w1 ⟨rfl, hw⟩
    rw [hw]
    clear hw HM
    go_wp2_with fail
    refine (HD.out _).mono ?_
    rintro e w2 ⟨⟨x, rfl⟩, hF⟩
    have HF := Lib.hid hF
    clear hF HD
    go_wp2
    go_ret2
    exact ⟨rfl, HF.out⟩
  · have t : decide ((1000000 : Int) ≤ (hi : Int)) = true := decide_eq_true (by omega)
    have hb : ¬ q < 18446744073709551616 := by omega
    rw [if_neg hb, decide_eq_false hb]
    clear hm hhi hlo hp hq hq2 h hb hr hn
    go_enter Try.func19, Try.ntmps19
    go_wp2_with fail
    refine HM.out.mono ?_
    rintro e w1 ⟨rfl, hw⟩
    rw [hw]
    clear hw HM
    go_wp2
    go_ret2
    exact ⟨rfl, Fr.refl No _⟩

/-- Two, and three, numbers in a new slice. -/
def two (a b : Nat) (i : Nat) : Nat := if i = 0 then a else b
def three (a b c : Nat) (i : Nat) : Nat := if i = 0 then a else if i = 1 then b else c
theorem sum_two (a b : Nat) : sumN (two a b) 2 = a + b := by simp [sumN, two]
theorem sum_three (a b c : Nat) : sumN (three a b c) 3 = a + b + c := by simp [sumN, three]
theorem nums2 (w : World) (t : TypeId) (a b : Nat) (ha : a < 18446744073709551616) (hb : b < 18446744073709551616) :
    Nums (w.alloc (.cells #[.int .u64 (a : Int), .int .u64 (b : Int)] t)) (some ⟨w.heap.size, 0, none⟩) 2 (two a b) := fun i hi => by
  refine ⟨_, rfl, ?_, by unfold two; split <;> omega⟩
  rw [show (⟨w.heap.size, 0, none⟩ : Addr).add i = ⟨w.heap.size, i, none⟩ by simp [Addr.add]; omega]
  rw [cell_of_row _ _ _ _ t (0, 0) (heap_alloc_new w _)]
  match i, hi with
  | 0, _ => rfl
  | 1, _ => rfl
theorem nums3 (w : World) (t : TypeId) (a b c : Nat) (ha : a < 18446744073709551616) (hb : b < 18446744073709551616) (hc : c < 18446744073709551616) :
    Nums (w.alloc (.cells #[.int .u64 (a : Int), .int .u64 (b : Int), .int .u64 (c : Int)] t)) (some ⟨w.heap.size, 0, none⟩) 3 (three a b c) := fun i hi => by
  refine ⟨_, rfl, ?_, by unfold three; split <;> (try split) <;> omega⟩
  rw [show (⟨w.heap.size, 0, none⟩ : Addr).add i = ⟨w.heap.size, i, none⟩ by simp [Addr.add]; omega]
  rw [cell_of_row _ _ _ _ t (0, 0) (heap_alloc_new w _)]
  match i, hi with
  | 0, _ => rfl
  | 1, _ => rfl
  | 2, _ => rfl

set_option maxRecDepth 100000 in
set_option maxHeartbeats 1000000 in
theorem fee_any (b r n : Nat) (w : World) (hb : b < 18446744073709551616) (hr : r < 18446744073709551616) (hn : n < 18446744073709551616) :
    Calls Try.prog 14 #[.int .u64 (b : Int), .int .u64 (r : Int), .int .u64 (n : Int)] w fun e w' => e = .returned (.tuple #[.int .u64 (addV (feeN b r n) : Int), .int .i64 (addE (feeN b r n))]) ∧ Fr No w w' := by
  have hs := fun X => share_any r n X hr hn
  unfold feeN
  unfold shV shB at hs
  obtain ⟨q, hq⟩ : ∃ v, v = partN r n := ⟨_, rfl⟩
  rw [← hq] at hs ⊢
  by_cases h : q < 18446744073709551616
  · rw [if_pos h, decide_eq_true h] at hs
    have HS := Lib.hid hs
    obtain ⟨V, hV⟩ : ∃ V, V = addV (b + q) := ⟨_, rfl⟩
    obtain ⟨E, hE⟩ : ∃ E, E = addE (b + q) := ⟨_, rfl⟩
    rw [← hV, ← hE]
    have HA : Hid (∀ (X : World) (t : TypeId), Calls Try.prog 10 #[.slice (some ⟨X.heap.size, 0, none⟩) 2 2] (X.alloc (.cells #[.int .u64 (b : Int), .int .u64 (q : Int)] t)) fun e w' => e = .returned (.tuple #[.int .u64 (V : Int), .int .i64 E]) ∧ Fr No (X.alloc (.cells #[.int .u64 (b : Int), .int .u64 (q : Int)] t)) w') := Lib.hid (fun X t => by
      have := add_any (some ⟨X.heap.size, 0, none⟩) 2 2 (two b q) _ (by decide) (nums2 X t b q hb h)
      rwa [sum_two, ← hV, ← hE] at this)
    clear hs hq hr hn hV hE h hb
    go_enter Try.func14, Try.ntmps14
    go_wp2_with fail
    refine (HS.out _).mono ?_
    rintro e w1 ⟨rfl, hF⟩
    have HF := Lib.hid hF
    clear hF HS
    go_wp2_with fail
    refine (HA.out _ _).mono ?_
    rintro e w2 ⟨rfl, hF⟩
    have HF2 := Lib.hid ((HF.out.alloc _).trans hF)
    clear hF HA HF
    go_wp2
    go_ret2
    exact ⟨rfl, HF2.out⟩
  · rw [if_neg h, decide_eq_false h] at hs
    have HS := Lib.hid hs
    rw [addV_gt (by omega), addE_gt (by omega)]
    clear hs hq hr hn h hb
    go_enter Try.func14, Try.ntmps14
    go_wp2_with fail
    refine (HS.out _).mono ?_
    rintro e w1 ⟨rfl, hF⟩
    have HF := Lib.hid hF
    clear hF HS
    go_wp2
    go_ret2
    exact ⟨rfl, HF.out⟩

set_option maxRecDepth 100000 in
set_option maxHeartbeats 1000000 in
theorem enough_any (i o b r : Nat) (w : World) (hi : i < 18446744073709551616) (ho : o < 18446744073709551616) (hb : b < 18446744073709551616) (hr : r < 18446744073709551616) :
    Calls Try.prog 16 #[.int .u64 (i : Int), .int .u64 (o : Int), .int .u64 (b : Int), .int .u64 (r : Int)] w fun e w' => e = .returned (.bool (enough i o b r)) ∧ Fr No w w' := by
  have hf := fun X => fee_any b r o X hb hr ho
  have hs := fun X => sub_any i o X hi
  unfold enough
  obtain ⟨F, hF⟩ : ∃ F, F = feeN b r o := ⟨_, rfl⟩
  rw [← hF] at hf ⊢
  clear hF
  by_cases h : F ≤ 1125899906842624
  · rw [addV_le h, addE_le h] at hf
    have HFE := Lib.hid hf
    unfold subV subE at hs
    by_cases h2 : i < o
    · rw [if_pos h2, if_pos h2] at hs
      rw [decide_eq_false (show ¬ (F ≤ 1125899906842624 ∧ o + F ≤ i) by omega)]
      have HS := Lib.hid hs
      clear hf hs hi ho hb hr h h2
      go_enter Try.func16, Try.ntmps16
      go_wp2_with fail
      refine (HFE.out _).mono ?_
      rintro e w1 ⟨rfl, hF⟩
      have HF := Lib.hid hF
      clear hF HFE
      go_wp2_with fail
      refine (HS.out _).mono ?_
      rintro e w2 ⟨rfl, hF⟩
      have HF2 := Lib.hid (HF.out.trans hF)
      clear hF HS HF
      go_wp2
      go_ret
      exact ⟨rfl, HF2.out⟩
    · rw [if_neg h2, if_neg h2] at hs
      obtain ⟨l, hl⟩ : ∃ l, l = i - o := ⟨_, rfl⟩
      rw [← hl] at hs
      have HS := Lib.hid hs
      have hd : decide (F ≤ 1125899906842624 ∧ o + F ≤ i) = decide (F ≤ l) := by
        rw [decide_eq_decide]
        omega
      rw [hd]
      clear hf hs hi ho hb hr h h2 hl hd
      go_enter Try.func16, Try.ntmps16
      go_wp2_with fail
      refine (HFE.out _).mono ?_
      rintro e w1 ⟨rfl, hF⟩
      have HF := Lib.hid hF
      clear hF HFE
      go_wp2_with fail
      refine (HS.out _).mono ?_
      rintro e w2 ⟨rfl, hF⟩
      have HF2 := Lib.hid (HF.out.trans hF)
      clear hF HS HF
      go_wp2
      go_ret
      exact ⟨rfl, HF2.out⟩
  · rw [addV_gt (by omega), addE_gt (by omega)] at hf
    rw [decide_eq_false (show ¬ (F ≤ 1125899906842624 ∧ o + F ≤ i) by omega)]
    have HFE := Lib.hid hf
    clear hf hs hi ho hb hr h
    go_enter Try.func16, Try.ntmps16
    go_wp2_with fail
    refine (HFE.out _).mono ?_
    rintro e w1 ⟨rfl, hF⟩
    have HF := Lib.hid hF
    clear hF HFE
    go_wp2
    go_ret
    exact ⟨rfl, HF.out⟩
end Go.Proofs.Ytgehajgnakngoaa
