/- A fee, and what is enough: the document's, by the same answers. -/
import Derived.Test.YtgehajgnakngoaaAmG
namespace Go.Proofs.Ytgehajgnakngoaa
open Go.RowKit
set_option linter.unusedVariables false

set_option maxRecDepth 100000 in
set_option maxHeartbeats 1000000 in
theorem rfee_any (b r n : Nat) (w : World) (hb : b < 18446744073709551616) (hr : r < 18446744073709551616) (hn : n < 18446744073709551616) :
    Calls Try.prog 15 #[.int .u64 (b : Int), .int .u64 (r : Int), .int .u64 (n : Int)] w fun e w' => e = .returned (.tuple #[.int .u64 (addV (feeN b r n) : Int), .int .i64 (addE (feeN b r n))]) ∧ Fr No w w' := by
  have hs := fun X => rshare_any n r X hn hr
  unfold feeN
  unfold shW shB at hs
  obtain ⟨q, hq⟩ : ∃ v, v = partN r n := ⟨_, rfl⟩
  rw [← hq] at hs ⊢
  by_cases h : q < 18446744073709551616
  · rw [Nat.mod_eq_of_lt h, decide_eq_true h] at hs
    have HS := Lib.hid hs
    obtain ⟨V, hV⟩ : ∃ V, V = addV (b + q) := ⟨_, rfl⟩
    obtain ⟨E, hE⟩ : ∃ E, E = addE (b + q) := ⟨_, rfl⟩
    rw [← hV, ← hE]
    have HA : Hid (∀ (X : World) (t : TypeId), Calls Try.prog 11 #[.slice (some ⟨X.heap.size, 0, none⟩) 2 2] (X.alloc (.cells #[.int .u64 (b : Int), .int .u64 (q : Int)] t)) fun e w' => e = .returned (.tuple #[.int .u64 (V : Int), .int .i64 E]) ∧ Fr No (X.alloc (.cells #[.int .u64 (b : Int), .int .u64 (q : Int)] t)) w') := Lib.hid (fun X t => by
      have := radd_any (some ⟨X.heap.size, 0, none⟩) 2 2 (two b q) _ (by decide) (nums2 X t b q hb h)
      rwa [sum_two, ← hV, ← hE] at this)
    clear hs hq hr hn hV hE h hb
    go_enter Try.func15, Try.ntmps15
    go_wp2_with fail
    refine (HS.out _).mono ?_
    rintro e w1 ⟨rfl, hw⟩
    rw [hw]
    clear hw HS
    go_wp2_with fail
    refine (HA.out _ _).mono ?_
    rintro e w2 ⟨rfl, hF⟩
    have HF2 := Lib.hid (((Fr.refl No _).alloc _).trans hF)
    clear hF HA
    go_wp2
    go_ret2
    exact ⟨rfl, HF2.out⟩
  · rw [decide_eq_false h] at hs
    obtain ⟨m, hm⟩ : ∃ m, m = q % 18446744073709551616 := ⟨_, rfl⟩
    rw [← hm] at hs
    have HS := Lib.hid hs
    rw [addV_gt (by omega), addE_gt (by omega)]
    clear hs hq hr hn h hb hm
    go_enter Try.func15, Try.ntmps15
    go_wp2_with fail
    refine (HS.out _).mono ?_
    rintro e w1 ⟨rfl, hw⟩
    rw [hw]
    clear hw HS
    go_wp2
    go_ret2
    exact ⟨rfl, Fr.refl No _⟩

set_option maxRecDepth 100000 in
set_option maxHeartbeats 1000000 in
theorem renough_any (i o b r : Nat) (w : World) (hi : i < 18446744073709551616) (ho : o < 18446744073709551616) (hb : b < 18446744073709551616) (hr : r < 18446744073709551616) :
    Calls Try.prog 17 #[.int .u64 (i : Int), .int .u64 (o : Int), .int .u64 (b : Int), .int .u64 (r : Int)] w fun e w' => e = .returned (.bool (enough i o b r)) ∧ Fr No w w' := by
  have hf := fun X => rfee_any b r o X hb hr ho
  unfold enough
  obtain ⟨F, hF⟩ : ∃ F, F = feeN b r o := ⟨_, rfl⟩
  rw [← hF] at hf ⊢
  clear hF
  by_cases h : F ≤ 1125899906842624
  · rw [addV_le h, addE_le h] at hf
    have HFE := Lib.hid hf
    by_cases h2 : o ≤ i
    · obtain ⟨l, hl⟩ : ∃ l, l = i - o := ⟨_, rfl⟩
      have t1 : decide ((o : Int) ≤ (i : Int)) = true := decide_eq_true (by omega)
      have s1 : (i : Int) - (o : Int) = (l : Int) := by omega
      have l1 := wrapU l (by omega)
      have hd : decide (F ≤ 1125899906842624 ∧ o + F ≤ i) = decide (F ≤ l) := by
        rw [decide_eq_decide]
        omega
      rw [hd]
      clear hf hi ho hb hr h h2 hl hd
      go_enter Try.func17, Try.ntmps17
      go_wp2_with fail
      refine (HFE.out _).mono ?_
      rintro e w1 ⟨rfl, hF⟩
      have HF := Lib.hid hF
      clear hF HFE
      go_wp2
      go_ret
      exact ⟨rfl, HF.out⟩
    · have t1 : decide (o ≤ i) = false := decide_eq_false h2
      rw [decide_eq_false (show ¬ (F ≤ 1125899906842624 ∧ o + F ≤ i) by omega)]
      clear hf hi ho hb hr h h2
      go_enter Try.func17, Try.ntmps17
      go_wp2_with fail
      refine (HFE.out _).mono ?_
      rintro e w1 ⟨rfl, hF⟩
      have HF := Lib.hid hF
      clear hF HFE
      go_wp2
      go_ret
      exact ⟨rfl, HF.out⟩
  · rw [addV_gt (by omega), addE_gt (by omega)] at hf
    rw [decide_eq_false (show ¬ (F ≤ 1125899906842624 ∧ o + F ≤ i) by omega)]
    have HFE := Lib.hid hf
    clear hf hi ho hb hr h
    go_enter Try.func17, Try.ntmps17
    go_wp2_with fail
    refine (HFE.out _).mono ?_
    rintro e w1 ⟨rfl, hF⟩
    have HF := Lib.hid hF
    clear hF HFE
    go_wp2
    go_ret
    exact ⟨rfl, HF.out⟩
end Go.Proofs.Ytgehajgnakngoaa
