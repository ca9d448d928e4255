/- Which number can tell which, as the program has it. -/
import Derived.Test.YtnpgcgemifoddaaDoorSecP
import Derived.Deep.QuietTactic
import Derived.BigQuiet
namespace Go.Proofs.YtnpgcgemifoddaaDoor
open Go.RowKit
set_option linter.unusedVariables false

theorem isNumber_is (i : Int) (w : World) (c : Bool) (h : num i = c) : Calls Tryd.prog 30 #[.int .i64 i] w fun ex w' => ex = .returned (.bool c) ∧ w' = w := by
  have := isNumber_any i w
  rwa [h] at this

set_option maxRecDepth 100000 in
set_option maxHeartbeats 2000000 in
theorem can_no1 (x y : Int) (w : World) (h : num x = false) : Calls Tryd.prog 23 #[.int .i64 x, .int .i64 y] w fun ex w' => ex = .returned (.bool (can x y)) ∧ Fr No w w' := by
  have e : can x y = false := by rw [can, h]; rfl
  rw [e]
  clear e
  go_enter Tryd.func23, Tryd.ntmps23
  go_wp2_with fail
  refine (place_any x w).mono ?_
  rintro ex w1 ⟨rfl, hF⟩
  have HF := Lib.hid hF
  clear hF
  go_wp2_with fail
  go_quiet (refine Calls.quiet_of_same (isNumber_is _ _ _ (by assumption)))
  go_wp2
  go_ret
  exact ⟨rfl, HF.out.drewN _⟩

set_option maxRecDepth 100000 in
set_option maxHeartbeats 2000000 in
theorem can_no2 (x y : Int) (w : World) (h : num x = true) (h2 : num y = false) : Calls Tryd.prog 23 #[.int .i64 x, .int .i64 y] w fun ex w' => ex = .returned (.bool (can x y)) ∧ Fr No w w' := by
  have e : can x y = false := by rw [can, h, h2]; rfl
  rw [e]
  clear e
  go_enter Tryd.func23, Tryd.ntmps23
  go_wp2_with fail
  refine (place_any x w).mono ?_
  rintro ex w1 ⟨rfl, hF⟩
  have HF := Lib.hid hF
  clear hF
  go_wp2_with fail
  go_quiet (refine Calls.quiet_of_same (isNumber_is _ _ _ (by assumption)))
  go_wp2
  go_ret
  exact ⟨rfl, HF.out.drewN _⟩

theorem div_i64 (x p : Nat) : ((x : Int) / 2 ^ p) = ((x / 2 ^ p : Nat) : Int) := by simp

set_option maxRecDepth 100000 in
set_option maxHeartbeats 2000000 in
theorem can_num (x y : Nat) (w : World) (hx : x < 65536) (hy : y < 65536) : Calls Tryd.prog 23 #[.int .i64 (x : Int), .int .i64 (y : Int)] w fun ex w' => ex = .returned (.bool (canN x y)) ∧ Fr No w w' := by
  have h1 := num_of hx
  have h2 := num_of hy
  have hp := place_any (x : Int) w
  rw [place_of hx] at hp
  have hc : canN x y = (x / 2 ^ placeN x == y / 2 ^ placeN x) := rfl
  obtain ⟨p, hp'⟩ : ∃ p, p = placeN x := ⟨_, rfl⟩
  have hp16 : p ≤ 16 := by rw [hp']; exact (placeN_is x).le
  rw [← hp'] at hp hc
  obtain ⟨X, hX⟩ : ∃ X, X = x / 2 ^ p := ⟨_, rfl⟩
  obtain ⟨Y, hY⟩ : ∃ Y, Y = y / 2 ^ p := ⟨_, rfl⟩
  have eX : (x : Int) / 2 ^ p = (X : Int) := by rw [hX, div_i64]
  have eY : (y : Int) / 2 ^ p = (Y : Int) := by rw [hY, div_i64]
  rw [← hX, ← hY] at hc
  have hc2 : ((X : Int) == (Y : Int)) = canN x y := by
    rw [hc, Bool.eq_iff_iff]
    simp only [beq_iff_eq]
    omega
  obtain ⟨c, hc'⟩ : ∃ c, c = canN x y := ⟨_, rfl⟩
  rw [← hc'] at hc2 ⊢
  clear hc hX hY hp' hc' hx hy
  go_enter Tryd.func23, Tryd.ntmps23
  go_wp2_with fail
  refine hp.mono ?_
  rintro ex w1 ⟨rfl, hF⟩
  have HF := Lib.hid hF
  clear hF hp
  go_wp2_with fail
  go_quiet (refine Calls.quiet_of_same (isNumber_is _ _ true (by first | with_reducible exact h1 | with_reducible exact h2)))
  go_wp2
  go_ret
  exact ⟨by simp, HF.out.drewN _⟩

theorem can_any (x y : Int) (w : World) : Calls Tryd.prog 23 #[.int .i64 x, .int .i64 y] w fun ex w' => ex = .returned (.bool (can x y)) ∧ Fr No w w' := by
  by_cases h : num x = true
  · by_cases h2 : num y = true
    · obtain ⟨a, rfl, ha⟩ := num_nat h
      obtain ⟨b, rfl, hb⟩ := num_nat h2
      rw [can_of ha hb]
      exact can_num a b w ha hb
    · exact can_no2 x y w h (by simpa using h2)
  · exact can_no1 x y w (by simpa using h)
end Go.Proofs.YtnpgcgemifoddaaDoor
