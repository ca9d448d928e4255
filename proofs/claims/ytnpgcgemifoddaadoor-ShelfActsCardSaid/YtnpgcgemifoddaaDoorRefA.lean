/- Turns and shifts of words: the document's. -/
import Derived.Test.YtnpgcgemifoddaaDoorDigG
namespace Go.Proofs.YtnpgcgemifoddaaDoor
open Go.RowKit
set_option linter.unusedVariables false

set_option maxHeartbeats 400000 in
theorem rturn_any (x n : Nat) (w : World) (hx : x < W32) (hn : n ≤ 32) :
    Calls Tryd.prog 42 #[.int .u64 x, .int .i64 n] w fun e w' => e = .returned (.int .u64 (rotr x n)) ∧ w' = w := by
  have hn2 : (n : Int) ≤ 32 := by omega
  have HX := Lib.hid hx
  clear hx
  go_enter Tryd.func42, Tryd.ntmps42
  go_wp2
  go_loop [0, 5] (fun a c => ∃ k : Nat, k ≤ n ∧ c = .int .i64 k ∧ a = .int .u64 (rotr x k)) (fun _ c => n - (intOf c).toNat)
  case atStart => exact ⟨0, Nat.zero_le _, rfl, by rw [rotr_zero]⟩
  case round =>
    obtain ⟨k, hk, rfl, rfl⟩ := hrel
    by_cases hlt : k < n
    · obtain ⟨y, hy⟩ : ∃ y, y = rotr x k := ⟨_, rfl⟩
      obtain ⟨z, hz⟩ : ∃ z, z = rotr x (k + 1) := ⟨_, rfl⟩
      have hyz : z = tstep y := by rw [hy, hz, tstep_rotr x k (by omega)]
      have hyW : (y : Int) < 4294967296 := by rw [hy]; have := rotr_lt x k HX.out (by omega); unfold W32 at this; omega
      have hstep : (y : Int) / 2 + (y : Int) % 2 * 2147483648 = (z : Int) := by rw [hyz]; unfold tstep; omega
      have HZ := Lib.hid hz
      rw [← hy]
      clear hy hz hyz
      go_wp2
      exact ⟨⟨k + 1, by omega, by simp, by rw [HZ.out]⟩, by simp [intOf]; omega⟩
    · obtain rfl : k = n := by omega
      go_wp2
      go_ret
      exact ⟨rfl, rfl⟩

set_option maxHeartbeats 400000 in
theorem rshift_any (x n : Nat) (w : World) (hx : x < 18446744073709551616) (hn : n ≤ 64) :
    Calls Tryd.prog 38 #[.int .u64 x, .int .i64 n] w fun e w' => e = .returned (.int .u64 ((x / 2 ^ n : Nat) : Int)) ∧ w' = w := by
  have hn2 : (n : Int) ≤ 64 := by omega
  have HX := Lib.hid hx
  clear hx
  go_enter Tryd.func38, Tryd.ntmps38
  go_wp2
  go_loop [0, 5] (fun a c => ∃ k : Nat, k ≤ n ∧ c = .int .i64 k ∧ a = .int .u64 ((x / 2 ^ k : Nat) : Int)) (fun _ c => n - (intOf c).toNat)
  case atStart => exact ⟨0, Nat.zero_le _, rfl, by simp⟩
  case round =>
    obtain ⟨k, hk, rfl, rfl⟩ := hrel
    by_cases hlt : k < n
    · obtain ⟨y, hy⟩ : ∃ y, y = x / 2 ^ k := ⟨_, rfl⟩
      obtain ⟨z, hz⟩ : ∃ z, z = x / 2 ^ (k + 1) := ⟨_, rfl⟩
      have hyz : z = y / 2 := by rw [hy, hz, Nat.pow_succ, Nat.div_div_eq_div_mul]
      have hyW : (y : Int) < 18446744073709551616 := by have := Nat.lt_of_le_of_lt (Nat.div_le_self x (2 ^ k)) HX.out; omega
      have hstep : (y : Int) / 2 = (z : Int) := by omega
      have HZ := Lib.hid hz
      rw [← hy]
      clear hy hz hyz
      go_wp2
      exact ⟨⟨k + 1, by omega, by simp, by rw [HZ.out]⟩, by simp [intOf]; omega⟩
    · obtain rfl : k = n := by omega
      go_wp2
      go_ret
      exact ⟨rfl, rfl⟩
end Go.Proofs.YtnpgcgemifoddaaDoor
