/- Amounts: what is added, what a fee comes to, what is enough, and the greatest that is: plain numbers. -/
import Derived.Test.YtldcglmpnildiaaBase
namespace Go.Proofs.Ytldcglmpnildiaa
set_option linter.unusedVariables false
set_option maxRecDepth 100000

/-- The first n of xs, added. -/
def sumN (xs : Nat → Nat) : Nat → Nat
  | 0 => 0
  | n + 1 => sumN xs n + xs n
theorem sumN_mono (xs : Nat → Nat) {i : Nat} : ∀ {n : Nat}, i ≤ n → sumN xs i ≤ sumN xs n
  | 0, h => by obtain rfl : i = 0 := by omega
               exact Nat.le_refl _
  | n + 1, h => by
    by_cases he : i = n + 1
    · subst he; exact Nat.le_refl _
    · have := sumN_mono xs (i := i) (n := n) (by omega)
      show sumN xs i ≤ sumN xs n + xs n
      omega

/-- What a sum is told as, and its error. -/
def addV (s : Nat) : Nat := if s ≤ 1125899906842624 then s else 0
def addE (s : Nat) : Int := if s ≤ 1125899906842624 then 0 else 60
theorem addV_le {s : Nat} (h : s ≤ 1125899906842624) : addV s = s := if_pos h
theorem addE_le {s : Nat} (h : s ≤ 1125899906842624) : addE s = 0 := if_pos h
theorem addV_gt {s : Nat} (h : 1125899906842624 < s) : addV s = 0 := if_neg (by omega)
theorem addE_gt {s : Nat} (h : 1125899906842624 < s) : addE s = 60 := if_neg (by omega)
theorem addV_lt (s : Nat) : addV s < 18446744073709551616 := by unfold addV; split <;> omega
theorem addE_zero {s : Nat} : addE s = 0 ↔ s ≤ 1125899906842624 := by unfold addE; split <;> simp_all

/-- So many parts of n as r says; the fee; whether i is enough for o and its fee. -/
def partN (r n : Nat) : Nat := r * n / 1000000
def feeN (b r n : Nat) : Nat := b + partN r n
def enough (i o b r : Nat) : Bool := decide (feeN b r o ≤ 1125899906842624 ∧ o + feeN b r o ≤ i)

theorem partN_mono (r : Nat) {n m : Nat} (h : n ≤ m) : partN r n ≤ partN r m := Nat.div_le_div_right (Nat.mul_le_mul_left r h)
theorem feeN_mono (b r : Nat) {n m : Nat} (h : n ≤ m) : feeN b r n ≤ feeN b r m := Nat.add_le_add_left (partN_mono r h) b
theorem enough_less {i o o2 b r : Nat} (h : o ≤ o2) (he : enough i o2 b r = true) : enough i o b r = true := by
  unfold enough at *
  rw [decide_eq_true_eq] at *
  have := feeN_mono b r h
  omega
theorem enough_no {i o o2 b r : Nat} (h : o ≤ o2) (he : enough i o b r = false) : enough i o2 b r = false := by
  cases hx : enough i o2 b r with
  | false => rfl
  | true => rw [enough_less h hx] at he; cases he
theorem enough_in {i o b r : Nat} (he : enough i o b r = true) : o ≤ i := by
  unfold enough at he
  rw [decide_eq_true_eq] at he
  omega

/-- m is the greatest that is enough, or 0, if none is. -/
structure IsMost (i b r m : Nat) : Prop where
  is : m = 0 ∨ enough i m b r = true
  no : ∀ x, m < x → enough i x b r = false
theorem IsMost.unique {i b r m k : Nat} (h : IsMost i b r m) (g : IsMost i b r k) : m = k := by
  rcases Nat.lt_trichotomy m k with hl | he | hl
  · have h1 := h.no k hl
    rcases g.is with h0 | h0
    · omega
    · rw [h1] at h0; cases h0
  · exact he
  · have h1 := g.no m hl
    rcases h.is with h0 | h0
    · omega
    · rw [h1] at h0; cases h0
theorem IsMost.lt {i b r m : Nat} (h : IsMost i b r m) (hi : i < 18446744073709551616) : m < 18446744073709551616 := by
  rcases h.is with h0 | h0
  · omega
  · have := enough_in h0
    omega
theorem IsMost.none {i b r m : Nat} (h : IsMost i b r m) (h0 : enough i 0 b r = false) : m = 0 := by
  rcases h.is with h1 | h1
  · exact h1
  · rw [enough_no (Nat.zero_le m) h0] at h1; cases h1
theorem IsMost.some {i b r m : Nat} (h : IsMost i b r m) (h0 : enough i 0 b r = true) : enough i m b r = true := by
  rcases h.is with h1 | h1
  · rw [h1]; exact h0
  · exact h1

/-- The search, bit by bit: behind the bits from k on. -/
structure Seek (i b r k n : Nat) : Prop where
  is : n = 0 ∨ enough i n b r = true
  no : ∀ x, n + 2 ^ k ≤ x → enough i x b r = false
  mult : ∃ a, n = 2 ^ k * a
  lt : n + 2 ^ k ≤ 2 ^ 64
theorem Seek.start {i b r : Nat} (hi : i < 18446744073709551616) : Seek i b r 64 0 := by
  refine ⟨.inl rfl, fun x hx => ?_, ⟨0, by simp⟩, by simp⟩
  cases he : enough i x b r with
  | false => rfl
  | true =>
    have := enough_in he
    have h2 : (2 : Nat) ^ 64 = 18446744073709551616 := by decide
    omega
theorem Seek.done {i b r n : Nat} (h : Seek i b r 0 n) : IsMost i b r n := ⟨h.is, fun x hx => h.no x (by rw [Nat.pow_zero]; exact hx)⟩
theorem Seek.or {i b r k n : Nat} (h : Seek i b r (k + 1) n) : n ||| 2 ^ k = n + 2 ^ k := by
  obtain ⟨a, ha⟩ := h.mult
  rw [ha]
  exact (Nat.two_pow_add_eq_or_of_lt (Nat.pow_lt_pow_right (by omega) (Nat.lt_succ_self k)) a).symm
theorem Seek.more_lt {i b r k n : Nat} (h : Seek i b r (k + 1) n) : n + 2 ^ k < 18446744073709551616 := by
  have h1 := h.lt
  have h2 : (2 : Nat) ^ 64 = 18446744073709551616 := by decide
  rw [Nat.pow_succ] at h1
  have h3 : 0 < 2 ^ k := Nat.two_pow_pos k
  omega
theorem Seek.yes {i b r k n : Nat} (h : Seek i b r (k + 1) n) (he : enough i (n + 2 ^ k) b r = true) : Seek i b r k (n + 2 ^ k) := by
  have h2 := h.lt
  refine ⟨.inr he, fun x hx => h.no x (by rw [Nat.pow_succ]; omega), ?_, by rw [Nat.pow_succ] at h2; omega⟩
  obtain ⟨a, ha⟩ := h.mult
  exact ⟨2 * a + 1, by rw [ha, Nat.pow_succ, Nat.mul_add, Nat.mul_assoc, Nat.mul_one]⟩
theorem Seek.not {i b r k n : Nat} (h : Seek i b r (k + 1) n) (he : enough i (n + 2 ^ k) b r = false) : Seek i b r k n := by
  have h2 := h.lt
  refine ⟨h.is, fun x hx => enough_no hx he, ?_, by rw [Nat.pow_succ] at h2; omega⟩
  obtain ⟨a, ha⟩ := h.mult
  exact ⟨2 * a, by rw [ha, Nat.pow_succ, Nat.mul_assoc]⟩
end Go.Proofs.Ytldcglmpnildiaa
