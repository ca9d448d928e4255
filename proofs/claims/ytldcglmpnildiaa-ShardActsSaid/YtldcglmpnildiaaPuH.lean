/- A purse's functions: Held, Total: loops over a map. -/
import Derived.Test.YtldcglmpnildiaaPuP
namespace Go.Proofs.Ytldcglmpnildiaa
open Go.RowKit Go.Maps
set_option linter.unusedVariables false
set_option maxRecDepth 100000

/-- What has been met of it so far. -/
def met (f : Nat × Nat → Nat) (h : Nat → Nat × Nat) (left : Lit → Bool) : Nat := sumN (fun i => if left (.int .i64 (i : Int)) then 0 else f (h i)) 32
theorem met_start {f : Nat × Nat → Nat} {h : Nat → Nat × Nat} {left : Lit → Bool} (hl : ∀ i : Nat, i < 32 → left (.int .i64 (i : Int)) = decide (0 < (h i).2)) (h0 : ∀ i : Nat, i < 32 → (h i).2 = 0 → f (h i) = 0) : met f h left = 0 :=
  sumN_zero fun i hi => by
    simp only [hl i hi]
    by_cases e : 0 < (h i).2
    · simp [e]
    · simp only [decide_eq_false e, Bool.false_eq_true, if_false]
      exact h0 i hi (by omega)
theorem met_step {f : Nat × Nat → Nat} {h : Nat → Nat × Nat} {left left' : Lit → Bool} {i : Nat} (hi : i < 32) (h1 : left (.int .i64 (i : Int)) = true) (h2 : left' (.int .i64 (i : Int)) = false) (h3 : ∀ j : Nat, j ≠ i → left' (.int .i64 (j : Int)) = left (.int .i64 (j : Int))) : met f h left' = met f h left + f (h i) := by
  have := sumN_at (xs := fun j => if left' (.int .i64 (j : Int)) then 0 else f (h j)) (ys := fun j => if left (.int .i64 (j : Int)) then 0 else f (h j)) hi (fun j _ hj => by simp only [h3 j hj])
  simp only [h1, h2, if_true, Bool.false_eq_true, if_false] at this
  unfold met
  omega
theorem met_end {f : Nat × Nat → Nat} {h : Nat → Nat × Nat} {left : Lit → Bool} (hl : ∀ kl, left kl = false) : met f h left = sumN (fun i => f (h i)) 32 :=
  sumN_congr fun i _ => by simp only [hl, Bool.false_eq_true, if_false]
theorem met_le (f : Nat × Nat → Nat) (h : Nat → Nat × Nat) (left : Lit → Bool) : met f h left ≤ sumN (fun i => f (h i)) 32 := by
  have key : ∀ n, sumN (fun i => if left (.int .i64 (i : Int)) then 0 else f (h i)) n ≤ sumN (fun i => f (h i)) n := by
    intro n
    induction n with
    | zero => exact Nat.le_refl _
    | succ n ih =>
      show _ + (if left (.int .i64 (n : Int)) then 0 else f (h n)) ≤ _ + f (h n)
      split <;> omega
  exact key 32

end Go.Proofs.Ytldcglmpnildiaa
