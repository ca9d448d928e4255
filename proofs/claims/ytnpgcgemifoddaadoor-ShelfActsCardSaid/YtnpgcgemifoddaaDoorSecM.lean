/- The numbers of layer 4: the bits of a number, its place, and which number can tell which. -/
import Derived.Test.YtnpgcgemifoddaaDoorBase
namespace Go.Proofs.YtnpgcgemifoddaaDoor
set_option linter.unusedVariables false

/-- The bit b of i. -/
def bit (i b : Nat) : Bool := i / 2 ^ b % 2 == 1

theorem bit_testBit (i b : Nat) : bit i b = i.testBit b := by
  rw [bit, Nat.testBit_eq_decide_div_mod_eq]
  rfl

/-- A secret may have this number. -/
def num (i : Int) : Bool := decide (0 ≤ i) && decide (i < 65536)

theorem num_nat {i : Int} (h : num i = true) : ∃ n : Nat, i = (n : Int) ∧ n < 65536 := by
  simp only [num, Bool.and_eq_true, decide_eq_true_eq] at h
  exact ⟨i.toNat, by omega, by omega⟩
theorem num_of {n : Nat} (h : n < 65536) : num (n : Int) = true := by
  simp only [num, Bool.and_eq_true, decide_eq_true_eq]
  omega

/-- The bits of i that are 1, of those below n, the highest one first. -/
def ones (i : Nat) : Nat → List (Fin 16)
  | 0 => []
  | n + 1 => if bit i n then Fin.ofNat 16 n :: ones i n else ones i n

/-- The lowest bit of i that is 1, of those below n; d, if there is none. -/
def low (i d : Nat) (n : Nat) : Nat := (ones i n).foldl (fun _ b => b.val) d

def placeN (i : Nat) : Nat := low i 16 16
def place (i : Int) : Nat := if num i then placeN i.toNat else 0

/-- p is the place of i. -/
structure IsPlace (i p : Nat) : Prop where
  le : p ≤ 16
  zero : ∀ b, b < p → bit i b = false
  one : p < 16 → bit i p = true

theorem IsPlace.uniq {i p q : Nat} (h : IsPlace i p) (k : IsPlace i q) : p = q := by
  rcases Nat.lt_trichotomy p q with hl | hl | hl
  · have h1 := h.one (by have := k.le; omega)
    rw [k.zero p hl] at h1; cases h1
  · exact hl
  · have h1 := k.one (by have := h.le; omega)
    rw [h.zero q hl] at h1; cases h1

theorem low_is (i : Nat) : ∀ n d, n ≤ d → d ≤ 16 → (∀ b, n ≤ b → b < d → bit i b = false) → (d < 16 → bit i d = true) → IsPlace i (low i d n)
  | 0, d, h, hd, hz, ho => ⟨hd, fun b hb => hz b (Nat.zero_le _) hb, ho⟩
  | n + 1, d, h, hd, hz, ho => by
    by_cases hb : bit i n = true
    · have hv : (Fin.ofNat 16 n).val = n := Nat.mod_eq_of_lt (by omega)
      have e : low i d (n + 1) = low i n n := by rw [low, ones, if_pos hb, List.foldl_cons, hv]; rfl
      rw [e]
      exact low_is i n n (Nat.le_refl _) (by omega) (fun b h1 h2 => by omega) (fun _ => hb)
    · have e : low i d (n + 1) = low i d n := by rw [low, ones, if_neg hb]; rfl
      rw [e]
      refine low_is i n d (by omega) hd (fun b h1 h2 => ?_) ho
      by_cases h3 : b = n
      · subst h3; simpa using hb
      · exact hz b (by omega) h2

theorem placeN_is (i : Nat) : IsPlace i (placeN i) := low_is i 16 16 (Nat.le_refl _) (Nat.le_refl _) (fun b h1 h2 => by omega) (fun h => by omega)

theorem place_of {n : Nat} (h : n < 65536) : place (n : Int) = placeN n := by
  rw [place, if_pos (num_of h)]; rfl
theorem place_no {i : Int} (h : num i = false) : place i = 0 := by rw [place, h]; rfl
theorem place_le (i : Int) : place i ≤ 16 := by
  unfold place
  split
  · exact (placeN_is _).le
  · omega

/-- A number is a multiple of 2 to its place. -/
theorem mul_of_zero (i : Nat) : ∀ p, (∀ b, b < p → bit i b = false) → 2 ^ p * (i / 2 ^ p) = i
  | 0, _ => by simp
  | p + 1, h => by
    have h1 := mul_of_zero i p (fun b hb => h b (by omega))
    have h2 := h p (by omega)
    rw [bit] at h2
    have h3 : i / 2 ^ p % 2 = 0 := by
      have h4 : i / 2 ^ p % 2 ≠ 1 := by simpa using h2
      omega
    have h4 : 2 * (i / 2 ^ p / 2) = i / 2 ^ p := by omega
    rw [Nat.pow_succ, ← Nat.div_div_eq_div_mul, Nat.mul_assoc, h4]
    exact h1

theorem place_mul (i : Nat) : 2 ^ placeN i * (i / 2 ^ placeN i) = i := mul_of_zero i _ (placeN_is i).zero

/-- A number that is a multiple has no bit below. -/
theorem zero_of_mul (m p b : Nat) (hb : b < p) : bit (2 ^ p * m) b = false := by
  rw [bit, show p = b + (1 + (p - b - 1)) by omega, Nat.pow_add, Nat.mul_assoc, Nat.mul_div_cancel_left _ (Nat.two_pow_pos b), Nat.pow_add, Nat.mul_assoc]
  simp

theorem le_place {m p i : Nat} (hi : i = 2 ^ p * m) (hp : p ≤ 16) : p ≤ placeN i := by
  rcases Nat.lt_or_ge (placeN i) p with h | h
  · have h1 := (placeN_is i).one (by omega)
    rw [hi] at h1 h
    rw [zero_of_mul m p _ h] at h1
    cases h1
  · exact h

/-- The secret from tells the secret to: numbers. -/
def canN (x y : Nat) : Bool := x / 2 ^ placeN x == y / 2 ^ placeN x
def can (x y : Int) : Bool := num x && num y && canN x.toNat y.toNat

theorem can_of {x y : Nat} (hx : x < 65536) (hy : y < 65536) : can (x : Int) (y : Int) = canN x y := by
  rw [can, num_of hx, num_of hy]; rfl

theorem canN_above (x y : Nat) : canN x y = (decide (x ≤ y) && decide (y < x + 2 ^ placeN x)) := by
  have h := place_mul x
  obtain ⟨q, hq⟩ : ∃ q, q = 2 ^ placeN x := ⟨_, rfl⟩
  have hq0 : 0 < q := by rw [hq]; exact Nat.two_pow_pos _
  rw [canN]
  rw [← hq] at h ⊢
  obtain ⟨k, hk⟩ : ∃ k, k = x / q := ⟨_, rfl⟩
  rw [← hk] at h ⊢
  have h1 : y / q = k ↔ x ≤ y ∧ y < x + q := by
    rw [Nat.div_eq_iff hq0, ← h, Nat.mul_comm k q]
    omega
  rw [Bool.eq_iff_iff]
  simp only [beq_iff_eq, Bool.and_eq_true, decide_eq_true_eq]
  rw [← h1]
  exact eq_comm

theorem canN_refl (x : Nat) : canN x x = true := by simp [canN]

theorem canN_zero {x : Nat} (h : x < 65536) : canN 0 x = true := by
  have h1 : placeN 0 = 16 := by decide
  rw [canN, h1]
  simp
  omega

/-- What is told lies at a place no higher. -/
theorem canN_place {x y : Nat} (h : canN x y = true) : placeN y ≤ placeN x := by
  rcases Nat.le_total (placeN y) (placeN x) with h1 | h1
  · exact h1
  · have e : x / 2 ^ placeN x = y / 2 ^ placeN x := by simpa [canN] using h
    have hy : 2 ^ placeN x * (y / 2 ^ placeN x) = y := mul_of_zero y _ (fun b hb => (placeN_is y).zero b (by omega))
    have hx := place_mul x
    rw [e, hy] at hx
    rw [hx]
    exact Nat.le_refl _

theorem canN_trans {x y z : Nat} (h : canN x y = true) (k : canN y z = true) : canN x z = true := by
  have hp := canN_place h
  have e1 : x / 2 ^ placeN x = y / 2 ^ placeN x := by simpa [canN] using h
  have e2 : y / 2 ^ placeN y = z / 2 ^ placeN y := by simpa [canN] using k
  have e3 : ∀ t : Nat, t / 2 ^ placeN x = t / 2 ^ placeN y / 2 ^ (placeN x - placeN y) := fun t => by
    rw [Nat.div_div_eq_div_mul, ← Nat.pow_add, show placeN y + (placeN x - placeN y) = placeN x by omega]
  simp only [canN, beq_iff_eq]
  rw [e1, e3 y, e2, ← e3 z]

/-- The same bits from the place on. -/
theorem canN_bits {x y : Nat} (h : canN x y = true) {b : Nat} (hb : placeN x ≤ b) : bit x b = bit y b := by
  have e : x / 2 ^ placeN x = y / 2 ^ placeN x := by simpa [canN] using h
  have e3 : ∀ t : Nat, t / 2 ^ b = t / 2 ^ placeN x / 2 ^ (b - placeN x) := fun t => by
    rw [Nat.div_div_eq_div_mul, ← Nat.pow_add, show placeN x + (b - placeN x) = b by omega]
  rw [bit, bit, e3 x, e3 y, e]

theorem div_of_bits (x y p : Nat) (hx : x < 65536) (hy : y < 65536) (h : ∀ b, p ≤ b → b < 16 → bit x b = bit y b) : x / 2 ^ p = y / 2 ^ p := by
  apply Nat.eq_of_testBit_eq
  intro j
  rw [Nat.testBit_div_two_pow, Nat.testBit_div_two_pow, Nat.add_comm]
  by_cases hj : p + j < 16
  · rw [← bit_testBit, ← bit_testBit]
    exact h (p + j) (by omega) hj
  · have h1 : ∀ t : Nat, t < 65536 → t.testBit (p + j) = false := fun t ht => Nat.testBit_lt_two_pow (Nat.lt_of_lt_of_le ht (show 2 ^ 16 ≤ 2 ^ (p + j) from Nat.pow_le_pow_right (by omega) (by omega)))
    rw [h1 x hx, h1 y hy]

theorem ones_len (i : Nat) : ∀ n, (ones i n).length ≤ n
  | 0 => Nat.le_refl _
  | n + 1 => by
    have := ones_len i n
    rw [ones]
    split
    · simp; omega
    · omega

theorem ones_one {i n : Nat} (h : bit i n = true) : ones i (n + 1) = Fin.ofNat 16 n :: ones i n := by rw [ones, if_pos h]
theorem ones_none {i n : Nat} (h : bit i n = false) : ones i (n + 1) = ones i n := by rw [ones, if_neg (by simp [h])]
end Go.Proofs.YtnpgcgemifoddaaDoor
