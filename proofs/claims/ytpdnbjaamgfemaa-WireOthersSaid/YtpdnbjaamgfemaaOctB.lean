/- Plain facts on the bytes of numbers, the highest one first. -/
import Derived.Test.YtpdnbjaamgfemaaOct7
import Derived.Lib.SmallJoins
namespace Go.Proofs.Ytpdnbjaamgfemaa
open Go.RowKit
set_option linter.unusedVariables false
set_option maxRecDepth 100000

theorem str_toList (l : List UInt8) : (str l).toList = l := by
  rw [ByteArray.toList_eq]; rfl

theorem str_data (s : ByteArray) : str s.data.toList = s := by
  apply ByteArray.ext
  simp [str]

theorem beBytes_length (n k : Nat) : (beBytes n k).length = k := by simp [beBytes]

theorem beBytes_succ (n k : Nat) : beBytes n (k + 1) = UInt8.ofNat (n / 2 ^ (8 * k) % 256) :: beBytes n k := by
  unfold beBytes
  rw [List.range_succ_eq_map, List.map_cons, List.map_map]
  congr 1
  apply List.map_congr_left
  intro j hj
  simp only [Function.comp, beByte]
  congr 4
  omega

theorem pow8 (k : Nat) : (2 : Nat) ^ (8 * k) = 256 ^ k := by rw [show 256 = 2 ^ 8 from rfl, ← Nat.pow_mul]

theorem mod_split (x k : Nat) : x % 256 ^ (k + 1) = x / 256 ^ k % 256 * 256 ^ k + x % 256 ^ k := by
  rw [Nat.pow_succ, Nat.mod_mul]
  rw [Nat.mul_comm (256 ^ k), Nat.add_comm]

theorem lex_lt (P a b r s : Nat) (hr : r < P) (hs : s < P) : a * P + r < b * P + s ↔ a < b ∨ (a = b ∧ r < s) := by
  constructor
  · intro h
    rcases Nat.lt_trichotomy a b with h1 | h1 | h1
    · exact .inl h1
    · subst h1; exact .inr ⟨rfl, by omega⟩
    · have := Nat.mul_le_mul_right P (show b + 1 ≤ a from h1)
      rw [Nat.add_mul] at this
      omega
  · rintro (h1 | ⟨h1, h2⟩)
    · have := Nat.mul_le_mul_right P (show a + 1 ≤ b from h1)
      rw [Nat.add_mul] at this
      omega
    · subst h1; omega

theorem beBytes_less (x y : Nat) : ∀ k, Op.bytesLess (beBytes x k) (beBytes y k) = decide (x % 256 ^ k < y % 256 ^ k)
  | 0 => by simp [beBytes, Op.bytesLess, Nat.mod_one]
  | k + 1 => by
    rw [beBytes_succ, beBytes_succ, Op.bytesLess, beBytes_less x y k, mod_split x, mod_split y, Bool.eq_iff_iff]
    have h := lex_lt (256 ^ k) (x / 256 ^ k % 256) (y / 256 ^ k % 256) (x % 256 ^ k) (y % 256 ^ k) (Nat.mod_lt _ (Nat.pos_of_ne_zero (by simp))) (Nat.mod_lt _ (Nat.pos_of_ne_zero (by simp)))
    rw [pow8]
    have e1 : (UInt8.ofNat (x / 256 ^ k % 256) < UInt8.ofNat (y / 256 ^ k % 256)) ↔ x / 256 ^ k % 256 < y / 256 ^ k % 256 := by
      rw [UInt8.lt_iff_toNat_lt]; simp
    have e2 : (UInt8.ofNat (x / 256 ^ k % 256) == UInt8.ofNat (y / 256 ^ k % 256)) = true ↔ x / 256 ^ k % 256 = y / 256 ^ k % 256 := by
      rw [beq_iff_eq, ← UInt8.toNat_inj]; simp
    simp only [Bool.or_eq_true, Bool.and_eq_true, decide_eq_true_eq, e1, e2, h]

theorem beBytes_zero (x k : Nat) (h : x < 256 ^ k) : beBytes x (k + 1) = 0 :: beBytes x k := by
  rw [beBytes_succ, pow8, Nat.div_eq_of_lt h]; rfl

theorem beNat_beBytes (x : Nat) : ∀ k, beNat (beBytes x k) = x % 256 ^ k := by
  have h : ∀ k n, (beBytes x k).foldl (fun n b => n * 256 + b.toNat) n = n * 256 ^ k + x % 256 ^ k := by
    intro k
    induction k with
    | zero => intro n; simp [beBytes, Nat.mod_one]
    | succ k ih =>
      intro n
      rw [beBytes_succ, List.foldl_cons, ih, mod_split, pow8]
      simp only [UInt8.toNat_ofNat', Nat.mod_mod]
      rw [Nat.add_mul, Nat.pow_succ, Nat.mul_assoc, Nat.mul_comm (256 ^ k) 256, Nat.add_assoc]
  intro k
  rw [beNat, h]
  simp

end Go.Proofs.Ytpdnbjaamgfemaa
