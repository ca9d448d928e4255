/- The secrets of layer 4: what is derived of one, bit by bit. -/
import Derived.Test.YtnpgcgemifoddaaDoorSecM
import Derived.Test.YtnpgcgemifoddaaDoorSeaM
namespace Go.Proofs.YtnpgcgemifoddaaDoor
set_option linter.unusedVariables false

/-- 32 bytes. -/
structure H32 (h : List Nat) : Prop where
  len : h.length = 32
  b8 : B8 h

/-- The bit b of h turned. -/
def turnL (h : List Nat) (b : Nat) : List Nat := h.set (b / 8) (h.getD (b / 8) 0 ^^^ 2 ^ (b % 8))
/-- One step: the bit b turned, and the sum of that. -/
def stepL (h : List Nat) (b : Nat) : List Nat := sumL (bn (turnL h b))
/-- The steps of the bits of i below n. -/
def walkL (h : List Nat) (i n : Nat) : List Nat := (ones i n).foldl (fun h b => stepL h b.val) h

theorem B8.set {l : List Nat} (h : B8 l) (i : Nat) {x : Nat} (hx : x < 256) : B8 (l.set i x) := fun y hy => by
  rcases List.mem_or_eq_of_mem_set hy with h1 | h1
  · exact h y h1
  · exact h1 ▸ hx
theorem pow8_lt (b : Nat) : 2 ^ (b % 8) < 256 := Nat.lt_of_le_of_lt (Nat.pow_le_pow_right (by omega) (show b % 8 ≤ 7 by omega)) (by decide)
theorem xor8_lt {a b : Nat} (ha : a < 256) (hb : b < 256) : a ^^^ b < 256 := Nat.xor_lt_two_pow (n := 8) ha hb
theorem turnL_h {h : List Nat} (hh : H32 h) (b : Nat) : H32 (turnL h b) := ⟨by rw [turnL, List.length_set, hh.len], hh.b8.set _ (xor8_lt (hh.b8.getD _) (pow8_lt b))⟩
theorem sumL_h (s : List UInt8) : H32 (sumL s) := ⟨sumL_len s, sumL_b8 s⟩
theorem stepL_h (h : List Nat) (b : Nat) : H32 (stepL h b) := sumL_h _
theorem zeros_h : H32 (List.replicate 32 0) := ⟨by simp, fun x hx => by rw [List.eq_of_mem_replicate hx]; decide⟩
theorem fold_h : ∀ (l : List (Fin 16)) {h : List Nat}, H32 h → H32 (l.foldl (fun h b => stepL h b.val) h)
  | [], _, hh => hh
  | b :: l, h, hh => by rw [List.foldl_cons]; exact fold_h l (stepL_h h b.val)
theorem walkL_h {h : List Nat} (hh : H32 h) (i n : Nat) : H32 (walkL h i n) := fold_h _ hh

/-- The steps of some bits, one behind the other. -/
def stepsL (h : List Nat) (l : List (Fin 16)) : List Nat := l.foldl (fun h b => stepL h b.val) h
theorem stepsL_nil (h : List Nat) : stepsL h [] = h := rfl
theorem stepsL_snoc (h : List Nat) (l : List (Fin 16)) (b : Fin 16) : stepsL h (l ++ [b]) = stepL (stepsL h l) b.val := by
  simp only [stepsL, List.foldl_append, List.foldl_cons, List.foldl_nil]
theorem stepsL_h {h : List Nat} (hh : H32 h) (l : List (Fin 16)) : H32 (stepsL h l) := fold_h l hh
theorem stepsL_walk (h : List Nat) (i n : Nat) : stepsL h (ones i n) = walkL h i n := rfl

theorem walkL_one {i n : Nat} (h : List Nat) (hn : n < 16) (hb : bit i n = true) : walkL h i (n + 1) = walkL (stepL h n) i n := by
  rw [walkL, ones_one hb, List.foldl_cons, show (Fin.ofNat 16 n).val = n from Nat.mod_eq_of_lt hn]
  rfl
theorem walkL_none {i n : Nat} (h : List Nat) (hb : bit i n = false) : walkL h i (n + 1) = walkL h i n := by
  rw [walkL, ones_none hb]
  rfl

theorem walkL_same {i j : Nat} : ∀ (n : Nat) (h : List Nat), n ≤ 16 → (∀ b, b < n → bit i b = bit j b) → walkL h i n = walkL h j n
  | 0, h, _, _ => rfl
  | n + 1, h, hn, hb => by
    have ih := fun h => walkL_same n h (by omega) (fun b hlt => hb b (by omega))
    have e := hb n (by omega)
    cases hq : bit i n with
    | true => rw [walkL_one h (by omega) hq, walkL_one h (by omega) (e ▸ hq), ih]
    | false => rw [walkL_none h hq, walkL_none h (e ▸ hq), ih]

theorem walkL_zero {j : Nat} : ∀ (n : Nat) (h : List Nat), (∀ b, b < n → bit j b = false) → walkL h j n = h
  | 0, h, _ => rfl
  | n + 1, h, hb => by rw [walkL_none h (hb n (by omega))]; exact walkL_zero n h (fun b hlt => hb b (by omega))

/-- The steps from n down to p by the bits of j, and on by those of i: as at once, where both have the same bits there. -/
theorem walkL_split {i j p : Nat} (hz : ∀ b, b < p → bit j b = false) : ∀ (n : Nat) (h : List Nat), p ≤ n → n ≤ 16 → (∀ b, p ≤ b → b < n → bit i b = bit j b) → walkL (walkL h j n) i p = walkL h i n
  | 0, h, hp, _, _ => by
    obtain rfl : p = 0 := by omega
    rfl
  | n + 1, h, hp, hn, hb => by
    by_cases he : p = n + 1
    · subst he
      rw [walkL_zero (n + 1) h hz]
    · have ih := fun h => walkL_split hz n h (by omega) (by omega) (fun b h1 h2 => hb b h1 (by omega))
      have e := hb n (by omega) (by omega)
      cases hq : bit i n with
      | true => rw [walkL_one h (by omega) hq, walkL_one h (by omega) (e ▸ hq), ih]
      | false => rw [walkL_none h hq, walkL_none h (e ▸ hq), ih]

/-- The last step alone. -/
theorem walkL_last {i j l : Nat} (hi : bit i l = true) (hj : bit j l = false) (hzi : ∀ b, b < l → bit i b = false) (hzj : ∀ b, b < l → bit j b = false) :
    ∀ (n : Nat) (h : List Nat), l < n → n ≤ 16 → (∀ b, l < b → b < n → bit i b = bit j b) → walkL h i n = stepL (walkL h j n) l
  | 0, h, hl, _, _ => by omega
  | n + 1, h, hl, hn, hb => by
    by_cases he : l = n
    · subst he
      rw [walkL_one h (by omega) hi, walkL_none h hj, walkL_zero l _ hzi, walkL_zero l _ hzj]
    · have ih := fun h => walkL_last hi hj hzi hzj n h (by omega) (by omega) (fun b h1 h2 => hb b h1 (by omega))
      have e := hb n (by omega) (by omega)
      cases hq : bit i n with
      | true => rw [walkL_one h (by omega) hq, walkL_one h (by omega) (e ▸ hq), ih]
      | false => rw [walkL_none h hq, walkL_none h (e ▸ hq), ih]

/-- A number without its lowest bit. -/
theorem without_low {i : Nat} (h0 : 0 < i) (hi : i < 65536) : placeN i < 16 ∧ 2 ^ placeN i ≤ i ∧
    bit i (placeN i) = true ∧ bit (i - 2 ^ placeN i) (placeN i) = false ∧ (∀ b, b < placeN i → bit (i - 2 ^ placeN i) b = false) ∧ (∀ b, placeN i < b → bit i b = bit (i - 2 ^ placeN i) b) := by
  have hm := place_mul i
  have hP := placeN_is i
  obtain ⟨p, hp⟩ : ∃ p, p = placeN i := ⟨_, rfl⟩
  rw [← hp] at hm hP ⊢
  obtain ⟨m, hm2⟩ : ∃ m, m = i / 2 ^ p := ⟨_, rfl⟩
  rw [← hm2] at hm
  have hm0 : m ≠ 0 := fun e => by rw [e] at hm; omega
  have hp16 : p < 16 := by
    rcases Nat.lt_or_ge p 16 with h | h
    · exact h
    · have e : p = 16 := by have := hP.le; omega
      rw [e] at hm
      omega
  have ho := hP.one hp16
  have hodd : m % 2 = 1 := by
    rw [bit, ← hm2] at ho
    simpa using ho
  obtain ⟨k, hk⟩ : ∃ k, m = 2 * k + 1 := ⟨m / 2, by omega⟩
  have hj : i - 2 ^ p = 2 ^ (p + 1) * k := by
    have : i = 2 ^ (p + 1) * k + 2 ^ p := by
      rw [← hm, hk, Nat.mul_add, Nat.mul_one, Nat.pow_succ, Nat.mul_assoc]
    omega
  have hle : 2 ^ p ≤ i := by
    rw [← hm]
    exact Nat.le_mul_of_pos_right _ (by omega)
  refine ⟨hp16, hle, ho, ?_, ?_, ?_⟩
  · rw [hj]; exact zero_of_mul k (p + 1) p (by omega)
  · intro b hb
    rw [hj]; exact zero_of_mul k (p + 1) b (by omega)
  · intro b hb
    have e1 : i / 2 ^ (p + 1) = k := by
      rw [Nat.pow_succ, ← Nat.div_div_eq_div_mul, ← hm2, hk]
      omega
    have e2 : (2 ^ (p + 1) * k) / 2 ^ (p + 1) = k := Nat.mul_div_cancel_left _ (Nat.two_pow_pos _)
    have e3 : ∀ t : Nat, t / 2 ^ b = t / 2 ^ (p + 1) / 2 ^ (b - (p + 1)) := fun t => by
      rw [Nat.div_div_eq_div_mul, ← Nat.pow_add, show p + 1 + (b - (p + 1)) = b by omega]
    rw [bit, bit, hj, e3 i, e1, e3 (2 ^ (p + 1) * k), e2]

/-! ### What the layer answers -/
def dErr (x y : Int) : Int := if can x y then 0 else 1
def dSec (h : List Nat) (x y : Int) : List Nat := if can x y then walkL h y.toNat (place x) else List.replicate 32 0
def mErr (i : Int) : Int := if num i then 0 else 1
def mSec (h : List Nat) (i : Int) : List Nat := if num i then walkL h i.toNat 16 else List.replicate 32 0

theorem dSec_h {h : List Nat} (hh : H32 h) (x y : Int) : H32 (dSec h x y) := by
  unfold dSec
  split
  · exact walkL_h hh _ _
  · exact zeros_h
theorem mSec_h {h : List Nat} (hh : H32 h) (x : Int) : H32 (mSec h x) := by
  unfold mSec
  split
  · exact walkL_h hh _ _
  · exact zeros_h
theorem can_zero (i : Int) : can 0 i = num i := by
  by_cases h : num i = true
  · obtain ⟨n, rfl, hn⟩ := num_nat h
    rw [h, show (0 : Int) = ((0 : Nat) : Int) from rfl, can_of (by decide) hn, canN_zero hn]
  · have h' : num i = false := by simpa using h
    rw [can, h']
    simp
theorem place_zero : place 0 = 16 := by decide
theorem m_of_d (h : List Nat) (i : Int) : dSec h 0 i = mSec h i ∧ dErr 0 i = mErr i := by
  rw [dSec, mSec, dErr, mErr, can_zero, place_zero]
  exact ⟨rfl, rfl⟩

theorem mSec_num (h : List Nat) {i : Nat} (hi : i < 65536) : mSec h (i : Int) = walkL h i 16 := by
  rw [mSec, if_pos (num_of hi)]; rfl
theorem mErr_num {i : Nat} (hi : i < 65536) : mErr (i : Int) = 0 := by rw [mErr, if_pos (num_of hi)]
theorem dSec_num (h : List Nat) {x y : Nat} (hx : x < 65536) (hy : y < 65536) (hc : canN x y = true) : dSec h (x : Int) (y : Int) = walkL h y (placeN x) := by
  rw [dSec, can_of hx hy, if_pos hc, place_of hx]; rfl
theorem dErr_num {x y : Nat} (hx : x < 65536) (hy : y < 65536) (hc : canN x y = true) : dErr (x : Int) (y : Int) = 0 := by rw [dErr, can_of hx hy, if_pos hc]
theorem dErr_no {x y : Int} (h : can x y = false) : dErr x y = 1 := by rw [dErr, h]; rfl
theorem dSec_no (h : List Nat) {x y : Int} (hc : can x y = false) : dSec h x y = List.replicate 32 0 := by rw [dSec, hc]; rfl

/-- What is derived of a secret is the secret of that number. -/
theorem derives (s : List Nat) {x y : Nat} (hx : x < 65536) (hy : y < 65536) (hc : canN x y = true) : dSec (mSec s (x : Int)) (x : Int) (y : Int) = mSec s (y : Int) := by
  rw [dSec_num _ hx hy hc, mSec_num s hx, mSec_num s hy]
  exact walkL_split (placeN_is x).zero 16 s (placeN_is x).le (Nat.le_refl _) (fun b h1 _ => (canN_bits hc h1).symm)

/-- By a number between. -/
theorem dfar (h : List Nat) {a b c : Nat} (ha : a < 65536) (hb : b < 65536) (hc : c < 65536) (k1 : canN a b = true) (k2 : canN b c = true) :
    dSec (dSec h (a : Int) (b : Int)) (b : Int) (c : Int) = dSec h (a : Int) (c : Int) := by
  rw [dSec_num _ ha hb k1, dSec_num _ hb hc k2, dSec_num _ ha hc (canN_trans k1 k2)]
  exact walkL_split (placeN_is b).zero _ h (canN_place k1) (placeN_is a).le (fun t h1 _ => (canN_bits k2 h1).symm)

/-- By the lowest bit alone. -/
theorem dstep (s : List Nat) {i : Nat} (h0 : 0 < i) (hi : i < 65536) : mSec s (i : Int) = stepL (mSec s ((i - 2 ^ placeN i : Nat) : Int)) (placeN i) := by
  obtain ⟨h1, h2, h3, h4, h5, h6⟩ := without_low h0 hi
  rw [mSec_num s hi, mSec_num s (Nat.lt_of_le_of_lt (Nat.sub_le _ _) hi)]
  exact walkL_last h3 h4 (placeN_is i).zero h5 16 s h1 (Nat.le_refl _) (fun b hb _ => h6 b hb)
end Go.Proofs.YtnpgcgemifoddaaDoor
